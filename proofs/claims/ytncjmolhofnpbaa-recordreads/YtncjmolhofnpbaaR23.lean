/- Decode: the document. -/
import Derived.Test.YtncjmolhofnpbaaR22
namespace Go.Proofs.Ytncjmolhofnpbaa
open Go.RowKit

section
variable {w : World} {a : Act} {o : Oper}
theorem run_remU8 (x : Operand) (ho : o.op = .binOp .rem 5 x (.const (.int .u8 2)) 5) (k : Nat) (hx : a.eval x = .int .u8 (k : Nat)) : (execOp a.eval o).run Try.prog w = .ok (.value (.int .u8 ((k % 2 : Nat) : Int))) w := by
  have e : a.eval (.const (.int .u8 2)) = .int .u8 2 := rfl
  have e1 : (k : Int).tmod 2 = (k : Int) % 2 := Int.tmod_eq_emod_of_nonneg (by omega)
  simp only [execOp, ho, hx, e]
  simp [go_sem]
  exact e1
theorem run_quoU8 (x : Operand) (ho : o.op = .binOp .quo 5 x (.const (.int .u8 2)) 5) (k : Nat) (hk : k < 256) (hx : a.eval x = .int .u8 (k : Nat)) : (execOp a.eval o).run Try.prog w = .ok (.value (.int .u8 ((k / 2 : Nat) : Int))) w := by
  have e : a.eval (.const (.int .u8 2)) = .int .u8 2 := rfl
  have e1 : IntKind.u8.wrap ((k : Int) / 2) = (k : Int) / 2 := by
    simp [IntKind.wrap, IntKind.signed, IntKind.bits]
    omega
  simp only [execOp, ho, hx, e]
  simp [go_sem]
  exact e1
theorem run_eqB1 (x : Operand) (ho : o.op = .binOp .eql 5 x (.const (.int .u8 1)) 5) (k : Nat) (hx : a.eval x = .int .u8 (k : Nat)) : (execOp a.eval o).run Try.prog w = .ok (.value (.bool (decide (k = 1)))) w := by
  have e : a.eval (.const (.int .u8 1)) = .int .u8 1 := rfl
  simp only [execOp, ho, hx, e]
  by_cases h : k = 1
  · subst h; simp [go_sem]
  · have h2 : ¬ (k : Int) = 1 := by omega
    simp [go_sem, h, h2]
theorem run_gtB (c : Nat) (x : Operand) (ho : o.op = .binOp .gtr 5 x (.const (.int .u8 (c : Nat))) 5) (k : Nat) (hx : a.eval x = .int .u8 (k : Nat)) (b : Bool) (hb : decide ((c : Int) < (k : Int)) = b) : (execOp a.eval o).run Try.prog w = .ok (.value (.bool b)) w := by
  subst hb
  have e : a.eval (.const (.int .u8 (c : Nat))) = .int .u8 (c : Nat) := rfl
  simp only [execOp, ho, hx, e]
  simp [go_sem]
theorem run_mulI (c : Nat) (y : Operand) (ho : o.op = .binOp .mul 3 (.const (.int .i64 (c : Nat))) y 3) (n : Nat) (h : c * n < 1000000) (hy : a.eval y = .int .i64 (n : Nat)) : (execOp a.eval o).run Try.prog w = .ok (.value (.int .i64 ((c * n : Nat) : Int))) w := by
  have e0 : a.eval (.const (.int .i64 (c : Nat))) = .int .i64 (c : Nat) := rfl
  have hr : (binOp .mul 3 (.int .i64 (c : Nat)) (.int .i64 (n : Nat))).run Try.prog w = .ok (.int .i64 (IntKind.i64.wrap ((c : Int) * (n : Int)))) w := by simp [binOp, go_sem]
  have e2 : IntKind.i64.wrap ((c : Int) * (n : Int)) = ((c * n : Nat) : Int) := by
    rw [← Int.natCast_mul]
    generalize c * n = m at *
    simp [IntKind.wrap, IntKind.signed, IntKind.bits]
    omega
  have e : (eqGuard .mul 3 (.const (.int .i64 (c : Nat))) y (.int .i64 (c : Nat)) (.int .i64 (n : Nat))).run Try.prog w = .ok () w := rfl
  simp only [execOp, ho, e0, hy, e, hr, e2, Sem.run_bind, Sem.run_pure, Result.andThen_ok]
theorem run_bldId (x : Operand) (ho : o.op = .build 26 #[(0, x)]) (id : List Nat) (hx : a.eval x = str id) : (execOp a.eval o).run Try.prog w = .ok (.value (.agg (rcells { rz with id := id } (.slice none 0 0)).toArray)) w := by
  have hr : ∀ s : ByteArray, (Instr.build 26 #[(0, .string s)]).run Try.prog w = .ok (.agg (.string s :: (rcells rz (.slice none 0 0)).tail).toArray) w := fun s => by kernel_rfl
  simp only [execOp, ho, List.map_toArray, List.map_cons, List.map_nil, hx, str, hr, Sem.run_bind, Sem.run_pure, Result.andThen_ok]
  rfl
end
theorem growK {w W W' : World} {q2 q5 : Nat} {c2 c5 : List Value} {vc : Value} {ps : List Pc} (h : Loc w W [(q2, 26, c2), (q5, 26, c5)]) (ho : POwn W w.heap.size vc ps) (hg : W.grownBy W' vc.ownBlock) : Loc w W' [(q2, 26, c2), (q5, 26, c5)] := by
  have hbl : Below w.heap.size W W' := (Below.refl _ W).grown hg h.below.size fun k hk => (ho.lt k hk).1
  refine h.keep hbl fun i q T c e => ?_
  have hr := h.at i e
  have hT : T ≠ 43 := by
    match i, e with
    | 0, e => cases e; decide
    | 1, e => cases e; decide
    | i + 2, e => simp at e
  exact hg.block q hr.lt (fun e2 => ho.ne hr hT e2.symm)
theorem setRoot (r : Rc) (vc : Value) (k : Nat) (root : List Nat) (h : root.length = 32) (hk : k < 32) (c : Nat) (hc : c = root.getD k 0) : (rcells { r with root := fillR root k } vc).set (2 + k) (.int .u8 (c : Nat)) = rcells { r with root := fillR root (k + 1) } vc := by
  subst hc
  rw [show 2 + k = k + 1 + 1 by omega]
  simp only [rcells, List.set_cons_succ]
  rw [List.set_append_left _ _ (by rw [bcells_length, fillR_length root k h (by omega)]; exact hk), fillR_set root k h hk]
def RdK (w : World) (q2 q5 : Nat) (r : Rc) (b : List Nat) (W : World) (i : Nat) : Prop :=
  ∃ vc, Loc w W [(q2, 26, rcells rz (.slice none 0 0)), (q5, 26, rcells { r with cp := rawPs b i } vc)] ∧ POwn W w.heap.size vc (rawPs b i)
set_option maxHeartbeats 4000000 in
set_option maxRecDepth 100000 in
theorem refDecode_any (v : Value) (b : List Nat) (w : World) (hin : SliceIn w v b) : Calls Try.prog 16 #[v] w fun e w' => ∃ r vc er, e = .returned (.tuple #[.agg (rcells r vc).toArray, .int .i64 er]) ∧ DecS w w' b r vc er := by
  have HI : Hid (SliceIn w v b) := hin
  clear hin
  obtain ⟨PQ, HPQ⟩ : ∃ PQ : Ending → World → Prop, Hid (PQ = fun e w' => ∃ r vc er, e = .returned (.tuple #[.agg (rcells r vc).toArray, .int .i64 er]) ∧ DecS w w' b r vc er) := ⟨_, rfl⟩
  rw [← HPQ.out]
  obtain ⟨len, hlen⟩ : ∃ len, len = b.length := ⟨_, rfl⟩
  obtain ⟨n, hn⟩ : ∃ n, n = b.getD 0 0 := ⟨_, rfl⟩
  have HLEN : Hid (len = b.length ∧ len ≤ 9223372036854775807 ∧ n = b.getD 0 0 ∧ n < 256) := ⟨hlen, by rw [hlen]; exact SliceIn.len_max HI.out, hn, by rw [hn]; exact lt256 b (SliceIn.lt256 HI.out) 0⟩
  obtain ⟨l0, hl0⟩ : ∃ x, decide ((len : Int) < 1) = x := ⟨_, rfl⟩
  obtain ⟨lb, hlb⟩ : ∃ x, decide ((len : Int) < ((1 + n + 46 : Nat) : Int)) = x := ⟨_, rfl⟩
  have HL : Hid (decide ((len : Int) < 1) = l0 ∧ decide ((len : Int) < ((1 + n + 46 : Nat) : Int)) = lb) := ⟨hl0, hlb⟩
  have HAD : Hid (1 + n < 1000000 ∧ 1 + n + 46 < 1000000) := (by have := HLEN.out.2.2.2; exact ⟨by omega, by omega⟩)
  obtain ⟨ZL, hZL⟩ : ∃ l : List Nat, l = List.replicate 32 0 := ⟨_, rfl⟩
  have HZ : Hid (ZL = List.replicate 32 0 ∧ ZL.length = 32) := ⟨hZL, by rw [hZL]; exact List.length_replicate ..⟩
  clear hlen hn hl0 hlb hZL
  have R0 : Hid (Loc w w []) := Loc.nil (Below.refl _ w)
  go_enter Try.func16, Try.ntmps16
  go_upto_region 0 with fail
  refine wp_region_lit ?_
  refine wl rfl (ptr w.heap.size) _ (run_allocA (rcells rz (.slice none 0 0)) zero26 rfl) ?_
  have k_ := R0.out.box 26 (rcells rz (.slice none 0 0))
  obtain ⟨w1, hW_⟩ : ∃ W, W = w.alloc (.cells (rcells rz (.slice none 0 0)).toArray 26) := ⟨_, rfl⟩
  have hB_ : Below w.heap.size w w1 := hW_ ▸ below_alloc w _
  obtain ⟨q2, hq_⟩ : ∃ q, q = w.heap.size := ⟨_, rfl⟩
  rw [← hW_, ← hq_] at k_
  rw [← hW_, ← hq_]
  clear hq_
  have Rw1 : Hid (Loc w w1 [(q2, 26, rcells rz (.slice none 0 0))]) := k_
  clear k_ hW_ R0
  clear hB_
  simp only [Act.put, List.setIfInBounds_toArray, List.set_cons_succ, List.set_cons_zero]
  refine wl rfl (.int .i64 0) _ (run_asZ (.const (.int .i64 0)) rfl (.int .i64 0) rfl) ?_
  simp only [Act.put, List.setIfInBounds_toArray, List.set_cons_succ, List.set_cons_zero]
  refine wpList_nil ?_
  by_cases h0 : l0 = true
  case pos =>
    have HT : Hid (l0 = true) := h0
    clear h0
    go_upto_region 1 with fail
    refine wp_region_lit ?_
    refine wl rfl v _ (run_mvZ (.tmp 0) rfl v rfl) ?_
    simp only [Act.put, List.setIfInBounds_toArray, List.set_cons_succ, List.set_cons_zero]
    refine wl rfl (.int .i64 (len : Nat)) _ (run_lenBn HI.out HLEN.out.1 (.tmp 11) rfl rfl) ?_
    simp only [Act.put, List.setIfInBounds_toArray, List.set_cons_succ, List.set_cons_zero]
    refine wl rfl (.bool l0) _ (run_lssZ (.tmp 12) (.const (.int .i64 1)) rfl (len : Nat) 1 rfl rfl l0 HL.out.1) ?_
    simp only [Act.put, List.setIfInBounds_toArray, List.set_cons_succ, List.set_cons_zero]
    refine wl rfl (.bool l0) _ (run_mvZ (.tmp 13) rfl (.bool l0) rfl) ?_
    simp only [Act.put, List.setIfInBounds_toArray, List.set_cons_succ, List.set_cons_zero]
    refine wpList_skip (by rw [HT.out]; kernel_rfl) ?_
    simp only [Act.put, List.setIfInBounds_toArray, List.set_cons_succ, List.set_cons_zero]
    refine wpList_skip (by rw [HT.out]; kernel_rfl) ?_
    simp only [Act.put, List.setIfInBounds_toArray, List.set_cons_succ, List.set_cons_zero]
    refine wpList_skip (by rw [HT.out]; kernel_rfl) ?_
    simp only [Act.put, List.setIfInBounds_toArray, List.set_cons_succ, List.set_cons_zero]
    refine wpList_skip (by rw [HT.out]; kernel_rfl) ?_
    simp only [Act.put, List.setIfInBounds_toArray, List.set_cons_succ, List.set_cons_zero]
    refine wpList_skip (by rw [HT.out]; kernel_rfl) ?_
    simp only [Act.put, List.setIfInBounds_toArray, List.set_cons_succ, List.set_cons_zero]
    refine wpList_skip (by rw [HT.out]; kernel_rfl) ?_
    simp only [Act.put, List.setIfInBounds_toArray, List.set_cons_succ, List.set_cons_zero]
    refine wpList_skip (by rw [HT.out]; kernel_rfl) ?_
    simp only [Act.put, List.setIfInBounds_toArray, List.set_cons_succ, List.set_cons_zero]
    refine wpList_skip (by rw [HT.out]; kernel_rfl) ?_
    simp only [Act.put, List.setIfInBounds_toArray, List.set_cons_succ, List.set_cons_zero]
    refine wpList_skip (by rw [HT.out]; kernel_rfl) ?_
    simp only [Act.put, List.setIfInBounds_toArray, List.set_cons_succ, List.set_cons_zero]
    refine wl rfl (.bool true) _ (run_pickZ (.tmp 14) (.const (.bool true)) (.tmp 23) rfl l0 (.bool true) rfl (by rw [HT.out]; rfl)) ?_
    simp only [Act.put, List.setIfInBounds_toArray, List.set_cons_succ, List.set_cons_zero]
    refine wpList_nil ?_
    go_upto_region 2 with fail
    refine wp_region_lit ?_
    refine wl rfl (.agg (rcells rz (.slice none 0 0)).toArray) _ (run_bld26 rfl) ?_
    simp only [Act.put, List.setIfInBounds_toArray, List.set_cons_succ, List.set_cons_zero]
    have hst := run_storeVar ag26 w1 q2 0 26 (rcells rz (.slice none 0 0)) (rcells rz (.slice none 0 0)) (rcells_length _ rz_fine.1) (Rw1.out.at 0 rfl) (by rw [Nat.zero_add]; exact Nat.le_refl _) (rcells_one (fits_of rz_fine (POwn.nil w1 0) (by decide)))
    rw [splice_all _ _ rfl] at hst
    refine wlS rfl rfl _ (run_stV (.tmp 2) (.tmp 25) rfl q2 0 rfl _ rfl hst) ?_
    have k_ := Rw1.out.set 0 rfl ((Rw1.out.at 0 rfl).setRow (rcells rz (.slice none 0 0))) ((Ch.refl (· = q2) w1).setRow (g := q2) (Or.inl rfl) _)
    obtain ⟨wb, hW_⟩ : ∃ W, W = w1.setRow q2 (rcells rz (.slice none 0 0)).toArray := ⟨_, rfl⟩
    rw [← hW_] at k_ ⊢
    have RB : Hid (Row wb q2 26 (rcells rz (.slice none 0 0)) ∧ Below w.heap.size w wb) := ⟨k_.at 0 rfl, k_.below⟩
    clear k_ hW_ hst Rw1
    refine wl rfl (.int .i64 110) _ (run_asZ (.const (.int .i64 110)) rfl (.int .i64 110) rfl) ?_
    simp only [Act.put, List.setIfInBounds_toArray, List.set_cons_succ, List.set_cons_zero]
    refine wpList_nil ?_
    go_wp2_with fail
    refine bodyPost_ret (results_cell_tmp ag26 Try.results16 _ _ q2 26 rfl _ (rcells_length _ rz_fine.1) RB.out.1) rfl ?_
    rw [HPQ.out]
    exact ⟨rz, (.slice none 0 0), 110, rfl, rz_fine, POwn.nil _ _, by decide, RB.out.2, Or.inl ⟨dec_fails (SliceIn.lt256 HI.out) (by rintro ⟨⟨h1, _⟩, _⟩; have h2 := HL.out.1; rw [HT.out] at h2; simp at h2; have := HLEN.out.1; omega), rfl, rfl⟩⟩
  obtain rfl : l0 = false := (by cases l0 with | false => rfl | true => exact absurd rfl h0)
  clear h0
  have HL1 : Hid (1 ≤ len) := (by have h2 := of_decide_eq_false HL.out.1; omega : 1 ≤ len)
  obtain ⟨i0, j0, hx0, hc0⟩ := ix_byte (HI.out.later Rw1.out.below) 0 (by have := HLEN.out.1; have := HL1.out; omega)
  have HC : Hid ((∀ w', (Instr.indexAt 28 v (.int .i64 0)).run Try.prog w' = .ok (.pointer (some ⟨i0, j0, none⟩)) w') ∧ w1.cell? ⟨i0, j0, none⟩ = some (.int .u8 (n : Nat))) := ⟨hx0, by rw [HLEN.out.2.2.1]; exact hc0⟩
  clear hx0 hc0
  go_upto_region 1 with fail
  refine wp_region_lit ?_
  refine wl rfl v _ (run_mvZ (.tmp 0) rfl v rfl) ?_
  simp only [Act.put, List.setIfInBounds_toArray, List.set_cons_succ, List.set_cons_zero]
  refine wl rfl (.int .i64 (len : Nat)) _ (run_lenBn HI.out HLEN.out.1 (.tmp 11) rfl rfl) ?_
  simp only [Act.put, List.setIfInBounds_toArray, List.set_cons_succ, List.set_cons_zero]
  refine wl rfl (.bool false) _ (run_lssZ (.tmp 12) (.const (.int .i64 1)) rfl (len : Nat) 1 rfl rfl false HL.out.1) ?_
  simp only [Act.put, List.setIfInBounds_toArray, List.set_cons_succ, List.set_cons_zero]
  refine wl rfl (.bool false) _ (run_mvZ (.tmp 13) rfl (.bool false) rfl) ?_
  simp only [Act.put, List.setIfInBounds_toArray, List.set_cons_succ, List.set_cons_zero]
  refine wl (by kernel_rfl) v _ (run_mvZ (.tmp 0) rfl v rfl) ?_
  simp only [Act.put, List.setIfInBounds_toArray, List.set_cons_succ, List.set_cons_zero]
  refine wl (by kernel_rfl) (.int .i64 (len : Nat)) _ (run_lenBn HI.out HLEN.out.1 (.tmp 15) rfl rfl) ?_
  simp only [Act.put, List.setIfInBounds_toArray, List.set_cons_succ, List.set_cons_zero]
  refine wl (by kernel_rfl) v _ (run_mvZ (.tmp 0) rfl v rfl) ?_
  simp only [Act.put, List.setIfInBounds_toArray, List.set_cons_succ, List.set_cons_zero]
  refine wl (by kernel_rfl) (.pointer (some ⟨i0, j0, none⟩)) _ (run_idx (.tmp 17) (.const (.int .i64 0)) rfl v _ _ rfl rfl HC.out.1) ?_
  simp only [Act.put, List.setIfInBounds_toArray, List.set_cons_succ, List.set_cons_zero]
  refine wl (by kernel_rfl) (.int .u8 (n : Nat)) _ (run_load1 o5 (.tmp 18) rfl i0 (j0) rfl (.int .u8 (n : Nat)) HC.out.2) ?_
  simp only [Act.put, List.setIfInBounds_toArray, List.set_cons_succ, List.set_cons_zero]
  refine wl (by kernel_rfl) (.int .i64 (n : Nat)) _ (run_u8int (.tmp 19) rfl n HLEN.out.2.2.2 rfl) ?_
  simp only [Act.put, List.setIfInBounds_toArray, List.set_cons_succ, List.set_cons_zero]
  refine wl (by kernel_rfl) (.int .i64 ((1 + n : Nat) : Int)) _ (run_addI (.const (.int .i64 1)) (.tmp 20) rfl 1 n HAD.out.1 rfl rfl) ?_
  simp only [Act.put, List.setIfInBounds_toArray, List.set_cons_succ, List.set_cons_zero]
  refine wl (by kernel_rfl) (.int .i64 ((1 + n + 46 : Nat) : Int)) _ (run_addI (.tmp 21) (.const (.int .i64 46)) rfl (1 + n) 46 HAD.out.2 rfl rfl) ?_
  simp only [Act.put, List.setIfInBounds_toArray, List.set_cons_succ, List.set_cons_zero]
  refine wl (by kernel_rfl) (.bool lb) _ (run_lssZ (.tmp 16) (.tmp 22) rfl (len : Nat) ((1 + n + 46 : Nat) : Int) rfl rfl lb HL.out.2) ?_
  simp only [Act.put, List.setIfInBounds_toArray, List.set_cons_succ, List.set_cons_zero]
  refine wl rfl (.bool lb) _ (run_pickZ (.tmp 14) (.const (.bool true)) (.tmp 23) rfl false (.bool lb) rfl rfl) ?_
  simp only [Act.put, List.setIfInBounds_toArray, List.set_cons_succ, List.set_cons_zero]
  refine wpList_nil ?_
  cases lb with
  | true =>
    go_upto_region 2 with fail
    refine wp_region_lit ?_
    refine wl rfl (.agg (rcells rz (.slice none 0 0)).toArray) _ (run_bld26 rfl) ?_
    simp only [Act.put, List.setIfInBounds_toArray, List.set_cons_succ, List.set_cons_zero]
    have hst := run_storeVar ag26 w1 q2 0 26 (rcells rz (.slice none 0 0)) (rcells rz (.slice none 0 0)) (rcells_length _ rz_fine.1) (Rw1.out.at 0 rfl) (by rw [Nat.zero_add]; exact Nat.le_refl _) (rcells_one (fits_of rz_fine (POwn.nil w1 0) (by decide)))
    rw [splice_all _ _ rfl] at hst
    refine wlS rfl rfl _ (run_stV (.tmp 2) (.tmp 25) rfl q2 0 rfl _ rfl hst) ?_
    have k_ := Rw1.out.set 0 rfl ((Rw1.out.at 0 rfl).setRow (rcells rz (.slice none 0 0))) ((Ch.refl (· = q2) w1).setRow (g := q2) (Or.inl rfl) _)
    obtain ⟨wb, hW_⟩ : ∃ W, W = w1.setRow q2 (rcells rz (.slice none 0 0)).toArray := ⟨_, rfl⟩
    rw [← hW_] at k_ ⊢
    have RB : Hid (Row wb q2 26 (rcells rz (.slice none 0 0)) ∧ Below w.heap.size w wb) := ⟨k_.at 0 rfl, k_.below⟩
    clear k_ hW_ hst Rw1
    refine wl rfl (.int .i64 110) _ (run_asZ (.const (.int .i64 110)) rfl (.int .i64 110) rfl) ?_
    simp only [Act.put, List.setIfInBounds_toArray, List.set_cons_succ, List.set_cons_zero]
    refine wpList_nil ?_
    go_wp2_with fail
    refine bodyPost_ret (results_cell_tmp ag26 Try.results16 _ _ q2 26 rfl _ (rcells_length _ rz_fine.1) RB.out.1) rfl ?_
    rw [HPQ.out]
    exact ⟨rz, (.slice none 0 0), 110, rfl, rz_fine, POwn.nil _ _, by decide, RB.out.2, Or.inl ⟨dec_fails (SliceIn.lt256 HI.out) (by rintro ⟨⟨_, h1⟩, _⟩; have h2 := of_decide_eq_true HL.out.2; have h3 := HLEN.out.1; have h4 := HLEN.out.2.2.1; omega), rfl, rfl⟩⟩
  | false =>
  have HA : Hid (okA b ∧ 47 + n ≤ len) := (by have h2 := of_decide_eq_false HL.out.2; have h3 := HLEN.out.1; have h4 := HLEN.out.2.2.1; have h5 := HL1.out; exact ⟨⟨by omega, by rw [← h4]; omega⟩, by omega⟩)
  clear HL
  go_upto_region 3 with fail
  refine wp_region_lit ?_
  refine wl rfl v _ (run_mvZ (.tmp 0) rfl v rfl) ?_
  simp only [Act.put, List.setIfInBounds_toArray, List.set_cons_succ, List.set_cons_zero]
  refine wl rfl (.pointer (some ⟨i0, j0, none⟩)) _ (run_idx (.tmp 26) (.const (.int .i64 0)) rfl v _ _ rfl rfl HC.out.1) ?_
  simp only [Act.put, List.setIfInBounds_toArray, List.set_cons_succ, List.set_cons_zero]
  refine wl rfl (.int .u8 (n : Nat)) _ (run_load1 o5 (.tmp 27) rfl i0 (j0) rfl (.int .u8 (n : Nat)) HC.out.2) ?_
  simp only [Act.put, List.setIfInBounds_toArray, List.set_cons_succ, List.set_cons_zero]
  refine wl rfl (.int .i64 (n : Nat)) _ (run_u8int (.tmp 28) rfl n HLEN.out.2.2.2 rfl) ?_
  simp only [Act.put, List.setIfInBounds_toArray, List.set_cons_succ, List.set_cons_zero]
  refine wl rfl (.int .i64 (n : Nat)) _ (run_asZ (.tmp 29) rfl (.int .i64 (n : Nat)) rfl) ?_
  simp only [Act.put, List.setIfInBounds_toArray, List.set_cons_succ, List.set_cons_zero]
  refine wpList_nil ?_
  obtain ⟨va, ra, sa, _⟩ := run_bsubO HI.out (lo := some (.int .i64 1)) (hi := some (.int .i64 ((1 + n : Nat) : Int))) (mx := none) (l := 1) (h := 1 + n) ⟨Or.inr ⟨_, rfl, rfl⟩, Or.inr ⟨_, rfl, rfl, Or.inl rfl⟩, by omega, by have := HA.out.2; have := HLEN.out.1; omega⟩
  obtain ⟨vb, rb, sb, _⟩ := run_bsubO HI.out (lo := some (.int .i64 ((1 + n : Nat) : Int))) (hi := none) (mx := none) (l := 1 + n) (h := b.length) ⟨Or.inr ⟨_, rfl, rfl⟩, Or.inl ⟨rfl, rfl, rfl⟩, by have := HA.out.2; have := HLEN.out.1; omega, Nat.le_refl _⟩
  rw [List.take_length] at sb
  have HV : Hid ((∀ w', (Instr.slice 28 v (some (.int .i64 1)) (some (.int .i64 ((1 + n : Nat) : Int))) none).run Try.prog w' = .ok va w') ∧ (∀ w', (Instr.slice 28 v (some (.int .i64 ((1 + n : Nat) : Int))) none none).run Try.prog w' = .ok vb w') ∧ SliceIn w va (rawId b) ∧ SliceIn w vb (rst b)) := ⟨ra, rb, (by unfold rawId; rw [← HLEN.out.2.2.1]; exact sa), (by unfold rst; rw [← HLEN.out.2.2.1]; exact sb)⟩
  clear ra rb sa sb
  obtain ⟨ID, hID⟩ : ∃ l, l = rawId b := ⟨_, rfl⟩
  obtain ⟨L, hL⟩ : ∃ l, l = rawL b := ⟨_, rfl⟩
  obtain ⟨RT, hRT⟩ : ∃ l, l = rawRoot b := ⟨_, rfl⟩
  obtain ⟨I, hII⟩ : ∃ l, l = rawI b := ⟨_, rfl⟩
  obtain ⟨EX, hXX⟩ : ∃ l, l = rawX b := ⟨_, rfl⟩
  obtain ⟨F, hF⟩ : ∃ l, l = rawF b := ⟨_, rfl⟩
  obtain ⟨KK, hK⟩ : ∃ l, l = rawK b := ⟨_, rfl⟩
  obtain ⟨RS, hRS⟩ : ∃ l, l = rst b := ⟨_, rfl⟩
  have HN : Hid (ID = rawId b ∧ L = rawL b ∧ RT = rawRoot b ∧ I = rawI b ∧ EX = rawX b ∧ F = rawF b ∧ KK = rawK b ∧ RS = rst b) := ⟨hID, hL, hRT, hII, hXX, hF, hK, hRS⟩
  have HB : Hid ((∀ c ∈ ID, c < 256) ∧ RT.length = 32 ∧ (∀ c ∈ RT, c < 256) ∧ F < 256 ∧ KK < 256 ∧ 46 ≤ RS.length ∧ SliceIn w vb RS ∧ ∀ i, i < 32 → RS.getD (2 + i) 0 = RT.getD i 0) := (by
    have hr := rst_lt (SliceIn.lt256 HI.out)
    have hl : (rst b).length = b.length - (1 + b.getD 0 0) := by simp only [rst, List.length_drop]
    have h1 := HA.out.2
    have h2 := HLEN.out.1
    have h3 := HLEN.out.2.2.1
    refine ⟨by rw [hID]; exact SliceIn.lt256 HV.out.2.2.1, ?_, by rw [hRT]; exact take_lt (drop_lt hr _) _, by rw [hF]; exact lt256 _ hr 44, by rw [hK]; exact lt256 _ hr 45, by rw [hRS, hl, ← h3]; omega, by rw [hRS]; exact HV.out.2.2.2, ?_⟩
    · rw [hRT]; exact raw_root HA.out.1
    · intro i hi
      rw [hRT, hRS]
      simp only [rawRoot, List.getD_eq_getElem?_getD, List.getElem?_take, List.getElem?_drop, hi, if_true])
  clear hID hL hRT hII hXX hF hK hRS
  go_upto_region 4 with fail
  refine wp_region_lit ?_
  refine wl rfl v _ (run_mvZ (.tmp 0) rfl v rfl) ?_
  simp only [Act.put, List.setIfInBounds_toArray, List.set_cons_succ, List.set_cons_zero]
  refine wl rfl (.int .i64 (n : Nat)) _ (run_mvZ (.tmp 4) rfl (.int .i64 (n : Nat)) rfl) ?_
  simp only [Act.put, List.setIfInBounds_toArray, List.set_cons_succ, List.set_cons_zero]
  refine wl rfl (.int .i64 ((1 + n : Nat) : Int)) _ (run_addI (.const (.int .i64 1)) (.tmp 31) rfl 1 n HAD.out.1 rfl rfl) ?_
  simp only [Act.put, List.setIfInBounds_toArray, List.set_cons_succ, List.set_cons_zero]
  refine wl rfl va _ (run_subZ (.tmp 30) (some (.const (.int .i64 1))) (some (.tmp 32)) none rfl v va HI.out.isSlice rfl (some (.int .i64 1)) (some (.int .i64 ((1 + n : Nat) : Int))) none rfl rfl rfl HV.out.1) ?_
  simp only [Act.put, List.setIfInBounds_toArray, List.set_cons_succ, List.set_cons_zero]
  refine wl rfl (str ID) _ (run_strB (.tmp 33) rfl va ID rfl (by rw [HN.out.1]; exact HV.out.2.2.1.later Rw1.out.below)) ?_
  simp only [Act.put, List.setIfInBounds_toArray, List.set_cons_succ, List.set_cons_zero]
  refine wl rfl (.agg (rcells { rz with id := ID } (.slice none 0 0)).toArray) _ (run_bldId (.tmp 34) rfl ID rfl) ?_
  simp only [Act.put, List.setIfInBounds_toArray, List.set_cons_succ, List.set_cons_zero]
  refine wl rfl (ptr w1.heap.size) _ (run_allocA (rcells rz (.slice none 0 0)) zero26 rfl) ?_
  have k_ := Rw1.out.box 26 (rcells rz (.slice none 0 0))
  obtain ⟨w2, hW_⟩ : ∃ W, W = w1.alloc (.cells (rcells rz (.slice none 0 0)).toArray 26) := ⟨_, rfl⟩
  have hB_ : Below w1.heap.size w1 w2 := hW_ ▸ below_alloc w1 _
  obtain ⟨q5, hq_⟩ : ∃ q, q = w1.heap.size := ⟨_, rfl⟩
  rw [← hW_, ← hq_] at k_
  rw [← hW_, ← hq_]
  clear hq_
  have Rw2 : Hid (Loc w w2 [(q2, 26, rcells rz (.slice none 0 0)), (q5, 26, rcells rz (.slice none 0 0))]) := k_
  clear k_ hW_ Rw1
  clear hB_
  simp only [Act.put, List.setIfInBounds_toArray, List.set_cons_succ, List.set_cons_zero]
  have hst := run_storeVar ag26 w2 q5 0 26 (rcells rz (.slice none 0 0)) (rcells { rz with id := ID } (.slice none 0 0)) (rcells_length _ rz_fine.1) (Rw2.out.at 1 rfl) (by rw [rcells_length _ (show ({ rz with id := ID } : Rc).root.length = 32 from rz_fine.1), rcells_length _ rz_fine.1]; decide) (rcells_one (w := w2) ⟨rz_fine.1, HB.out.1, rz_fine.2.2, PlIn.nil w2⟩)
  rw [splice_all _ _ (by rw [rcells_length _ (show ({ rz with id := ID } : Rc).root.length = 32 from rz_fine.1), rcells_length _ rz_fine.1])] at hst
  refine wlS rfl rfl _ (run_stV (.tmp 5) (.tmp 35) rfl q5 0 rfl _ rfl hst) ?_
  have k_ := Rw2.out.set 1 rfl ((Rw2.out.at 1 rfl).setRow (rcells { rz with id := ID } (.slice none 0 0))) ((Ch.refl (· = q5) w2).setRow (g := q5) (Or.inl rfl) _)
  obtain ⟨w3, hW_⟩ : ∃ W, W = w2.setRow q5 (rcells { rz with id := ID } (.slice none 0 0)).toArray := ⟨_, rfl⟩
  rw [← hW_] at k_ ⊢
  have RA : Hid (Loc w w3 [(q2, 26, rcells rz (.slice none 0 0)), (q5, 26, rcells ⟨ID, 0, ZL, 0, 0, false, false, []⟩ (.slice none 0 0))]) := (by rw [HZ.out.1]; exact k_)
  clear k_ hW_ hst Rw2
  refine wpList_nil ?_
  go_upto_region 5 with fail
  refine wp_region_lit ?_
  refine wl rfl v _ (run_mvZ (.tmp 0) rfl v rfl) ?_
  simp only [Act.put, List.setIfInBounds_toArray, List.set_cons_succ, List.set_cons_zero]
  refine wl rfl (.int .i64 (n : Nat)) _ (run_mvZ (.tmp 4) rfl (.int .i64 (n : Nat)) rfl) ?_
  simp only [Act.put, List.setIfInBounds_toArray, List.set_cons_succ, List.set_cons_zero]
  refine wl rfl (.int .i64 ((1 + n : Nat) : Int)) _ (run_addI (.const (.int .i64 1)) (.tmp 37) rfl 1 n HAD.out.1 rfl rfl) ?_
  simp only [Act.put, List.setIfInBounds_toArray, List.set_cons_succ, List.set_cons_zero]
  refine wl rfl vb _ (run_subZ (.tmp 36) (some (.tmp 38)) none none rfl v vb HI.out.isSlice rfl (some (.int .i64 ((1 + n : Nat) : Int))) none none rfl rfl rfl HV.out.2.1) ?_
  simp only [Act.put, List.setIfInBounds_toArray, List.set_cons_succ, List.set_cons_zero]
  refine wl rfl vb _ (run_asZ (.tmp 39) rfl vb rfl) ?_
  simp only [Act.put, List.setIfInBounds_toArray, List.set_cons_succ, List.set_cons_zero]
  refine wpList_nil ?_
  go_upto_region 6 with fail
  refine wp_region_lit ?_
  refine wl rfl vb _ (run_mvZ (.tmp 6) rfl vb rfl) ?_
  simp only [Act.put, List.setIfInBounds_toArray, List.set_cons_succ, List.set_cons_zero]
  refine wpList_callW eN30 [.tmp 40, .const ((.int .i64 2))] _ rfl rfl [vb, (.int .i64 2)] rfl ?_
  refine (get_any vb RS 2 w3 (HB.out.2.2.2.2.2.2.1.later RA.out.below) (by have := HB.out.2.2.2.2.2.1; omega) (by decide)).mono ?_
  rintro e wg ⟨rfl, rfl⟩
  refine ⟨_, rfl, ?_⟩
  rw [show Fr.Frame.val (RS.take 2) = L by rw [HN.out.2.1, HN.out.2.2.2.2.2.2.2]; rfl]
  simp only [Act.put, List.setIfInBounds_toArray, List.set_cons_succ, List.set_cons_zero]
  refine wl rfl (.pointer (some ⟨q5, 0 + 1, none⟩)) _ (run_fieldOp' f26_1 (.tmp 5) rfl q5 (0) rfl) ?_
  simp only [Act.put, List.setIfInBounds_toArray, List.set_cons_succ, List.set_cons_zero]
  refine wl_put (t := 3) (by kernel_rfl) (.tmp 42) (.tmp 41) rfl rfl rfl q5 (0 + 1) 26 (rcells ⟨ID, 0, ZL, 0, 0, false, false, []⟩ (.slice none 0 0)) rfl (.int .i64 (L : Nat)) rfl ⟨rfl, rfl⟩ (RA.out.at 1 rfl) (by rw [rcells_length _ (show (⟨ID, 0, ZL, 0, 0, false, false, []⟩ : Rc).root.length = 32 from HZ.out.2)]; decide) ?_
  have k_ := RA.out.set 1 rfl (row_cell' (i := 0 + 1) (RA.out.at 1 rfl) (.int .i64 (L : Nat))) ((Ch.refl (· = q5) w3).setCell (g := q5) (Or.inl rfl) (0 + 1) (.int .i64 (L : Nat)))
  obtain ⟨w4, hW_⟩ : ∃ W, W = w3.setCell ⟨q5, 0 + 1, none⟩ (.int .i64 (L : Nat)) := ⟨_, rfl⟩
  rw [← hW_] at k_ ⊢
  have RB0 : Hid (Loc w w4 [(q2, 26, rcells rz (.slice none 0 0)), (q5, 26, rcells ⟨ID, (L : Nat), ZL, 0, 0, false, false, []⟩ (.slice none 0 0))]) := (by
    have e : (rcells ⟨ID, 0, ZL, 0, 0, false, false, []⟩ (.slice none 0 0)).set 1 (.int .i64 (L : Nat)) = rcells ⟨ID, (L : Nat), ZL, 0, 0, false, false, []⟩ (.slice none 0 0) := rfl
    rw [← e]
    exact k_)
  clear k_ hW_ RA
  refine wpList_nil ?_
  go_upto_region 7 with fail
  refine wp_region_lit ?_
  refine wl rfl (.int .i64 0) _ (run_asZ (.const (.int .i64 0)) rfl (.int .i64 0) rfl) ?_
  simp only [Act.put, List.setIfInBounds_toArray, List.set_cons_succ, List.set_cons_zero]
  refine wpList_nil ?_
  have RX : Hid (Loc w w4 [(q2, 26, rcells rz (.slice none 0 0)), (q5, 26, rcells ⟨ID, (L : Nat), (fillR RT 0), 0, 0, false, false, []⟩ (.slice none 0 0))]) := (by rw [fillR_zero, ← HZ.out.1]; exact RB0.out)
  clear RB0 HC
  go_wp2_with fail
  go_loopw [7] (fun vk W => ∃ k : Nat, vk = .int .i64 (k : Nat) ∧ k ≤ 32 ∧ Loc w W [(q2, 26, rcells rz (.slice none 0 0)), (q5, 26, rcells ⟨ID, (L : Nat), (fillR RT k), 0, 0, false, false, []⟩ (.slice none 0 0))]) (fun vk _ => 32 - (intOf vk).toNat)
  case atStart => exact ⟨0, rfl, Nat.zero_le _, RX.out⟩
  case round =>
    obtain ⟨k, rfl, hk, hw⟩ := hrel
    have RK : Hid (Loc w wr [(q2, 26, rcells rz (.slice none 0 0)), (q5, 26, rcells ⟨ID, (L : Nat), (fillR RT k), 0, 0, false, false, []⟩ (.slice none 0 0))]) := hw
    clear hw RX
    by_cases hlt : k < 32
    · have t1 : decide ((k : Int) < 32) = true := decide_eq_true (by omega)
      obtain ⟨bi, bj, hx, hc⟩ := ix_byte (HB.out.2.2.2.2.2.2.1.later RK.out.below) (2 + k) (by have := HB.out.2.2.2.2.2.1; omega)
      rw [HB.out.2.2.2.2.2.2.2 k hlt] at hc
      obtain ⟨ch, hch⟩ : ∃ c, c = RT.getD k 0 := ⟨_, rfl⟩
      have HX : Hid ((∀ w', (Instr.indexAt 28 vb (.int .i64 ((2 + k : Nat) : Int))).run Try.prog w' = .ok (.pointer (some ⟨bi, bj, none⟩)) w') ∧ wr.cell? ⟨bi, bj, none⟩ = some (.int .u8 (ch : Nat)) ∧ ch = RT.getD k 0) := ⟨hx, by rw [hch]; exact hc, hch⟩
      clear hx hc hch
      go_upto_region 10 with fail
      refine wp_region_lit ?_
      refine wl rfl (.int .i64 (k : Nat)) _ (run_mvZ (.tmp 7) rfl (.int .i64 (k : Nat)) rfl) ?_
      simp only [Act.put, List.setIfInBounds_toArray, List.set_cons_succ, List.set_cons_zero]
      refine wl rfl vb _ (run_mvZ (.tmp 6) rfl vb rfl) ?_
      simp only [Act.put, List.setIfInBounds_toArray, List.set_cons_succ, List.set_cons_zero]
      refine wl rfl (.int .i64 (k : Nat)) _ (run_mvZ (.tmp 7) rfl (.int .i64 (k : Nat)) rfl) ?_
      simp only [Act.put, List.setIfInBounds_toArray, List.set_cons_succ, List.set_cons_zero]
      refine wl rfl (.int .i64 ((2 + k : Nat) : Int)) _ (run_addI (.const (.int .i64 2)) (.tmp 49) rfl 2 k (by omega) rfl rfl) ?_
      simp only [Act.put, List.setIfInBounds_toArray, List.set_cons_succ, List.set_cons_zero]
      refine wl rfl (.pointer (some ⟨bi, bj, none⟩)) _ (run_idx (.tmp 48) (.tmp 50) rfl vb _ _ rfl rfl HX.out.1) ?_
      simp only [Act.put, List.setIfInBounds_toArray, List.set_cons_succ, List.set_cons_zero]
      refine wl rfl (.int .u8 (ch : Nat)) _ (run_load1 o5 (.tmp 51) rfl bi (bj) rfl (.int .u8 (ch : Nat)) HX.out.2.1) ?_
      simp only [Act.put, List.setIfInBounds_toArray, List.set_cons_succ, List.set_cons_zero]
      refine wl rfl (.pointer (some ⟨q5, 0 + 2, none⟩)) _ (run_fieldOp' f26_2 (.tmp 5) rfl q5 (0) rfl) ?_
      simp only [Act.put, List.setIfInBounds_toArray, List.set_cons_succ, List.set_cons_zero]
      refine wl rfl (.pointer (some ⟨q5, 0 + 2 + k, none⟩)) _ (run_ixA arr23 (.tmp 53) (.tmp 47) rfl q5 (0 + 2) k rfl rfl hlt) ?_
      simp only [Act.put, List.setIfInBounds_toArray, List.set_cons_succ, List.set_cons_zero]
      refine wl_put (t := 5) (by kernel_rfl) (.tmp 54) (.tmp 52) rfl rfl rfl q5 (0 + 2 + k) 26 (rcells ⟨ID, (L : Nat), (fillR RT k), 0, 0, false, false, []⟩ (.slice none 0 0)) rfl (.int .u8 (ch : Nat)) rfl ⟨rfl, rfl⟩ (RK.out.at 1 rfl) (by rw [rcells_length _ (show (⟨ID, (L : Nat), (fillR RT k), 0, 0, false, false, []⟩ : Rc).root.length = 32 from fillR_length RT k HB.out.2.1 hk)]; omega) ?_
      have hk2 := RK.out.set 1 rfl (row_cell' (i := 0 + 2 + k) (RK.out.at 1 rfl) (.int .u8 (ch : Nat))) ((Ch.refl (· = q5) wr).setCell (g := q5) (Or.inl rfl) (0 + 2 + k) (.int .u8 (ch : Nat)))
      obtain ⟨wz, hwz⟩ : ∃ W, W = wr.setCell ⟨q5, 0 + 2 + k, none⟩ (.int .u8 (ch : Nat)) := ⟨_, rfl⟩
      have RY : Hid (Loc w wz [(q2, 26, rcells rz (.slice none 0 0)), (q5, 26, rcells ⟨ID, (L : Nat), (fillR RT (k + 1)), 0, 0, false, false, []⟩ (.slice none 0 0))]) := (by
        have e1 := setRoot ⟨ID, (L : Nat), RT, 0, 0, false, false, []⟩ (.slice none 0 0) k RT HB.out.2.1 hlt ch HX.out.2.2
        rw [← hwz] at hk2
        rw [show 0 + 2 + k = 2 + k by omega] at hk2
        have e2 : (rcells ⟨ID, (L : Nat), (fillR RT k), 0, 0, false, false, []⟩ (.slice none 0 0)).set (2 + k) (.int .u8 (ch : Nat)) = rcells ⟨ID, (L : Nat), (fillR RT (k + 1)), 0, 0, false, false, []⟩ (.slice none 0 0) := e1
        rw [← e2]
        exact hk2)
      rw [← hwz]
      clear hwz hk2 RK
      refine wpList_nil ?_
      go_wp2_with fail
      refine ⟨⟨k + 1, by go_num, by omega, RY.out⟩, ?_⟩
      simp [intOf]; omega
    · have t1 : decide ((k : Int) < 32) = false := decide_eq_false (by omega)
      have ek : k = 32 := by omega
      have RC3 : Hid (Loc w wr [(q2, 26, rcells rz (.slice none 0 0)), (q5, 26, rcells ⟨ID, (L : Nat), RT, 0, 0, false, false, []⟩ (.slice none 0 0))]) := (by
        have h := RK.out
        rw [ek, fillR_all RT HB.out.2.1] at h
        exact h)
      obtain ⟨w5, hw5⟩ : ∃ W, W = wr := ⟨_, rfl⟩
      rw [← hw5] at RC3 ⊢
      clear ek RK hw5
      obtain ⟨vc4, rc4, sc4, _⟩ := run_bsubO HB.out.2.2.2.2.2.2.1 (lo := some (.int .i64 34)) (hi := none) (mx := none) (l := 34) (h := RS.length) ⟨Or.inr ⟨_, rfl, rfl⟩, Or.inl ⟨rfl, rfl, rfl⟩, by have := HB.out.2.2.2.2.2.1; omega, Nat.le_refl _⟩
      obtain ⟨vc5, rc5, sc5, _⟩ := run_bsubO HB.out.2.2.2.2.2.2.1 (lo := some (.int .i64 38)) (hi := none) (mx := none) (l := 38) (h := RS.length) ⟨Or.inr ⟨_, rfl, rfl⟩, Or.inl ⟨rfl, rfl, rfl⟩, by have := HB.out.2.2.2.2.2.1; omega, Nat.le_refl _⟩
      rw [List.take_length] at sc4 sc5
      obtain ⟨i4, j4, x4, c4⟩ := ix_byte HB.out.2.2.2.2.2.2.1 44 (by have := HB.out.2.2.2.2.2.1; omega)
      obtain ⟨i5, j5, x5, c5⟩ := ix_byte HB.out.2.2.2.2.2.2.1 45 (by have := HB.out.2.2.2.2.2.1; omega)
      have HS : Hid ((∀ w', (Instr.slice 28 vb (some (.int .i64 34)) none none).run Try.prog w' = .ok vc4 w') ∧ (∀ w', (Instr.slice 28 vb (some (.int .i64 38)) none none).run Try.prog w' = .ok vc5 w') ∧ SliceIn w vc4 (RS.drop 34) ∧ SliceIn w vc5 (RS.drop 38)) := ⟨rc4, rc5, sc4, sc5⟩
      have HJ : Hid ((∀ w', (Instr.indexAt 28 vb (.int .i64 44)).run Try.prog w' = .ok (.pointer (some ⟨i4, j4, none⟩)) w') ∧ (∀ w', (Instr.indexAt 28 vb (.int .i64 45)).run Try.prog w' = .ok (.pointer (some ⟨i5, j5, none⟩)) w') ∧ w.cell? ⟨i4, j4, none⟩ = some (.int .u8 (F : Nat)) ∧ w.cell? ⟨i5, j5, none⟩ = some (.int .u8 (KK : Nat))) := (by
        refine ⟨x4, x5, ?_, ?_⟩
        · rw [HN.out.2.2.2.2.2.1, rawF, ← HN.out.2.2.2.2.2.2.2]; exact c4
        · rw [HN.out.2.2.2.2.2.2.1, rawK, ← HN.out.2.2.2.2.2.2.2]; exact c5)
      clear rc4 rc5 sc4 sc5 x4 x5 c4 c5
      go_upto_region 11 with fail
      refine wp_region_lit ?_
      refine wl rfl vb _ (run_mvZ (.tmp 6) rfl vb rfl) ?_
      simp only [Act.put, List.setIfInBounds_toArray, List.set_cons_succ, List.set_cons_zero]
      refine wl rfl vc4 _ (run_subZ (.tmp 55) (some (.const (.int .i64 34))) none none rfl vb vc4 HB.out.2.2.2.2.2.2.1.isSlice rfl (some (.int .i64 34)) none none rfl rfl rfl HS.out.1) ?_
      simp only [Act.put, List.setIfInBounds_toArray, List.set_cons_succ, List.set_cons_zero]
      refine wpList_callW eN30 [.tmp 56, .const ((.int .i64 4))] _ rfl rfl [vc4, (.int .i64 4)] rfl ?_
      refine (get_any vc4 (RS.drop 34) 4 w5 (HS.out.2.2.1.later RC3.out.below) (by have := HB.out.2.2.2.2.2.1; rw [List.length_drop]; omega) (by decide)).mono ?_
      rintro e wg ⟨rfl, rfl⟩
      refine ⟨_, rfl, ?_⟩
      rw [show Fr.Frame.val ((RS.drop 34).take 4) = I by rw [HN.out.2.2.2.1, HN.out.2.2.2.2.2.2.2]; rfl]
      simp only [Act.put, List.setIfInBounds_toArray, List.set_cons_succ, List.set_cons_zero]
      refine wl rfl (.pointer (some ⟨q5, 0 + 34, none⟩)) _ (run_fieldOp' f26_3 (.tmp 5) rfl q5 (0) rfl) ?_
      simp only [Act.put, List.setIfInBounds_toArray, List.set_cons_succ, List.set_cons_zero]
      refine wl_put (t := 3) (by kernel_rfl) (.tmp 58) (.tmp 57) rfl rfl rfl q5 (0 + 34) 26 (rcells ⟨ID, (L : Nat), RT, 0, 0, false, false, []⟩ (.slice none 0 0)) rfl (.int .i64 (I : Nat)) rfl ⟨rfl, rfl⟩ (RC3.out.at 1 rfl) (by rw [rcells_length _ (show (⟨ID, (L : Nat), RT, 0, 0, false, false, []⟩ : Rc).root.length = 32 from HB.out.2.1)]; decide) ?_
      have k_ := RC3.out.set 1 rfl (row_cell' (i := 0 + 34) (RC3.out.at 1 rfl) (.int .i64 (I : Nat))) ((Ch.refl (· = q5) w5).setCell (g := q5) (Or.inl rfl) (0 + 34) (.int .i64 (I : Nat)))
      obtain ⟨w6, hW_⟩ : ∃ W, W = w5.setCell ⟨q5, 0 + 34, none⟩ (.int .i64 (I : Nat)) := ⟨_, rfl⟩
      rw [← hW_] at k_ ⊢
      have RD : Hid (Loc w w6 [(q2, 26, rcells rz (.slice none 0 0)), (q5, 26, rcells ⟨ID, (L : Nat), RT, (I : Nat), 0, false, false, []⟩ (.slice none 0 0))]) := (by
        have e : (rcells ⟨ID, (L : Nat), RT, 0, 0, false, false, []⟩ (.slice none 0 0)).set 34 (.int .i64 (I : Nat)) = rcells ⟨ID, (L : Nat), RT, (I : Nat), 0, false, false, []⟩ (.slice none 0 0) := set34 ⟨ID, (L : Nat), RT, 0, 0, false, false, []⟩ _ HB.out.2.1 _
        rw [← e]
        exact k_)
      clear k_ hW_ RC3
      refine wpList_nil ?_
      go_upto_region 12 with fail
      refine wp_region_lit ?_
      refine wl rfl vb _ (run_mvZ (.tmp 6) rfl vb rfl) ?_
      simp only [Act.put, List.setIfInBounds_toArray, List.set_cons_succ, List.set_cons_zero]
      refine wl rfl vc5 _ (run_subZ (.tmp 59) (some (.const (.int .i64 38))) none none rfl vb vc5 HB.out.2.2.2.2.2.2.1.isSlice rfl (some (.int .i64 38)) none none rfl rfl rfl HS.out.2.1) ?_
      simp only [Act.put, List.setIfInBounds_toArray, List.set_cons_succ, List.set_cons_zero]
      refine wpList_callW eN30 [.tmp 60, .const ((.int .i64 6))] _ rfl rfl [vc5, (.int .i64 6)] rfl ?_
      refine (get_any vc5 (RS.drop 38) 6 w6 (HS.out.2.2.2.later RD.out.below) (by have := HB.out.2.2.2.2.2.1; rw [List.length_drop]; omega) (by decide)).mono ?_
      rintro e wg ⟨rfl, rfl⟩
      refine ⟨_, rfl, ?_⟩
      rw [show Fr.Frame.val ((RS.drop 38).take 6) = EX by rw [HN.out.2.2.2.2.1, HN.out.2.2.2.2.2.2.2]; rfl]
      simp only [Act.put, List.setIfInBounds_toArray, List.set_cons_succ, List.set_cons_zero]
      refine wl rfl (.pointer (some ⟨q5, 0 + 35, none⟩)) _ (run_fieldOp' f26_4 (.tmp 5) rfl q5 (0) rfl) ?_
      simp only [Act.put, List.setIfInBounds_toArray, List.set_cons_succ, List.set_cons_zero]
      refine wl_put (t := 3) (by kernel_rfl) (.tmp 62) (.tmp 61) rfl rfl rfl q5 (0 + 35) 26 (rcells ⟨ID, (L : Nat), RT, (I : Nat), 0, false, false, []⟩ (.slice none 0 0)) rfl (.int .i64 (EX : Nat)) rfl ⟨rfl, rfl⟩ (RD.out.at 1 rfl) (by rw [rcells_length _ (show (⟨ID, (L : Nat), RT, (I : Nat), 0, false, false, []⟩ : Rc).root.length = 32 from HB.out.2.1)]; decide) ?_
      have k_ := RD.out.set 1 rfl (row_cell' (i := 0 + 35) (RD.out.at 1 rfl) (.int .i64 (EX : Nat))) ((Ch.refl (· = q5) w6).setCell (g := q5) (Or.inl rfl) (0 + 35) (.int .i64 (EX : Nat)))
      obtain ⟨w7, hW_⟩ : ∃ W, W = w6.setCell ⟨q5, 0 + 35, none⟩ (.int .i64 (EX : Nat)) := ⟨_, rfl⟩
      rw [← hW_] at k_ ⊢
      have RE : Hid (Loc w w7 [(q2, 26, rcells rz (.slice none 0 0)), (q5, 26, rcells ⟨ID, (L : Nat), RT, (I : Nat), (EX : Nat), false, false, []⟩ (.slice none 0 0))]) := (by
        have e : (rcells ⟨ID, (L : Nat), RT, (I : Nat), 0, false, false, []⟩ (.slice none 0 0)).set 35 (.int .i64 (EX : Nat)) = rcells ⟨ID, (L : Nat), RT, (I : Nat), (EX : Nat), false, false, []⟩ (.slice none 0 0) := set35 ⟨ID, (L : Nat), RT, (I : Nat), 0, false, false, []⟩ _ HB.out.2.1 _
        rw [← e]
        exact k_)
      clear k_ hW_ RD
      refine wpList_nil ?_
      go_upto_region 13 with fail
      refine wp_region_lit ?_
      refine wl rfl vb _ (run_mvZ (.tmp 6) rfl vb rfl) ?_
      simp only [Act.put, List.setIfInBounds_toArray, List.set_cons_succ, List.set_cons_zero]
      refine wl rfl (.pointer (some ⟨i4, j4, none⟩)) _ (run_idx (.tmp 63) (.const (.int .i64 44)) rfl vb _ _ rfl rfl HJ.out.1) ?_
      simp only [Act.put, List.setIfInBounds_toArray, List.set_cons_succ, List.set_cons_zero]
      refine wl rfl (.int .u8 (F : Nat)) _ (run_load1 o5 (.tmp 64) rfl i4 (j4) rfl (.int .u8 (F : Nat)) (cell_later RE.out.below HJ.out.2.2.1)) ?_
      simp only [Act.put, List.setIfInBounds_toArray, List.set_cons_succ, List.set_cons_zero]
      refine wl rfl (.int .u8 ((F % 2 : Nat) : Int)) _ (run_remU8 (.tmp 65) rfl F rfl) ?_
      simp only [Act.put, List.setIfInBounds_toArray, List.set_cons_succ, List.set_cons_zero]
      refine wl rfl (.bool (decide (F % 2 = 1))) _ (run_eqB1 (.tmp 66) rfl (F % 2) rfl) ?_
      simp only [Act.put, List.setIfInBounds_toArray, List.set_cons_succ, List.set_cons_zero]
      refine wl rfl (.pointer (some ⟨q5, 0 + 36, none⟩)) _ (run_fieldOp' f26_5 (.tmp 5) rfl q5 (0) rfl) ?_
      simp only [Act.put, List.setIfInBounds_toArray, List.set_cons_succ, List.set_cons_zero]
      refine wl_put (t := 4) (by kernel_rfl) (.tmp 68) (.tmp 67) rfl rfl rfl q5 (0 + 36) 26 (rcells ⟨ID, (L : Nat), RT, (I : Nat), (EX : Nat), false, false, []⟩ (.slice none 0 0)) rfl (.bool (decide (F % 2 = 1))) rfl ⟨rfl, rfl⟩ (RE.out.at 1 rfl) (by rw [rcells_length _ (show (⟨ID, (L : Nat), RT, (I : Nat), (EX : Nat), false, false, []⟩ : Rc).root.length = 32 from HB.out.2.1)]; decide) ?_
      have k_ := RE.out.set 1 rfl (row_cell' (i := 0 + 36) (RE.out.at 1 rfl) (.bool (decide (F % 2 = 1)))) ((Ch.refl (· = q5) w7).setCell (g := q5) (Or.inl rfl) (0 + 36) (.bool (decide (F % 2 = 1))))
      obtain ⟨w8, hW_⟩ : ∃ W, W = w7.setCell ⟨q5, 0 + 36, none⟩ (.bool (decide (F % 2 = 1))) := ⟨_, rfl⟩
      rw [← hW_] at k_ ⊢
      have RG : Hid (Loc w w8 [(q2, 26, rcells rz (.slice none 0 0)), (q5, 26, rcells ⟨ID, (L : Nat), RT, (I : Nat), (EX : Nat), (decide (F % 2 = 1)), false, []⟩ (.slice none 0 0))]) := (by
        have e : (rcells ⟨ID, (L : Nat), RT, (I : Nat), (EX : Nat), false, false, []⟩ (.slice none 0 0)).set 36 (.bool (decide (F % 2 = 1))) = rcells ⟨ID, (L : Nat), RT, (I : Nat), (EX : Nat), (decide (F % 2 = 1)), false, []⟩ (.slice none 0 0) := set36 ⟨ID, (L : Nat), RT, (I : Nat), (EX : Nat), false, false, []⟩ _ HB.out.2.1 _
        rw [← e]
        exact k_)
      clear k_ hW_ RE
      refine wpList_nil ?_
      go_upto_region 14 with fail
      refine wp_region_lit ?_
      refine wl rfl vb _ (run_mvZ (.tmp 6) rfl vb rfl) ?_
      simp only [Act.put, List.setIfInBounds_toArray, List.set_cons_succ, List.set_cons_zero]
      refine wl rfl (.pointer (some ⟨i4, j4, none⟩)) _ (run_idx (.tmp 69) (.const (.int .i64 44)) rfl vb _ _ rfl rfl HJ.out.1) ?_
      simp only [Act.put, List.setIfInBounds_toArray, List.set_cons_succ, List.set_cons_zero]
      refine wl rfl (.int .u8 (F : Nat)) _ (run_load1 o5 (.tmp 70) rfl i4 (j4) rfl (.int .u8 (F : Nat)) (cell_later RG.out.below HJ.out.2.2.1)) ?_
      simp only [Act.put, List.setIfInBounds_toArray, List.set_cons_succ, List.set_cons_zero]
      refine wl rfl (.int .u8 ((F / 2 : Nat) : Int)) _ (run_quoU8 (.tmp 71) rfl F HB.out.2.2.2.1 rfl) ?_
      simp only [Act.put, List.setIfInBounds_toArray, List.set_cons_succ, List.set_cons_zero]
      refine wl rfl (.int .u8 ((F / 2 % 2 : Nat) : Int)) _ (run_remU8 (.tmp 72) rfl (F / 2) rfl) ?_
      simp only [Act.put, List.setIfInBounds_toArray, List.set_cons_succ, List.set_cons_zero]
      refine wl rfl (.bool (decide (F / 2 % 2 = 1))) _ (run_eqB1 (.tmp 73) rfl (F / 2 % 2) rfl) ?_
      simp only [Act.put, List.setIfInBounds_toArray, List.set_cons_succ, List.set_cons_zero]
      refine wl rfl (.pointer (some ⟨q5, 0 + 37, none⟩)) _ (run_fieldOp' f26_6 (.tmp 5) rfl q5 (0) rfl) ?_
      simp only [Act.put, List.setIfInBounds_toArray, List.set_cons_succ, List.set_cons_zero]
      refine wl_put (t := 4) (by kernel_rfl) (.tmp 75) (.tmp 74) rfl rfl rfl q5 (0 + 37) 26 (rcells ⟨ID, (L : Nat), RT, (I : Nat), (EX : Nat), (decide (F % 2 = 1)), false, []⟩ (.slice none 0 0)) rfl (.bool (decide (F / 2 % 2 = 1))) rfl ⟨rfl, rfl⟩ (RG.out.at 1 rfl) (by rw [rcells_length _ (show (⟨ID, (L : Nat), RT, (I : Nat), (EX : Nat), (decide (F % 2 = 1)), false, []⟩ : Rc).root.length = 32 from HB.out.2.1)]; decide) ?_
      have k_ := RG.out.set 1 rfl (row_cell' (i := 0 + 37) (RG.out.at 1 rfl) (.bool (decide (F / 2 % 2 = 1)))) ((Ch.refl (· = q5) w8).setCell (g := q5) (Or.inl rfl) (0 + 37) (.bool (decide (F / 2 % 2 = 1))))
      obtain ⟨w9, hW_⟩ : ∃ W, W = w8.setCell ⟨q5, 0 + 37, none⟩ (.bool (decide (F / 2 % 2 = 1))) := ⟨_, rfl⟩
      rw [← hW_] at k_ ⊢
      have RH : Hid (Loc w w9 [(q2, 26, rcells rz (.slice none 0 0)), (q5, 26, rcells ⟨ID, (L : Nat), RT, (I : Nat), (EX : Nat), (decide (F % 2 = 1)), (decide (F / 2 % 2 = 1)), []⟩ (.slice none 0 0))]) := (by
        have e : (rcells ⟨ID, (L : Nat), RT, (I : Nat), (EX : Nat), (decide (F % 2 = 1)), false, []⟩ (.slice none 0 0)).set 37 (.bool (decide (F / 2 % 2 = 1))) = rcells ⟨ID, (L : Nat), RT, (I : Nat), (EX : Nat), (decide (F % 2 = 1)), (decide (F / 2 % 2 = 1)), []⟩ (.slice none 0 0) := set37 ⟨ID, (L : Nat), RT, (I : Nat), (EX : Nat), (decide (F % 2 = 1)), false, []⟩ _ HB.out.2.1 _
        rw [← e]
        exact k_)
      clear k_ hW_ RG
      refine wpList_nil ?_
      go_upto_region 15 with fail
      refine wp_region_lit ?_
      refine wl rfl vb _ (run_mvZ (.tmp 6) rfl vb rfl) ?_
      simp only [Act.put, List.setIfInBounds_toArray, List.set_cons_succ, List.set_cons_zero]
      refine wl rfl (.pointer (some ⟨i5, j5, none⟩)) _ (run_idx (.tmp 76) (.const (.int .i64 45)) rfl vb _ _ rfl rfl HJ.out.2.1) ?_
      simp only [Act.put, List.setIfInBounds_toArray, List.set_cons_succ, List.set_cons_zero]
      refine wl rfl (.int .u8 (KK : Nat)) _ (run_load1 o5 (.tmp 77) rfl i5 (j5) rfl (.int .u8 (KK : Nat)) (cell_later RH.out.below HJ.out.2.2.2)) ?_
      simp only [Act.put, List.setIfInBounds_toArray, List.set_cons_succ, List.set_cons_zero]
      refine wl rfl (.int .i64 (KK : Nat)) _ (run_u8int (.tmp 78) rfl KK HB.out.2.2.2.2.1 rfl) ?_
      simp only [Act.put, List.setIfInBounds_toArray, List.set_cons_succ, List.set_cons_zero]
      refine wl rfl (.int .i64 (KK : Nat)) _ (run_asZ (.tmp 79) rfl (.int .i64 (KK : Nat)) rfl) ?_
      simp only [Act.put, List.setIfInBounds_toArray, List.set_cons_succ, List.set_cons_zero]
      refine wpList_nil ?_
      obtain ⟨f3, hf3⟩ : ∃ x, decide (((3 : Nat) : Int) < (F : Int)) = x := ⟨_, rfl⟩
      obtain ⟨rl, hrl⟩ : ∃ l, l = RS.length := ⟨_, rfl⟩
      obtain ⟨k5, hk5⟩ : ∃ x, (!decide ((rl : Int) = ((46 + 5 * KK : Nat) : Int))) = x := ⟨_, rfl⟩
      have HQ : Hid (decide (((3 : Nat) : Int) < (F : Int)) = f3 ∧ (!decide ((rl : Int) = ((46 + 5 * KK : Nat) : Int))) = k5 ∧ rl = RS.length) := ⟨hf3, hk5, hrl⟩
      clear hf3 hk5 hrl
      by_cases h3 : f3 = true
      case pos =>
        have HT : Hid (f3 = true) := h3
        clear h3
        go_upto_region 16 with fail
        refine wp_region_lit ?_
        refine wl rfl vb _ (run_mvZ (.tmp 6) rfl vb rfl) ?_
        simp only [Act.put, List.setIfInBounds_toArray, List.set_cons_succ, List.set_cons_zero]
        refine wl rfl (.pointer (some ⟨i4, j4, none⟩)) _ (run_idx (.tmp 80) (.const (.int .i64 44)) rfl vb _ _ rfl rfl HJ.out.1) ?_
        simp only [Act.put, List.setIfInBounds_toArray, List.set_cons_succ, List.set_cons_zero]
        refine wl rfl (.int .u8 (F : Nat)) _ (run_load1 o5 (.tmp 81) rfl i4 (j4) rfl (.int .u8 (F : Nat)) (cell_later RH.out.below HJ.out.2.2.1)) ?_
        simp only [Act.put, List.setIfInBounds_toArray, List.set_cons_succ, List.set_cons_zero]
        refine wl rfl (.bool f3) _ (run_gtB 3 (.tmp 82) rfl F rfl f3 HQ.out.1) ?_
        simp only [Act.put, List.setIfInBounds_toArray, List.set_cons_succ, List.set_cons_zero]
        refine wl rfl (.bool f3) _ (run_mvZ (.tmp 83) rfl (.bool f3) rfl) ?_
        simp only [Act.put, List.setIfInBounds_toArray, List.set_cons_succ, List.set_cons_zero]
        refine wpList_skip (by rw [HT.out]; kernel_rfl) ?_
        simp only [Act.put, List.setIfInBounds_toArray, List.set_cons_succ, List.set_cons_zero]
        refine wpList_skip (by rw [HT.out]; kernel_rfl) ?_
        simp only [Act.put, List.setIfInBounds_toArray, List.set_cons_succ, List.set_cons_zero]
        refine wpList_skip (by rw [HT.out]; kernel_rfl) ?_
        simp only [Act.put, List.setIfInBounds_toArray, List.set_cons_succ, List.set_cons_zero]
        refine wpList_skip (by rw [HT.out]; kernel_rfl) ?_
        simp only [Act.put, List.setIfInBounds_toArray, List.set_cons_succ, List.set_cons_zero]
        refine wpList_skip (by rw [HT.out]; kernel_rfl) ?_
        simp only [Act.put, List.setIfInBounds_toArray, List.set_cons_succ, List.set_cons_zero]
        refine wpList_skip (by rw [HT.out]; kernel_rfl) ?_
        simp only [Act.put, List.setIfInBounds_toArray, List.set_cons_succ, List.set_cons_zero]
        refine wl rfl (.bool true) _ (run_pickZ (.tmp 84) (.const (.bool true)) (.tmp 90) rfl f3 (.bool true) rfl (by rw [HT.out]; rfl)) ?_
        simp only [Act.put, List.setIfInBounds_toArray, List.set_cons_succ, List.set_cons_zero]
        refine wpList_nil ?_
        go_upto_region 17 with fail
        refine wp_region_lit ?_
        refine wl rfl (.agg (rcells rz (.slice none 0 0)).toArray) _ (run_bld26 rfl) ?_
        simp only [Act.put, List.setIfInBounds_toArray, List.set_cons_succ, List.set_cons_zero]
        have hst := run_storeVar ag26 w9 q2 0 26 (rcells rz (.slice none 0 0)) (rcells rz (.slice none 0 0)) (rcells_length _ rz_fine.1) (RH.out.at 0 rfl) (by rw [Nat.zero_add]; exact Nat.le_refl _) (rcells_one (fits_of rz_fine (POwn.nil w9 0) (by decide)))
        rw [splice_all _ _ rfl] at hst
        refine wlS rfl rfl _ (run_stV (.tmp 2) (.tmp 92) rfl q2 0 rfl _ rfl hst) ?_
        have k_ := RH.out.set 0 rfl ((RH.out.at 0 rfl).setRow (rcells rz (.slice none 0 0))) ((Ch.refl (· = q2) w9).setRow (g := q2) (Or.inl rfl) _)
        obtain ⟨wb, hW_⟩ : ∃ W, W = w9.setRow q2 (rcells rz (.slice none 0 0)).toArray := ⟨_, rfl⟩
        rw [← hW_] at k_ ⊢
        have RB : Hid (Row wb q2 26 (rcells rz (.slice none 0 0)) ∧ Below w.heap.size w wb) := ⟨k_.at 0 rfl, k_.below⟩
        clear k_ hW_ hst RH
        refine wl rfl (.int .i64 110) _ (run_asZ (.const (.int .i64 110)) rfl (.int .i64 110) rfl) ?_
        simp only [Act.put, List.setIfInBounds_toArray, List.set_cons_succ, List.set_cons_zero]
        refine wpList_nil ?_
        go_wp2_with fail
        refine bodyPost_ret (results_cell_tmp ag26 Try.results16 _ _ q2 26 rfl _ (rcells_length _ rz_fine.1) RB.out.1) rfl ?_
        rw [HPQ.out]
        exact ⟨rz, (.slice none 0 0), 110, rfl, rz_fine, POwn.nil _ _, by decide, RB.out.2, Or.inl ⟨dec_fails (SliceIn.lt256 HI.out) (by rintro ⟨_, ⟨h1, _⟩, _⟩; have h2 := HQ.out.1; rw [HT.out] at h2; simp at h2; rw [← HN.out.2.2.2.2.2.1] at h1; omega), rfl, rfl⟩⟩
      obtain rfl : f3 = false := (by cases f3 with | false => rfl | true => exact absurd rfl h3)
      clear h3
      go_upto_region 16 with fail
      refine wp_region_lit ?_
      refine wl rfl vb _ (run_mvZ (.tmp 6) rfl vb rfl) ?_
      simp only [Act.put, List.setIfInBounds_toArray, List.set_cons_succ, List.set_cons_zero]
      refine wl rfl (.pointer (some ⟨i4, j4, none⟩)) _ (run_idx (.tmp 80) (.const (.int .i64 44)) rfl vb _ _ rfl rfl HJ.out.1) ?_
      simp only [Act.put, List.setIfInBounds_toArray, List.set_cons_succ, List.set_cons_zero]
      refine wl rfl (.int .u8 (F : Nat)) _ (run_load1 o5 (.tmp 81) rfl i4 (j4) rfl (.int .u8 (F : Nat)) (cell_later RH.out.below HJ.out.2.2.1)) ?_
      simp only [Act.put, List.setIfInBounds_toArray, List.set_cons_succ, List.set_cons_zero]
      refine wl rfl (.bool false) _ (run_gtB 3 (.tmp 82) rfl F rfl false HQ.out.1) ?_
      simp only [Act.put, List.setIfInBounds_toArray, List.set_cons_succ, List.set_cons_zero]
      refine wl rfl (.bool false) _ (run_mvZ (.tmp 83) rfl (.bool false) rfl) ?_
      simp only [Act.put, List.setIfInBounds_toArray, List.set_cons_succ, List.set_cons_zero]
      refine wl (by kernel_rfl) vb _ (run_mvZ (.tmp 6) rfl vb rfl) ?_
      simp only [Act.put, List.setIfInBounds_toArray, List.set_cons_succ, List.set_cons_zero]
      refine wl (by kernel_rfl) (.int .i64 (rl : Nat)) _ (run_lenBn HB.out.2.2.2.2.2.2.1 HQ.out.2.2 (.tmp 85) rfl rfl) ?_
      simp only [Act.put, List.setIfInBounds_toArray, List.set_cons_succ, List.set_cons_zero]
      refine wl (by kernel_rfl) (.int .i64 (KK : Nat)) _ (run_mvZ (.tmp 8) rfl (.int .i64 (KK : Nat)) rfl) ?_
      simp only [Act.put, List.setIfInBounds_toArray, List.set_cons_succ, List.set_cons_zero]
      refine wl (by kernel_rfl) (.int .i64 ((5 * KK : Nat) : Int)) _ (run_mulI 5 (.tmp 87) rfl KK (by have := HB.out.2.2.2.2.1; omega) rfl) ?_
      simp only [Act.put, List.setIfInBounds_toArray, List.set_cons_succ, List.set_cons_zero]
      refine wl (by kernel_rfl) (.int .i64 ((46 + 5 * KK : Nat) : Int)) _ (run_addI (.const (.int .i64 46)) (.tmp 88) rfl 46 (5 * KK) (by have := HB.out.2.2.2.2.1; omega) rfl rfl) ?_
      simp only [Act.put, List.setIfInBounds_toArray, List.set_cons_succ, List.set_cons_zero]
      refine wl (by kernel_rfl) (.bool k5) _ (run_neZ (.tmp 86) (.tmp 89) rfl (rl : Nat) ((46 + 5 * KK : Nat) : Int) rfl rfl k5 HQ.out.2.1) ?_
      simp only [Act.put, List.setIfInBounds_toArray, List.set_cons_succ, List.set_cons_zero]
      refine wl rfl (.bool k5) _ (run_pickZ (.tmp 84) (.const (.bool true)) (.tmp 90) rfl false (.bool k5) rfl rfl) ?_
      simp only [Act.put, List.setIfInBounds_toArray, List.set_cons_succ, List.set_cons_zero]
      refine wpList_nil ?_
      cases k5 with
      | true =>
        go_upto_region 17 with fail
        refine wp_region_lit ?_
        refine wl rfl (.agg (rcells rz (.slice none 0 0)).toArray) _ (run_bld26 rfl) ?_
        simp only [Act.put, List.setIfInBounds_toArray, List.set_cons_succ, List.set_cons_zero]
        have hst := run_storeVar ag26 w9 q2 0 26 (rcells rz (.slice none 0 0)) (rcells rz (.slice none 0 0)) (rcells_length _ rz_fine.1) (RH.out.at 0 rfl) (by rw [Nat.zero_add]; exact Nat.le_refl _) (rcells_one (fits_of rz_fine (POwn.nil w9 0) (by decide)))
        rw [splice_all _ _ rfl] at hst
        refine wlS rfl rfl _ (run_stV (.tmp 2) (.tmp 92) rfl q2 0 rfl _ rfl hst) ?_
        have k_ := RH.out.set 0 rfl ((RH.out.at 0 rfl).setRow (rcells rz (.slice none 0 0))) ((Ch.refl (· = q2) w9).setRow (g := q2) (Or.inl rfl) _)
        obtain ⟨wb, hW_⟩ : ∃ W, W = w9.setRow q2 (rcells rz (.slice none 0 0)).toArray := ⟨_, rfl⟩
        rw [← hW_] at k_ ⊢
        have RB : Hid (Row wb q2 26 (rcells rz (.slice none 0 0)) ∧ Below w.heap.size w wb) := ⟨k_.at 0 rfl, k_.below⟩
        clear k_ hW_ hst RH
        refine wl rfl (.int .i64 110) _ (run_asZ (.const (.int .i64 110)) rfl (.int .i64 110) rfl) ?_
        simp only [Act.put, List.setIfInBounds_toArray, List.set_cons_succ, List.set_cons_zero]
        refine wpList_nil ?_
        go_wp2_with fail
        refine bodyPost_ret (results_cell_tmp ag26 Try.results16 _ _ q2 26 rfl _ (rcells_length _ rz_fine.1) RB.out.1) rfl ?_
        rw [HPQ.out]
        exact ⟨rz, (.slice none 0 0), 110, rfl, rz_fine, POwn.nil _ _, by decide, RB.out.2, Or.inl ⟨dec_fails (SliceIn.lt256 HI.out) (by rintro ⟨_, ⟨_, h1⟩, _⟩; have h2 := HQ.out.2.1; have h3 := HQ.out.2.2; rw [← HN.out.2.2.2.2.2.2.2, ← HN.out.2.2.2.2.2.2.1] at h1; simp at h2; omega), rfl, rfl⟩⟩
      | false =>
      have HOB : Hid (okB b ∧ rl = 46 + 5 * KK) := (by
        have h2 := HQ.out.2.1
        have h3 := of_decide_eq_false HQ.out.1
        have h4 := HQ.out.2.2
        simp at h2
        have h5 : rl = 46 + 5 * KK := (by omega)
        exact ⟨⟨by rw [← HN.out.2.2.2.2.2.1]; omega, by rw [← HN.out.2.2.2.2.2.2.2, ← HN.out.2.2.2.2.2.2.1]; omega⟩, h5⟩)
      go_upto_region 18 with fail
      refine wp_region_lit ?_
      refine wl rfl (.int .i64 0) _ (run_asZ (.const (.int .i64 0)) rfl (.int .i64 0) rfl) ?_
      simp only [Act.put, List.setIfInBounds_toArray, List.set_cons_succ, List.set_cons_zero]
      refine wpList_nil ?_
      have RJ : Hid (RdK w q2 q5 ⟨ID, (L : Nat), RT, (I : Nat), (EX : Nat), (decide (F % 2 = 1)), (decide (F / 2 % 2 = 1)), []⟩ b w9 0) := ⟨(.slice none 0 0), RH.out, POwn.nil _ _⟩
      clear RH HJ HS
      go_wp2_with fail
      go_loopw [9] (fun vi W => ∃ i : Nat, vi = .int .i64 (i : Nat) ∧ i ≤ KK ∧ okC b i ∧ RdK w q2 q5 ⟨ID, (L : Nat), RT, (I : Nat), (EX : Nat), (decide (F % 2 = 1)), (decide (F / 2 % 2 = 1)), []⟩ b W i) (fun vi _ => KK - (intOf vi).toNat)
      case atStart => exact ⟨0, rfl, Nat.zero_le _, fun i hi => absurd hi (by omega), RJ.out⟩
      case round =>
        obtain ⟨i, rfl, hi, hC, hS0⟩ := hrel
        have HK : Hid (RdK w q2 q5 ⟨ID, (L : Nat), RT, (I : Nat), (EX : Nat), (decide (F % 2 = 1)), (decide (F / 2 % 2 = 1)), []⟩ b wr i ∧ okC b i) := ⟨hS0, hC⟩
        clear hS0 hC RJ
        have hk256 : KK < 256 := HB.out.2.2.2.2.1
        by_cases hlt : i < KK
        · have t1 : decide ((i : Int) < (KK : Int)) = true := decide_eq_true (by omega)
          obtain ⟨vcl, hL0, hP0⟩ := HK.out.1
          have RM : Hid (Loc w wr [(q2, 26, rcells rz (.slice none 0 0)), (q5, 26, rcells ⟨ID, (L : Nat), RT, (I : Nat), (EX : Nat), (decide (F % 2 = 1)), (decide (F / 2 % 2 = 1)), (rawPs b i)⟩ vcl)] ∧ POwn wr w.heap.size vcl (rawPs b i)) := ⟨hL0, hP0⟩
          clear hL0 hP0
          obtain ⟨c, hc⟩ : ∃ l, l = RS.drop (46 + 5 * i) := ⟨_, rfl⟩
          have hcl : 5 ≤ c.length := (by rw [hc, List.length_drop]; have := HOB.out.2; have := HQ.out.2.2; omega)
          obtain ⟨vd, rd, sd, _⟩ := run_bsubO HB.out.2.2.2.2.2.2.1 (lo := some (.int .i64 ((46 + 5 * i : Nat) : Int))) (hi := none) (mx := none) (l := 46 + 5 * i) (h := RS.length) ⟨Or.inr ⟨_, rfl, rfl⟩, Or.inl ⟨rfl, rfl, rfl⟩, by have := HOB.out.2; have := HQ.out.2.2; omega, Nat.le_refl _⟩
          rw [List.take_length, ← hc] at sd
          obtain ⟨ve, re, se, _⟩ := run_bsubO sd (lo := some (.int .i64 1)) (hi := none) (mx := none) (l := 1) (h := c.length) ⟨Or.inr ⟨_, rfl, rfl⟩, Or.inl ⟨rfl, rfl, rfl⟩, by omega, Nat.le_refl _⟩
          obtain ⟨vf, rf, sf, _⟩ := run_bsubO sd (lo := some (.int .i64 3)) (hi := none) (mx := none) (l := 3) (h := c.length) ⟨Or.inr ⟨_, rfl, rfl⟩, Or.inl ⟨rfl, rfl, rfl⟩, by omega, Nat.le_refl _⟩
          rw [List.take_length] at se sf
          obtain ⟨i6, j6, x6, c6⟩ := ix_byte sd 4 (by omega)
          obtain ⟨B4, hB4⟩ : ∃ x, x = c.getD 4 0 := ⟨_, rfl⟩
          have HD : Hid ((∀ w', (Instr.slice 28 vb (some (.int .i64 ((46 + 5 * i : Nat) : Int))) none none).run Try.prog w' = .ok vd w') ∧ (∀ w', (Instr.slice 28 vd (some (.int .i64 1)) none none).run Try.prog w' = .ok ve w') ∧ (∀ w', (Instr.slice 28 vd (some (.int .i64 3)) none none).run Try.prog w' = .ok vf w') ∧ SliceIn w vd c ∧ SliceIn w ve (c.drop 1) ∧ SliceIn w vf (c.drop 3)) := ⟨rd, re, rf, sd, se, sf⟩
          have HD2 : Hid ((∀ w', (Instr.indexAt 28 vd (.int .i64 4)).run Try.prog w' = .ok (.pointer (some ⟨i6, j6, none⟩)) w') ∧ w.cell? ⟨i6, j6, none⟩ = some (.int .u8 (B4 : Nat)) ∧ B4 = c.getD 4 0 ∧ c = (rst b).drop (46 + 5 * i) ∧ 5 ≤ c.length) := ⟨x6, by rw [hB4]; exact c6, hB4, by rw [hc, HN.out.2.2.2.2.2.2.2], hcl⟩
          clear rd re rf sd se sf x6 c6 hc hB4 hcl
          obtain ⟨b1, hb1⟩ : ∃ x, decide (((1 : Nat) : Int) < (B4 : Int)) = x := ⟨_, rfl⟩
          have HB1 : Hid (decide (((1 : Nat) : Int) < (B4 : Int)) = b1) := hb1
          clear hb1
          go_upto_region 21 with fail
          refine wp_region_lit ?_
          refine wl rfl vb _ (run_mvZ (.tmp 6) rfl vb rfl) ?_
          simp only [Act.put, List.setIfInBounds_toArray, List.set_cons_succ, List.set_cons_zero]
          refine wl rfl (.int .i64 (i : Nat)) _ (run_mvZ (.tmp 9) rfl (.int .i64 (i : Nat)) rfl) ?_
          simp only [Act.put, List.setIfInBounds_toArray, List.set_cons_succ, List.set_cons_zero]
          refine wl rfl (.int .i64 ((5 * i : Nat) : Int)) _ (run_mulI 5 (.tmp 99) rfl i (by omega) rfl) ?_
          simp only [Act.put, List.setIfInBounds_toArray, List.set_cons_succ, List.set_cons_zero]
          refine wl rfl (.int .i64 ((46 + 5 * i : Nat) : Int)) _ (run_addI (.const (.int .i64 46)) (.tmp 100) rfl 46 (5 * i) (by omega) rfl rfl) ?_
          simp only [Act.put, List.setIfInBounds_toArray, List.set_cons_succ, List.set_cons_zero]
          refine wl rfl vd _ (run_subZ (.tmp 98) (some (.tmp 101)) none none rfl vb vd HB.out.2.2.2.2.2.2.1.isSlice rfl (some (.int .i64 ((46 + 5 * i : Nat) : Int))) none none rfl rfl rfl HD.out.1) ?_
          simp only [Act.put, List.setIfInBounds_toArray, List.set_cons_succ, List.set_cons_zero]
          refine wl rfl vd _ (run_asZ (.tmp 102) rfl vd rfl) ?_
          simp only [Act.put, List.setIfInBounds_toArray, List.set_cons_succ, List.set_cons_zero]
          refine wpList_nil ?_
          go_upto_region 22 with fail
          refine wp_region_lit ?_
          refine wl rfl vd _ (run_mvZ (.tmp 10) rfl vd rfl) ?_
          simp only [Act.put, List.setIfInBounds_toArray, List.set_cons_succ, List.set_cons_zero]
          refine wl rfl (.pointer (some ⟨i6, j6, none⟩)) _ (run_idx (.tmp 103) (.const (.int .i64 4)) rfl vd _ _ rfl rfl HD2.out.1) ?_
          simp only [Act.put, List.setIfInBounds_toArray, List.set_cons_succ, List.set_cons_zero]
          refine wl rfl (.int .u8 (B4 : Nat)) _ (run_load1 o5 (.tmp 104) rfl i6 (j6) rfl (.int .u8 (B4 : Nat)) (cell_later RM.out.1.below HD2.out.2.1)) ?_
          simp only [Act.put, List.setIfInBounds_toArray, List.set_cons_succ, List.set_cons_zero]
          refine wl rfl (.bool b1) _ (run_gtB 1 (.tmp 105) rfl B4 rfl b1 HB1.out) ?_
          simp only [Act.put, List.setIfInBounds_toArray, List.set_cons_succ, List.set_cons_zero]
          refine wpList_nil ?_
          have RQ : Hid (Loc w wr [(q2, 26, rcells rz (.slice none 0 0)), (q5, 26, rcells ⟨ID, (L : Nat), RT, (I : Nat), (EX : Nat), (decide (F % 2 = 1)), (decide (F / 2 % 2 = 1)), (rawPs b i)⟩ vcl)]) := RM.out.1
          cases b1 with
          | true =>
            go_upto_region 23 with fail
            refine wp_region_lit ?_
            refine wl rfl (.agg (rcells rz (.slice none 0 0)).toArray) _ (run_bld26 rfl) ?_
            simp only [Act.put, List.setIfInBounds_toArray, List.set_cons_succ, List.set_cons_zero]
            have hst := run_storeVar ag26 wr q2 0 26 (rcells rz (.slice none 0 0)) (rcells rz (.slice none 0 0)) (rcells_length _ rz_fine.1) (RQ.out.at 0 rfl) (by rw [Nat.zero_add]; exact Nat.le_refl _) (rcells_one (fits_of rz_fine (POwn.nil wr 0) (by decide)))
            rw [splice_all _ _ rfl] at hst
            refine wlS rfl rfl _ (run_stV (.tmp 2) (.tmp 107) rfl q2 0 rfl _ rfl hst) ?_
            have k_ := RQ.out.set 0 rfl ((RQ.out.at 0 rfl).setRow (rcells rz (.slice none 0 0))) ((Ch.refl (· = q2) wr).setRow (g := q2) (Or.inl rfl) _)
            obtain ⟨wb, hW_⟩ : ∃ W, W = wr.setRow q2 (rcells rz (.slice none 0 0)).toArray := ⟨_, rfl⟩
            rw [← hW_] at k_ ⊢
            have RB : Hid (Row wb q2 26 (rcells rz (.slice none 0 0)) ∧ Below w.heap.size w wb) := ⟨k_.at 0 rfl, k_.below⟩
            clear k_ hW_ hst RQ
            refine wl rfl (.int .i64 110) _ (run_asZ (.const (.int .i64 110)) rfl (.int .i64 110) rfl) ?_
            simp only [Act.put, List.setIfInBounds_toArray, List.set_cons_succ, List.set_cons_zero]
            refine wpList_nil ?_
            go_wp2_with fail
            refine bodyPost_ret (results_cell_tmp ag26 Try.results16 _ _ q2 26 rfl _ (rcells_length _ rz_fine.1) RB.out.1) rfl ?_
            rw [HPQ.out]
            exact ⟨rz, (.slice none 0 0), 110, rfl, rz_fine, POwn.nil _ _, by decide, RB.out.2, Or.inl ⟨dec_fails (SliceIn.lt256 HI.out) (by rintro ⟨_, _, h1, _⟩; have h2 := of_decide_eq_true HB1.out; have h3 := h1 i (by rw [← HN.out.2.2.2.2.2.2.1]; exact hlt); rw [← HD2.out.2.2.2.1, ← HD2.out.2.2.1] at h3; omega), rfl, rfl⟩⟩
          | false =>
            obtain ⟨p, hp⟩ : ∃ p, p = plc c := ⟨_, rfl⟩
            have HP : Hid (((Fr.Frame.val (c.take 1) : Nat) : Int) = p.dev ∧ ((Fr.Frame.val ((c.drop 1).take 2) : Nat) : Int) = p.pl ∧ ((Fr.Frame.val ((c.drop 3).take 1) : Nat) : Int) = p.len ∧ p.bad = decide (B4 = 1) ∧ rawPs b (i + 1) = rawPs b i ++ [p] ∧ okC b (i + 1)) := (by
              have hB := HD2.out.2.2.1
              refine ⟨by rw [hp]; rfl, by rw [hp]; rfl, by rw [hp]; rfl, by rw [hp, hB]; rfl, by rw [rawPs_snoc, hp, HD2.out.2.2.2.1], fun j hj => ?_⟩
              by_cases hji : j < i
              · exact HK.out.2 j hji
              · have e : j = i := (by omega)
                have h2 := of_decide_eq_false HB1.out
                rw [e, ← HD2.out.2.2.2.1, ← hB]
                omega)
            clear hp
            go_upto_region 24 with fail
            refine wp_region_until (S := fun X => Loc w X [(q2, 26, rcells rz (.slice none 0 0)), (q5, 26, rcells ⟨ID, (L : Nat), RT, (I : Nat), (EX : Nat), (decide (F % 2 = 1)), (decide (F / 2 % 2 = 1)), (rawPs b i)⟩ vcl)]) 18 (by kernel_rfl) ?_
            show wpAnyU _ _ _ _ _ _ 19 (Array.replicate 19 false) _ _
            obtain ⟨Y, hX⟩ : ∃ Y : World, Y = { wr with drawn := wr.drawn + 1 } := ⟨_, rfl⟩
            rw [← hX]
            have hS : Loc w Y [(q2, 26, rcells rz (.slice none 0 0)), (q5, 26, rcells ⟨ID, (L : Nat), RT, (I : Nat), (EX : Nat), (decide (F % 2 = 1)), (decide (F / 2 % 2 = 1)), (rawPs b i)⟩ vcl)] ∧ POwn Y w.heap.size vcl (rawPs b i) := (by rw [hX]; exact ⟨RM.out.1.later ⟨rfl, rfl, rfl, Nat.le_refl _, fun _ _ => rfl⟩, RM.out.2.later ⟨rfl, rfl, rfl, Nat.le_refl _, fun _ _ => rfl⟩⟩)
            clear RM RQ
            clear hX
            refine takeV (i := 0) [18] (some 108) rfl rfl (by kernel_rfl) (by kernel_rfl) (by kernel_rfl) (by kernel_rfl) (fun _ _ _ h => h) (gRun rfl (.pointer (some ⟨q5, 0 + 38, none⟩)) fun _ h => run_fieldOp' f26_7 (.tmp 5) rfl q5 (0) rfl) hS.1 ?_
            simp only [Act.put, List.setIfInBounds_toArray, List.set_cons_succ, List.set_cons_zero]
            refine takeV (i := 1) [18] (some 109) rfl rfl (by kernel_rfl) (by kernel_rfl) (by kernel_rfl) (by kernel_rfl) (fun _ _ _ h => h) (gRun rfl vcl fun _ h => run_load1 o24 (.tmp 108) rfl q5 (0 + 38) rfl vcl ((h.at 1 rfl).at 38 _ (rcB vcl (show (⟨ID, (L : Nat), RT, (I : Nat), (EX : Nat), (decide (F % 2 = 1)), (decide (F / 2 % 2 = 1)), (rawPs b i)⟩ : Rc).root.length = 32 from HB.out.2.1) 4))) hS.1 ?_
            simp only [Act.put, List.setIfInBounds_toArray, List.set_cons_succ, List.set_cons_zero]
            refine takeV (i := 2) [18] (some 110) rfl rfl (by kernel_rfl) (by kernel_rfl) (by kernel_rfl) (by kernel_rfl) (fun _ _ _ h => h) (gRun rfl vd fun _ h => run_mvZ (.tmp 10) rfl vd rfl) hS.1 ?_
            simp only [Act.put, List.setIfInBounds_toArray, List.set_cons_succ, List.set_cons_zero]
            refine takeV (i := 4) [18] (some 112) rfl rfl (by kernel_rfl) (by kernel_rfl) (by kernel_rfl) (by kernel_rfl) (fun _ _ _ h => h) (gRun rfl vd fun _ h => run_mvZ (.tmp 10) rfl vd rfl) hS.1 ?_
            simp only [Act.put, List.setIfInBounds_toArray, List.set_cons_succ, List.set_cons_zero]
            refine takeV (i := 5) [18] (some 113) rfl rfl (by kernel_rfl) (by kernel_rfl) (by kernel_rfl) (by kernel_rfl) (fun _ _ _ h => h) (gRun rfl ve fun _ h => run_subZ (.tmp 112) (some (.const (.int .i64 1))) none none rfl vd ve HD.out.2.2.2.1.isSlice rfl (some (.int .i64 1)) none none rfl rfl rfl HD.out.2.1) hS.1 ?_
            simp only [Act.put, List.setIfInBounds_toArray, List.set_cons_succ, List.set_cons_zero]
            refine takeV (i := 7) [18] (some 115) rfl rfl (by kernel_rfl) (by kernel_rfl) (by kernel_rfl) (by kernel_rfl) (fun _ _ _ h => h) (gRun rfl vd fun _ h => run_mvZ (.tmp 10) rfl vd rfl) hS.1 ?_
            simp only [Act.put, List.setIfInBounds_toArray, List.set_cons_succ, List.set_cons_zero]
            refine takeV (i := 8) [18] (some 116) rfl rfl (by kernel_rfl) (by kernel_rfl) (by kernel_rfl) (by kernel_rfl) (fun _ _ _ h => h) (gRun rfl vf fun _ h => run_subZ (.tmp 115) (some (.const (.int .i64 3))) none none rfl vd vf HD.out.2.2.2.1.isSlice rfl (some (.int .i64 3)) none none rfl rfl rfl HD.out.2.2.1) hS.1 ?_
            simp only [Act.put, List.setIfInBounds_toArray, List.set_cons_succ, List.set_cons_zero]
            refine takeV (i := 10) [18] (some 118) rfl rfl (by kernel_rfl) (by kernel_rfl) (by kernel_rfl) (by kernel_rfl) (fun _ _ _ h => h) (gRun rfl vd fun _ h => run_mvZ (.tmp 10) rfl vd rfl) hS.1 ?_
            simp only [Act.put, List.setIfInBounds_toArray, List.set_cons_succ, List.set_cons_zero]
            refine takeV (i := 11) [18] (some 119) rfl rfl (by kernel_rfl) (by kernel_rfl) (by kernel_rfl) (by kernel_rfl) (fun _ _ _ h => h) (gRun rfl (.pointer (some ⟨i6, j6, none⟩)) fun _ h => run_idx (.tmp 118) (.const (.int .i64 4)) rfl vd _ _ rfl rfl HD2.out.1) hS.1 ?_
            simp only [Act.put, List.setIfInBounds_toArray, List.set_cons_succ, List.set_cons_zero]
            refine takeV (i := 12) [18] (some 120) rfl rfl (by kernel_rfl) (by kernel_rfl) (by kernel_rfl) (by kernel_rfl) (fun _ _ _ h => h) (gRun rfl (.int .u8 (B4 : Nat)) fun _ h => run_load1 o5 (.tmp 119) rfl i6 (j6) rfl (.int .u8 (B4 : Nat)) (cell_later h.below HD2.out.2.1)) hS.1 ?_
            simp only [Act.put, List.setIfInBounds_toArray, List.set_cons_succ, List.set_cons_zero]
            refine takeV (i := 13) [18] (some 121) rfl rfl (by kernel_rfl) (by kernel_rfl) (by kernel_rfl) (by kernel_rfl) (fun _ _ _ h => h) (gRun rfl (.bool p.bad) fun _ h => (by rw [HP.out.2.2.2.1]; exact run_eqB1 (.tmp 120) rfl B4 rfl)) hS.1 ?_
            simp only [Act.put, List.setIfInBounds_toArray, List.set_cons_succ, List.set_cons_zero]
            refine oneU (i := 3) (by kernel_rfl) ?_
            refine opCallG (some 111) rfl rfl rfl 30 _ (run_call eN30 [.tmp 110, .const ((.int .i64 1))] _ rfl [vd, (.int .i64 1)] rfl) ?_
            refine (get_any vd c 1 Y (HD.out.2.2.2.1.later hS.1.below) (by have := HD2.out.2.2.2.2; first | omega | (rw [List.length_drop]; omega)) (by decide)).mono ?_
            rintro e yg ⟨rfl, rfl⟩
            refine ⟨_, rfl, ?_⟩
            rw [show ((Fr.Frame.val ((c).take 1) : Nat) : Int) = p.dev from HP.out.1]
            refine ⟨fun _ => hS.1, ?_⟩
            simp only [Act.put, List.setIfInBounds_toArray, List.set_cons_succ, List.set_cons_zero]
            refine oneU (i := 6) (by kernel_rfl) ?_
            refine opCallG (some 114) rfl rfl rfl 30 _ (run_call eN30 [.tmp 113, .const ((.int .i64 2))] _ rfl [ve, (.int .i64 2)] rfl) ?_
            refine (get_any ve (c.drop 1) 2 Y (HD.out.2.2.2.2.1.later hS.1.below) (by have := HD2.out.2.2.2.2; first | omega | (rw [List.length_drop]; omega)) (by decide)).mono ?_
            rintro e yg ⟨rfl, rfl⟩
            refine ⟨_, rfl, ?_⟩
            rw [show ((Fr.Frame.val (((c.drop 1)).take 2) : Nat) : Int) = p.pl from HP.out.2.1]
            refine ⟨fun _ => hS.1, ?_⟩
            simp only [Act.put, List.setIfInBounds_toArray, List.set_cons_succ, List.set_cons_zero]
            refine oneU (i := 9) (by kernel_rfl) ?_
            refine opCallG (some 117) rfl rfl rfl 30 _ (run_call eN30 [.tmp 116, .const ((.int .i64 1))] _ rfl [vf, (.int .i64 1)] rfl) ?_
            refine (get_any vf (c.drop 3) 1 Y (HD.out.2.2.2.2.2.later hS.1.below) (by have := HD2.out.2.2.2.2; first | omega | (rw [List.length_drop]; omega)) (by decide)).mono ?_
            rintro e yg ⟨rfl, rfl⟩
            refine ⟨_, rfl, ?_⟩
            rw [show ((Fr.Frame.val (((c.drop 3)).take 1) : Nat) : Int) = p.len from HP.out.2.2.1]
            refine ⟨fun _ => hS.1, ?_⟩
            simp only [Act.put, List.setIfInBounds_toArray, List.set_cons_succ, List.set_cons_zero]
            refine takeV (i := 14) [18] (some 122) rfl rfl (by kernel_rfl) (by kernel_rfl) (by kernel_rfl) (by kernel_rfl) (fun _ _ _ h => h) (gRun rfl (.agg (pcells p).toArray) fun _ h => run_build43 (.tmp 111) (.tmp 114) (.tmp 117) (.tmp 121) rfl p.dev p.pl p.len p.bad rfl rfl rfl rfl) hS.1 ?_
            simp only [Act.put, List.setIfInBounds_toArray, List.set_cons_succ, List.set_cons_zero]
            refine oneU (i := 15) (by kernel_rfl) ?_
            refine opValueG (some 123) rfl rfl rfl _ _ (run_litP (.tmp 122) rfl p rfl) ?_
            obtain ⟨bq, hb⟩ : ∃ b, b = Y.heap.size := ⟨_, rfl⟩
            obtain ⟨y5, hw⟩ : ∃ W, W = Y.alloc (.cells (pcells p).toArray 43) := ⟨_, rfl⟩
            have G5 : Hid (Loc w y5 [(q2, 26, rcells rz (.slice none 0 0)), (q5, 26, rcells ⟨ID, (L : Nat), RT, (I : Nat), (EX : Nat), (decide (F % 2 = 1)), (decide (F / 2 % 2 = 1)), (rawPs b i)⟩ vcl)] ∧ POwn y5 w.heap.size vcl (rawPs b i) ∧ Row y5 bq 43 (pcells p)) := (by
              have hbl := below_alloc Y (.cells (pcells p).toArray 43)
              rw [hb, hw]
              exact ⟨hS.1.later hbl, hS.2.later hbl, Row.new _ _ _⟩)
            rw [← hb, ← hw]
            clear hb hw hS
            refine ⟨fun _ => G5.out.1, ?_⟩
            simp only [Act.put, List.setIfInBounds_toArray, List.set_cons_succ, List.set_cons_zero]
            obtain ⟨vd2, y6, hrun, ho6, hg6⟩ := run_papp w.heap.size 24 vcl (rawPs b i) p G5.out.2.1 bq G5.out.2.2 (by rw [rawPs_length]; omega) G5.out.1.below.size
            refine oneU (i := 16) (by kernel_rfl) ?_
            refine opValueG (some 124) rfl rfl rfl vd2 y6 (run_append (.tmp 109) (.tmp 123) rfl vcl _ vd2 rfl rfl hrun) ?_
            have G6 : Hid (Loc w y6 [(q2, 26, rcells rz (.slice none 0 0)), (q5, 26, rcells ⟨ID, (L : Nat), RT, (I : Nat), (EX : Nat), (decide (F % 2 = 1)), (decide (F / 2 % 2 = 1)), (rawPs b i)⟩ vcl)] ∧ POwn y6 w.heap.size vd2 (rawPs b (i + 1))) := (by
              rw [HP.out.2.2.2.2.1]
              exact ⟨growK G5.out.1 G5.out.2.1 hg6, ho6⟩)
            clear hrun ho6 hg6 G5
            refine ⟨fun _ => G6.out.1, ?_⟩
            simp only [Act.put, List.setIfInBounds_toArray, List.set_cons_succ, List.set_cons_zero]
            refine takeV (i := 17) [18] (some 125) rfl rfl (by kernel_rfl) (by kernel_rfl) (by kernel_rfl) (by kernel_rfl) (fun _ _ _ h => h) (gRun rfl (.pointer (some ⟨q5, 0 + 38, none⟩)) fun _ h => run_fieldOp' f26_7 (.tmp 5) rfl q5 (0) rfl) G6.out.1 ?_
            simp only [Act.put, List.setIfInBounds_toArray, List.set_cons_succ, List.set_cons_zero]
            refine oneU (i := 18) (by kernel_rfl) ?_
            refine opSkipZ rfl rfl rfl _ (run_putRow (t := 24) (by kernel_rfl) (.tmp 125) (.tmp 124) rfl q5 (0 + 38) 26 (rcells ⟨ID, (L : Nat), RT, (I : Nat), (EX : Nat), (decide (F % 2 = 1)), (decide (F / 2 % 2 = 1)), (rawPs b i)⟩ vcl) rfl vd2 rfl (own_cells G6.out.2) (G6.out.1.at 1 rfl) (by rw [rcells_length _ (show (⟨ID, (L : Nat), RT, (I : Nat), (EX : Nat), (decide (F % 2 = 1)), (decide (F / 2 % 2 = 1)), (rawPs b i)⟩ : Rc).root.length = 32 from HB.out.2.1)]; decide)) ?_
            obtain ⟨y7, hw⟩ : ∃ W, W = y6.setCell ⟨q5, 0 + 38, none⟩ vd2 := ⟨_, rfl⟩
            have G7 : Hid (RdK w q2 q5 ⟨ID, (L : Nat), RT, (I : Nat), (EX : Nat), (decide (F % 2 = 1)), (decide (F / 2 % 2 = 1)), []⟩ b y7 (i + 1)) := (by
              have h := G6.out
              have hc : Ch (· = q5) y6 y7 := hw ▸ (Ch.refl (· = q5) y6).setCell (g := q5) (Or.inl rfl) _ _
              have k_ := h.1.set 1 rfl (row_cell' (i := 0 + 38) (h.1.at 1 rfl) vd2) ((Ch.refl (· = q5) y6).setCell (g := q5) (Or.inl rfl) (0 + 38) vd2)
              rw [← hw] at k_
              have e : (rcells ⟨ID, (L : Nat), RT, (I : Nat), (EX : Nat), (decide (F % 2 = 1)), (decide (F / 2 % 2 = 1)), (rawPs b i)⟩ vcl).set (0 + 38) vd2 = rcells ⟨ID, (L : Nat), RT, (I : Nat), (EX : Nat), (decide (F % 2 = 1)), (decide (F / 2 % 2 = 1)), (rawPs b (i + 1))⟩ vd2 := set38 ⟨ID, (L : Nat), RT, (I : Nat), (EX : Nat), (decide (F % 2 = 1)), (decide (F / 2 % 2 = 1)), (rawPs b i)⟩ vcl vd2 HB.out.2.1 _
              rw [e] at k_
              exact ⟨vd2, k_, h.2.keep (fun b hb _ hb2 => hc.one b hb2 (fun e => h.2.ne (h.1.at 1 rfl) (by decide) (e ▸ hb)))⟩)
            rw [← hw]
            clear hw G6
            refine ⟨fun h => absurd (show true = false from h) (by decide), ?_⟩
            refine wpAnyU_done (by kernel_rfl) ?_ _
            go_wp2_with fail
            refine ⟨⟨i + 1, by go_num, by omega, HP.out.2.2.2.2.2, G7.out⟩, ?_⟩
            simp [intOf]; omega
        · have t1 : decide ((i : Int) < (KK : Int)) = false := decide_eq_false (by omega)
          obtain ⟨vcl, hL0, hP0⟩ := HK.out.1
          obtain ⟨r, hr⟩ : ∃ r : Rc, r = ⟨ID, (L : Nat), RT, (I : Nat), (EX : Nat), (decide (F % 2 = 1)), (decide (F / 2 % 2 = 1)), (rawPs b i)⟩ := ⟨_, rfl⟩
          have RU : Hid (Loc w wr [(q2, 26, rcells rz (.slice none 0 0)), (q5, 26, rcells r vcl)]) := (by rw [hr]; exact hL0)
          have HE : Hid (r = raw b ∧ okC b (rawK b) ∧ Fine r ∧ r.cp.length ≤ 255 ∧ POwn wr w.heap.size vcl r.cp) := (by
            have ei : i = rawK b := (by rw [← HN.out.2.2.2.2.2.2.1]; omega)
            have hc := HK.out.2
            refine ⟨?_, ei ▸ hc, by rw [hr]; exact ⟨HB.out.2.1, HB.out.1, HB.out.2.2.1⟩, by rw [hr]; show (rawPs b i).length ≤ 255; rw [rawPs_length]; omega, by rw [hr]; exact hP0⟩
            rw [hr, ei, HN.out.1, HN.out.2.1, HN.out.2.2.1, HN.out.2.2.2.1, HN.out.2.2.2.2.1, HN.out.2.2.2.2.2.1]
            rfl)
          clear hL0 hP0 hr
          go_upto_region 25 with fail
          refine wp_region_lit ?_
          refine wl rfl (.agg (rcells r vcl).toArray) _ (run_loadA ag26 (.tmp 5) rfl q5 (0) rfl (rcells r vcl) (rcells_length vcl HE.out.2.2.1.1) (rows_all RU.out 1 rfl)) ?_
          simp only [Act.put, List.setIfInBounds_toArray, List.set_cons_succ, List.set_cons_zero]
          refine wpList_callW eN23 [.tmp 126] _ rfl rfl [(.agg (rcells r vcl).toArray)] rfl ?_
          refine (may_any r vcl wr (fits_of HE.out.2.2.1 HE.out.2.2.2.2 HE.out.2.2.2.1)).mono ?_
          rintro e y8 ⟨rfl, b8⟩
          refine ⟨_, rfl, ?_⟩
          obtain ⟨ok, hok⟩ : ∃ ok, ok = mayB r := ⟨_, rfl⟩
          obtain ⟨nk, hnk⟩ : ∃ nk, nk = !ok := ⟨_, rfl⟩
          have HM : Hid (nk = !ok ∧ ok = mayB r ∧ POwn y8 w.heap.size vcl r.cp) := ⟨hnk, hok, HE.out.2.2.2.2.later b8⟩
          have RV : Hid (Loc w y8 [(q2, 26, rcells rz (.slice none 0 0)), (q5, 26, rcells r vcl)]) := RU.out.later b8
          rw [← hok]
          clear hok hnk b8 RU
          simp only [Act.put, List.setIfInBounds_toArray, List.set_cons_succ, List.set_cons_zero]
          refine wl rfl (.bool nk) _ ((by rw [HM.out.1]; exact run_not (.tmp 127) 4 rfl ok rfl)) ?_
          simp only [Act.put, List.setIfInBounds_toArray, List.set_cons_succ, List.set_cons_zero]
          refine wpList_nil ?_
          cases nk with
          | true =>
            go_upto_region 26 with fail
            refine wp_region_lit ?_
            refine wl rfl (.agg (rcells rz (.slice none 0 0)).toArray) _ (run_bld26 rfl) ?_
            simp only [Act.put, List.setIfInBounds_toArray, List.set_cons_succ, List.set_cons_zero]
            have hst := run_storeVar ag26 y8 q2 0 26 (rcells rz (.slice none 0 0)) (rcells rz (.slice none 0 0)) (rcells_length _ rz_fine.1) (RV.out.at 0 rfl) (by rw [Nat.zero_add]; exact Nat.le_refl _) (rcells_one (fits_of rz_fine (POwn.nil y8 0) (by decide)))
            rw [splice_all _ _ rfl] at hst
            refine wlS rfl rfl _ (run_stV (.tmp 2) (.tmp 129) rfl q2 0 rfl _ rfl hst) ?_
            have k_ := RV.out.set 0 rfl ((RV.out.at 0 rfl).setRow (rcells rz (.slice none 0 0))) ((Ch.refl (· = q2) y8).setRow (g := q2) (Or.inl rfl) _)
            obtain ⟨wb, hW_⟩ : ∃ W, W = y8.setRow q2 (rcells rz (.slice none 0 0)).toArray := ⟨_, rfl⟩
            rw [← hW_] at k_ ⊢
            have RB : Hid (Row wb q2 26 (rcells rz (.slice none 0 0)) ∧ Below w.heap.size w wb) := ⟨k_.at 0 rfl, k_.below⟩
            clear k_ hW_ hst RV
            refine wl rfl (.int .i64 110) _ (run_asZ (.const (.int .i64 110)) rfl (.int .i64 110) rfl) ?_
            simp only [Act.put, List.setIfInBounds_toArray, List.set_cons_succ, List.set_cons_zero]
            refine wpList_nil ?_
            go_wp2_with fail
            refine bodyPost_ret (results_cell_tmp ag26 Try.results16 _ _ q2 26 rfl _ (rcells_length _ rz_fine.1) RB.out.1) rfl ?_
            rw [HPQ.out]
            exact ⟨rz, (.slice none 0 0), 110, rfl, rz_fine, POwn.nil _ _, by decide, RB.out.2, Or.inl ⟨dec_fails (SliceIn.lt256 HI.out) (by rintro ⟨_, _, _, h1⟩; have h2 := HM.out.1; rw [HM.out.2.1, HE.out.1, h1] at h2; cases h2), rfl, rfl⟩⟩
          | false =>
            go_upto_region 27 with fail
            refine wp_region_lit ?_
            refine wl rfl (.agg (rcells r vcl).toArray) _ (run_loadA ag26 (.tmp 5) rfl q5 (0) rfl (rcells r vcl) (rcells_length vcl HE.out.2.2.1.1) (rows_all RV.out 1 rfl)) ?_
            simp only [Act.put, List.setIfInBounds_toArray, List.set_cons_succ, List.set_cons_zero]
            have hl39 := rcells_length vcl HE.out.2.2.1.1
            have hst := run_storeVar ag26 y8 q2 0 26 (rcells rz (.slice none 0 0)) (rcells r vcl) hl39 (RV.out.at 0 rfl) (by rw [hl39, rcells_length _ rz_fine.1]; decide) (rcells_one (fits_of HE.out.2.2.1 HM.out.2.2 HE.out.2.2.2.1))
            rw [splice_all _ _ (by rw [hl39, rcells_length _ rz_fine.1])] at hst
            refine wlS rfl rfl _ (run_stV (.tmp 2) (.tmp 130) rfl q2 0 rfl _ rfl hst) ?_
            obtain ⟨y9, hw⟩ : ∃ W, W = y8.setRow q2 (rcells r vcl).toArray := ⟨_, rfl⟩
            have G9 : Hid (Below w.heap.size w y9 ∧ POwn y9 w.heap.size vcl r.cp ∧ Row y9 q2 26 (rcells r vcl)) := (by
              have hc : Ch (· = q2) y8 y9 := hw ▸ (Ch.refl (· = q2) y8).setRow (g := q2) (Or.inl rfl) _
              have k_ := RV.out.set 0 rfl ((RV.out.at 0 rfl).setRow (rcells r vcl)) ((Ch.refl (· = q2) y8).setRow (g := q2) (Or.inl rfl) _)
              rw [← hw] at k_
              exact ⟨k_.below, HM.out.2.2.keep (fun b hb1 _ hb2 => hc.one b hb2 (fun e => HM.out.2.2.ne (RV.out.at 0 rfl) (by decide) (e ▸ hb1))), k_.at 0 rfl⟩)
            rw [← hw]
            clear hw hst hl39
            refine wl rfl (.int .i64 0) _ (run_asZ (.const (.int .i64 0)) rfl (.int .i64 0) rfl) ?_
            simp only [Act.put, List.setIfInBounds_toArray, List.set_cons_succ, List.set_cons_zero]
            refine wpList_nil ?_
            go_wp2_with fail
            refine bodyPost_ret (results_cell_tmp ag26 Try.results16 _ _ q2 26 rfl _ (rcells_length vcl HE.out.2.2.1.1) G9.out.2.2) rfl ?_
            rw [HPQ.out]
            refine ⟨r, vcl, 0, rfl, HE.out.2.2.1, G9.out.2.1, HE.out.2.2.2.1, G9.out.1, Or.inr ⟨?_, rfl⟩⟩
            have h2 := HM.out.1
            have h3 : mayB (raw b) = true := (by rw [← HE.out.1, ← HM.out.2.1]; cases ok with | true => rfl | false => cases h2)
            rw [HE.out.1]
            exact dec_raw (SliceIn.lt256 HI.out) HA.out.1 HOB.out.1 HE.out.2.1 h3

end Go.Proofs.Ytncjmolhofnpbaa

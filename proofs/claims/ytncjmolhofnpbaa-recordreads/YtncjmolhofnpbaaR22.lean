/- Read: the document. -/
import Derived.Test.YtncjmolhofnpbaaR21
namespace Go.Proofs.Ytncjmolhofnpbaa
open Go.RowKit

theorem run_lenBn {w0 w : World} {a : Act} {o : Oper} {v : Value} {cs : List Nat} (hin : SliceIn w0 v cs) {n : Nat} (hn : n = cs.length) (x : Operand) (ho : o.op = .call { callee := .builtin .len, args := #[x], argTypes := #[28] }) (hx : a.eval x = v) : (execOp a.eval o).run Try.prog w = .ok (.value (.int .i64 (n : Nat))) w := by
  subst hn
  exact run_lenB hin x ho hx
section
variable {w : World} {a : Act} {o : Oper}
theorem run_u8int (x : Operand) (ho : o.op = .convert 5 3 x) (k : Nat) (hk : k < 256) (hx : a.eval x = .int .u8 (k : Nat)) : (execOp a.eval o).run Try.prog w = .ok (.value (.int .i64 (k : Nat))) w := by
  have hr : (convert 5 3 (.int .u8 (k : Nat))).run Try.prog w = .ok (.int .i64 (IntKind.i64.wrap (k : Nat))) w := by kernel_rfl
  have e : IntKind.i64.wrap (k : Nat) = ((k : Nat) : Int) := by
    simp [IntKind.wrap, IntKind.signed, IntKind.bits]
    omega
  simp only [execOp, ho, hx, hr, e, Sem.run_bind, Sem.run_pure, Result.andThen_ok]
theorem run_addI (x y : Operand) (ho : o.op = .binOp .add 3 x y 3) (m n : Nat) (h : m + n < 1000000) (hx : a.eval x = .int .i64 (m : Nat)) (hy : a.eval y = .int .i64 (n : Nat)) : (execOp a.eval o).run Try.prog w = .ok (.value (.int .i64 ((m + n : Nat) : Int))) w := by
  have e : (eqGuard .add 3 x y (.int .i64 (m : Nat)) (.int .i64 (n : Nat))).run Try.prog w = .ok () w := rfl
  have hr : (binOp .add 3 (.int .i64 (m : Nat)) (.int .i64 (n : Nat))).run Try.prog w = .ok (.int .i64 (IntKind.i64.wrap ((m : Int) + (n : Int)))) w := by simp [binOp, go_sem]
  have e2 : IntKind.i64.wrap ((m : Int) + (n : Int)) = ((m + n : Nat) : Int) := by
    simp [IntKind.wrap, IntKind.signed, IntKind.bits]
    omega
  simp only [execOp, ho, hx, hy, e, hr, e2, Sem.run_bind, Sem.run_pure, Result.andThen_ok]
end
theorem results_ttct {fn : Func} {p q u x : Tmp} (h : fn.results = #[.tmp p, .tmp q, .cell u 23, .tmp x]) (tmps : Array Value) (w : World) (g : Nat) (a b d : Value) (ha : tmps.getD p undef = a) (hb : tmps.getD q undef = b) (hp : tmps.getD u undef = ptr g) (hd : tmps.getD x undef = d) (cs : List Value) (hn : cs.length = 32) (hr : Row w g 23 cs) :
    (results fn tmps).run Try.prog w = .ok (.tuple #[a, b, .agg cs.toArray, d]) w := by
  have hl := run_loadVar ag23 w g 0 cs hn (fun j v hv => by rw [Nat.zero_add]; exact hr.at j v hv)
  have hp' : tmps[u]?.getD undef = ptr g := by simpa using hp
  have ha' : tmps[p]?.getD undef = a := by simpa using ha
  have hb' : tmps[q]?.getD undef = b := by simpa using hb
  have hd' : tmps[x]?.getD undef = d := by simpa using hd
  simp [results, h, hp', ha', hb', hd', ptr, asAddr, hl]
/-- a root of which the first i bytes are written -/
def fillR (root : List Nat) (i : Nat) : List Nat := root.take i ++ List.replicate (32 - i) 0
theorem fillR_zero (root : List Nat) : fillR root 0 = List.replicate 32 0 := by simp [fillR]
theorem fillR_all (root : List Nat) (h : root.length = 32) : fillR root 32 = root := by simp [fillR, List.take_of_length_le (by omega : root.length ≤ 32)]
theorem fillR_length (root : List Nat) (i : Nat) (h : root.length = 32) (hi : i ≤ 32) : (fillR root i).length = 32 := by simp [fillR]; omega
theorem fillR_set (root : List Nat) (i : Nat) (h : root.length = 32) (hi : i < 32) : (bcells (fillR root i)).set i (.int .u8 (root.getD i 0 : Nat)) = bcells (fillR root (i + 1)) := by
  unfold fillR bcells
  rw [← List.map_set (f := fun c : Nat => Value.int .u8 (c : Nat))]
  congr 1
  rw [List.set_append_right _ _ (by rw [List.length_take]; omega), List.length_take, Nat.min_eq_left (by omega), Nat.sub_self, show 32 - i = (32 - (i + 1)) + 1 by omega, List.replicate_succ, List.set_cons_zero, List.take_add_one, List.append_assoc]
  simp [show i < root.length by omega]
set_option maxHeartbeats 4000000 in
theorem refRead_any (v : Value) (b : List Nat) (w : World) (hin : SliceIn w v b) : Calls Try.prog 19 #[v] w fun e w' => ∃ id n root er, e = .returned (.tuple #[str id, .int .i64 (n : Nat), .agg (bcells root).toArray, .int .i64 er]) ∧ ReadS w w' b id root n er := by
  have HI : Hid (SliceIn w v b) := hin
  clear hin
  obtain ⟨PQ, HPQ⟩ : ∃ PQ : Ending → World → Prop, Hid (PQ = fun e w' => ∃ id n root er, e = .returned (.tuple #[str id, .int .i64 (n : Nat), .agg (bcells root).toArray, .int .i64 er]) ∧ ReadS w w' b id root n er) := ⟨_, rfl⟩
  rw [← HPQ.out]
  have R0 : Hid (Loc w w []) := Loc.nil (Below.refl _ w)
  go_enter Try.func19, Try.ntmps19
  go_upto_region 0 with fail
  refine wp_region_lit ?_
  refine wl rfl (.string { data := #[] }) _ (run_asZ (.const (.string { data := #[] })) rfl (.string { data := #[] }) rfl) ?_
  simp only [Act.put, List.setIfInBounds_toArray, List.set_cons_succ, List.set_cons_zero]
  refine wl rfl (.int .i64 0) _ (run_asZ (.const (.int .i64 0)) rfl (.int .i64 0) rfl) ?_
  simp only [Act.put, List.setIfInBounds_toArray, List.set_cons_succ, List.set_cons_zero]
  refine wl rfl (ptr w.heap.size) _ (run_allocA (bcells (List.replicate 32 0)) zero23b rfl) ?_
  have k_ := R0.out.box 23 (bcells (List.replicate 32 0))
  obtain ⟨w1, hW_⟩ : ∃ W, W = w.alloc (.cells (bcells (List.replicate 32 0)).toArray 23) := ⟨_, rfl⟩
  have hB_ : Below w.heap.size w w1 := hW_ ▸ below_alloc w _
  obtain ⟨q4, hq_⟩ : ∃ q, q = w.heap.size := ⟨_, rfl⟩
  rw [← hW_, ← hq_] at k_
  rw [← hW_, ← hq_]
  clear hq_
  have Rw1 : Hid (Loc w w1 [(q4, 23, bcells (List.replicate 32 0))]) := k_
  clear k_ hW_ R0
  clear hB_
  simp only [Act.put, List.setIfInBounds_toArray, List.set_cons_succ, List.set_cons_zero]
  refine wl rfl (.int .i64 0) _ (run_asZ (.const (.int .i64 0)) rfl (.int .i64 0) rfl) ?_
  simp only [Act.put, List.setIfInBounds_toArray, List.set_cons_succ, List.set_cons_zero]
  refine wpList_nil ?_
  go_upto_region 1 with fail
  refine wp_region_lit ?_
  refine wl rfl (.agg (bcells (List.replicate 32 0)).toArray) _ (run_bld23 rfl) ?_
  simp only [Act.put, List.setIfInBounds_toArray, List.set_cons_succ, List.set_cons_zero]
  refine wl rfl (ptr w1.heap.size) _ (run_allocA (bcells (List.replicate 32 0)) zero23b rfl) ?_
  have k_ := Rw1.out.box 23 (bcells (List.replicate 32 0))
  obtain ⟨w2, hW_⟩ : ∃ W, W = w1.alloc (.cells (bcells (List.replicate 32 0)).toArray 23) := ⟨_, rfl⟩
  have hB_ : Below w1.heap.size w1 w2 := hW_ ▸ below_alloc w1 _
  obtain ⟨q6, hq_⟩ : ∃ q, q = w1.heap.size := ⟨_, rfl⟩
  rw [← hW_, ← hq_] at k_
  rw [← hW_, ← hq_]
  clear hq_
  have Rw2 : Hid (Loc w w2 [(q4, 23, bcells (List.replicate 32 0)), (q6, 23, bcells (List.replicate 32 0))]) := k_
  clear k_ hW_ Rw1
  clear hB_
  simp only [Act.put, List.setIfInBounds_toArray, List.set_cons_succ, List.set_cons_zero]
  have hst := run_storeVar ag23 w2 q6 0 23 (bcells (List.replicate 32 0)) (bcells (List.replicate 32 0)) (bc32 (List.length_replicate ..)) (Rw2.out.at 1 rfl) (by rw [bc32 (List.length_replicate ..)]; simp) (bcells_one _)
  rw [splice32 _ (List.replicate 32 0) (by simp [bcells_length]) (List.length_replicate ..)] at hst
  refine wlS rfl rfl _ (run_stV (.tmp 6) (.tmp 11) rfl q6 0 rfl _ rfl hst) ?_
  have k_ := Rw2.out.set 1 rfl ((Rw2.out.at 1 rfl).setRow (bcells (List.replicate 32 0))) ((Ch.refl (· = q6) w2).setRow (g := q6) (Or.inl rfl) _)
  obtain ⟨w3, hW_⟩ : ∃ W, W = w2.setRow q6 (bcells (List.replicate 32 0)).toArray := ⟨_, rfl⟩
  have hC_ : Ch (· = q6) w2 w3 := hW_ ▸ (Ch.refl (· = q6) w2).setRow (g := q6) (Or.inl rfl) _
  have hRow_ := Rw2.out.at 1 rfl
  rw [← hW_] at k_ ⊢
  have Rw3 : Hid (Loc w w3 [(q4, 23, bcells (List.replicate 32 0)), (q6, 23, bcells (List.replicate 32 0))]) := k_
  clear k_ hW_ Rw2
  clear hst hC_ hRow_
  refine wpList_nil ?_
  obtain ⟨ZL, hZL⟩ : ∃ l : List Nat, l = List.replicate 32 0 := ⟨_, rfl⟩
  rw [← hZL] at Rw3 ⊢
  have HZ : Hid (ZL = List.replicate 32 0 ∧ ZL.length = 32 ∧ (∀ c ∈ ZL, c < 256)) := ⟨hZL, by rw [hZL]; exact List.length_replicate .., by rw [hZL]; intro c hc; rw [List.eq_of_mem_replicate hc]; decide⟩
  clear hZL
  obtain ⟨len, hlen⟩ : ∃ len, len = b.length := ⟨_, rfl⟩
  have HLEN : Hid (len = b.length ∧ len ≤ 9223372036854775807) := ⟨hlen, by rw [hlen]; exact SliceIn.len_max HI.out⟩
  clear hlen
  by_cases h0 : len < 1
  · obtain ⟨TT, hTT⟩ : ∃ b : Bool, b = true := ⟨_, rfl⟩
    have HT : Hid (decide ((len : Int) < 1) = TT ∧ TT = true) := ⟨by rw [hTT]; exact decide_eq_true (by omega), hTT⟩
    clear hTT
    go_upto_region 2 with fail
    refine wp_region_lit ?_
    refine wl rfl v _ (run_mvZ (.tmp 0) rfl v rfl) ?_
    simp only [Act.put, List.setIfInBounds_toArray, List.set_cons_succ, List.set_cons_zero]
    refine wl rfl (.int .i64 (len : Nat)) _ (run_lenBn HI.out HLEN.out.1 (.tmp 12) rfl rfl) ?_
    simp only [Act.put, List.setIfInBounds_toArray, List.set_cons_succ, List.set_cons_zero]
    refine wl rfl (.bool TT) _ (run_lssZ (.tmp 13) (.const (.int .i64 1)) rfl (len : Nat) 1 rfl rfl TT HT.out.1) ?_
    simp only [Act.put, List.setIfInBounds_toArray, List.set_cons_succ, List.set_cons_zero]
    refine wl rfl (.bool TT) _ (run_mvZ (.tmp 14) rfl (.bool TT) rfl) ?_
    simp only [Act.put, List.setIfInBounds_toArray, List.set_cons_succ, List.set_cons_zero]
    refine wpList_skip (by rw [HT.out.2]; kernel_rfl) ?_
    simp only [Act.put, List.setIfInBounds_toArray, List.set_cons_succ, List.set_cons_zero]
    refine wpList_skip (by rw [HT.out.2]; kernel_rfl) ?_
    simp only [Act.put, List.setIfInBounds_toArray, List.set_cons_succ, List.set_cons_zero]
    refine wpList_skip (by rw [HT.out.2]; kernel_rfl) ?_
    simp only [Act.put, List.setIfInBounds_toArray, List.set_cons_succ, List.set_cons_zero]
    refine wpList_skip (by rw [HT.out.2]; kernel_rfl) ?_
    simp only [Act.put, List.setIfInBounds_toArray, List.set_cons_succ, List.set_cons_zero]
    refine wpList_skip (by rw [HT.out.2]; kernel_rfl) ?_
    simp only [Act.put, List.setIfInBounds_toArray, List.set_cons_succ, List.set_cons_zero]
    refine wpList_skip (by rw [HT.out.2]; kernel_rfl) ?_
    simp only [Act.put, List.setIfInBounds_toArray, List.set_cons_succ, List.set_cons_zero]
    refine wpList_skip (by rw [HT.out.2]; kernel_rfl) ?_
    simp only [Act.put, List.setIfInBounds_toArray, List.set_cons_succ, List.set_cons_zero]
    refine wpList_skip (by rw [HT.out.2]; kernel_rfl) ?_
    simp only [Act.put, List.setIfInBounds_toArray, List.set_cons_succ, List.set_cons_zero]
    refine wpList_skip (by rw [HT.out.2]; kernel_rfl) ?_
    simp only [Act.put, List.setIfInBounds_toArray, List.set_cons_succ, List.set_cons_zero]
    refine wl rfl (.bool true) _ (run_pickZ (.tmp 15) (.const (.bool true)) (.tmp 24) rfl TT (.bool true) rfl (by rw [HT.out.2]; rfl)) ?_
    simp only [Act.put, List.setIfInBounds_toArray, List.set_cons_succ, List.set_cons_zero]
    refine wpList_nil ?_
    go_upto_region 3 with fail
    refine wp_region_held (S := fun X => Row X q6 23 (bcells ZL)) (by kernel_rfl) ?_
    show wpAnyH _ _ _ _ _ 5 (Array.replicate 5 false) _ _
    obtain ⟨X, hX⟩ : ∃ X : World, X = { w3 with drawn := w3.drawn + 1 } := ⟨_, rfl⟩
    rw [← hX]
    have hS : Loc w X [(q4, 23, bcells ZL), (q6, 23, bcells ZL)] := (by rw [hX]; exact Rw3.out.drew)
    clear Rw3
    clear hX
    refine takeH (i := 0) (some 26) rfl rfl (by kernel_rfl) (by kernel_rfl) (by kernel_rfl) (fun _ _ _ h => h) (gRun rfl (.agg (bcells ZL).toArray) fun _ h => run_loadA ag23 (.tmp 6) rfl q6 (0) rfl (bcells ZL) (bc32 HZ.out.2.1) (fun j u hu => (by rw [Nat.zero_add]; exact h.at j u hu))) (hS.at 1 rfl) ?_
    simp only [Act.put, List.setIfInBounds_toArray, List.set_cons_succ, List.set_cons_zero]
    refine takeH (i := 1) (some 2) rfl rfl (by kernel_rfl) (by kernel_rfl) (by kernel_rfl) (fun _ _ _ h => h) (gRun rfl (.string { data := #[] }) fun _ h => run_asZ (.const (.string { data := #[] })) rfl (.string { data := #[] }) rfl) (hS.at 1 rfl) ?_
    simp only [Act.put, List.setIfInBounds_toArray, List.set_cons_succ, List.set_cons_zero]
    refine takeH (i := 2) (some 3) rfl rfl (by kernel_rfl) (by kernel_rfl) (by kernel_rfl) (fun _ _ _ h => h) (gRun rfl (.int .i64 0) fun _ h => run_asZ (.const (.int .i64 0)) rfl (.int .i64 0) rfl) (hS.at 1 rfl) ?_
    simp only [Act.put, List.setIfInBounds_toArray, List.set_cons_succ, List.set_cons_zero]
    refine oneH (i := 3) (by kernel_rfl) ?_
    have hst := run_storeVar ag23 X q4 0 23 (bcells ZL) (bcells ZL) (bc32 HZ.out.2.1) (hS.at 0 rfl) (by rw [Nat.zero_add]; exact Nat.le_refl _) (bcells_one _)
    rw [splice_all _ _ rfl] at hst
    refine opSkipZ rfl rfl rfl _ (run_stV (.tmp 4) (.tmp 26) rfl q4 0 rfl _ rfl hst) ?_
    obtain ⟨X1, hW_⟩ : ∃ W, W = X.setRow q4 (bcells ZL).toArray := ⟨_, rfl⟩
    have hS1 : Loc w X1 [(q4, 23, bcells ZL), (q6, 23, bcells ZL)] := hW_ ▸ hS.set 0 rfl ((hS.at 0 rfl).setRow (bcells ZL)) ((Ch.refl (· = q4) X).setRow (g := q4) (Or.inl rfl) _)
    rw [← hW_]
    clear hW_ hS hst
    refine ⟨hS1.at 1 rfl, ?_⟩
    refine takeH (i := 4) (some 5) rfl rfl (by kernel_rfl) (by kernel_rfl) (by kernel_rfl) (fun _ _ _ h => h) (gRun rfl (.int .i64 110) fun _ h => run_asZ (.const (.int .i64 110)) rfl (.int .i64 110) rfl) (hS1.at 1 rfl) ?_
    simp only [Act.put, List.setIfInBounds_toArray, List.set_cons_succ, List.set_cons_zero]
    refine wpAnyH_done (by kernel_rfl) ?_ _
    have RL : Hid (Loc w X1 [(q4, 23, bcells ZL), (q6, 23, bcells ZL)]) := hS1
    clear hS1
    go_wp2_with fail
    refine bodyPost_ret (results_ttct Try.results19 _ _ q4 (.string { data := #[] }) (.int .i64 0) (.int .i64 110) rfl rfl rfl rfl (bcells ZL) (bc32 HZ.out.2.1) (RL.out.at 0 rfl)) rfl ?_
    rw [HPQ.out]
    exact ⟨[], 0, ZL, 110, rfl, by simp, HZ.out.2.2, HZ.out.2.1, RL.out.below, Or.inl ⟨decE_fails (SliceIn.lt256 HI.out) (by rintro ⟨⟨h1, _⟩, _⟩; have := HLEN.out.1; omega), rfl, rfl, HZ.out.1, rfl⟩⟩
  obtain ⟨n, hn⟩ : ∃ n, n = b.getD 0 0 := ⟨_, rfl⟩
  have HN : Hid (n = b.getD 0 0 ∧ n < 256 ∧ 1 ≤ len) := ⟨hn, by rw [hn]; exact lt256 b (SliceIn.lt256 HI.out) 0, by omega⟩
  obtain ⟨i0, j0, hx0, hc0⟩ := ix_byte (HI.out.later Rw3.out.below) 0 (by have := HLEN.out.1; omega)
  have HC : Hid ((∀ w', (Instr.indexAt 28 v (.int .i64 0)).run Try.prog w' = .ok (.pointer (some ⟨i0, j0, none⟩)) w') ∧ w3.cell? ⟨i0, j0, none⟩ = some (.int .u8 (n : Nat))) := ⟨hx0, by rw [hn]; exact hc0⟩
  clear hn hx0 hc0
  obtain ⟨lb, hlb⟩ : ∃ lb, (!decide ((len : Int) = ((1 + n + 34 : Nat) : Int))) = lb := ⟨_, rfl⟩
  have HLB : Hid ((!decide ((len : Int) = ((1 + n + 34 : Nat) : Int))) = lb) := hlb
  clear hlb
  go_upto_region 2 with fail
  refine wp_region_lit ?_
  refine wl rfl v _ (run_mvZ (.tmp 0) rfl v rfl) ?_
  simp only [Act.put, List.setIfInBounds_toArray, List.set_cons_succ, List.set_cons_zero]
  refine wl rfl (.int .i64 (len : Nat)) _ (run_lenBn HI.out HLEN.out.1 (.tmp 12) rfl rfl) ?_
  simp only [Act.put, List.setIfInBounds_toArray, List.set_cons_succ, List.set_cons_zero]
  refine wl rfl (.bool false) _ (run_lssZ (.tmp 13) (.const (.int .i64 1)) rfl (len : Nat) 1 rfl rfl false (decide_eq_false (by omega))) ?_
  simp only [Act.put, List.setIfInBounds_toArray, List.set_cons_succ, List.set_cons_zero]
  refine wl rfl (.bool false) _ (run_mvZ (.tmp 14) rfl (.bool false) rfl) ?_
  simp only [Act.put, List.setIfInBounds_toArray, List.set_cons_succ, List.set_cons_zero]
  refine wl (by kernel_rfl) v _ (run_mvZ (.tmp 0) rfl v rfl) ?_
  simp only [Act.put, List.setIfInBounds_toArray, List.set_cons_succ, List.set_cons_zero]
  refine wl (by kernel_rfl) (.int .i64 (len : Nat)) _ (run_lenBn HI.out HLEN.out.1 (.tmp 16) rfl rfl) ?_
  simp only [Act.put, List.setIfInBounds_toArray, List.set_cons_succ, List.set_cons_zero]
  refine wl (by kernel_rfl) v _ (run_mvZ (.tmp 0) rfl v rfl) ?_
  simp only [Act.put, List.setIfInBounds_toArray, List.set_cons_succ, List.set_cons_zero]
  refine wl (by kernel_rfl) (.pointer (some ⟨i0, j0, none⟩)) _ (run_idx (.tmp 18) (.const (.int .i64 0)) rfl v _ _ rfl rfl HC.out.1) ?_
  simp only [Act.put, List.setIfInBounds_toArray, List.set_cons_succ, List.set_cons_zero]
  refine wl (by kernel_rfl) (.int .u8 (n : Nat)) _ (run_load1 o5 (.tmp 19) rfl i0 (j0) rfl (.int .u8 (n : Nat)) HC.out.2) ?_
  simp only [Act.put, List.setIfInBounds_toArray, List.set_cons_succ, List.set_cons_zero]
  refine wl (by kernel_rfl) (.int .i64 (n : Nat)) _ (run_u8int (.tmp 20) rfl n HN.out.2.1 rfl) ?_
  simp only [Act.put, List.setIfInBounds_toArray, List.set_cons_succ, List.set_cons_zero]
  refine wl (by kernel_rfl) (.int .i64 ((1 + n : Nat) : Int)) _ (run_addI (.const (.int .i64 1)) (.tmp 21) rfl 1 n (by have := HN.out.2.1; omega) rfl rfl) ?_
  simp only [Act.put, List.setIfInBounds_toArray, List.set_cons_succ, List.set_cons_zero]
  refine wl (by kernel_rfl) (.int .i64 ((1 + n + 34 : Nat) : Int)) _ (run_addI (.tmp 22) (.const (.int .i64 34)) rfl (1 + n) 34 (by have := HN.out.2.1; omega) rfl rfl) ?_
  simp only [Act.put, List.setIfInBounds_toArray, List.set_cons_succ, List.set_cons_zero]
  refine wl (by kernel_rfl) (.bool lb) _ (run_neZ (.tmp 17) (.tmp 23) rfl (len : Nat) ((1 + n + 34 : Nat) : Int) rfl rfl lb HLB.out) ?_
  simp only [Act.put, List.setIfInBounds_toArray, List.set_cons_succ, List.set_cons_zero]
  refine wl rfl (.bool lb) _ (run_pickZ (.tmp 15) (.const (.bool true)) (.tmp 24) rfl false (.bool lb) rfl rfl) ?_
  simp only [Act.put, List.setIfInBounds_toArray, List.set_cons_succ, List.set_cons_zero]
  refine wpList_nil ?_
  cases lb with
  | true =>
    go_upto_region 3 with fail
    refine wp_region_held (S := fun X => Row X q6 23 (bcells ZL)) (by kernel_rfl) ?_
    show wpAnyH _ _ _ _ _ 5 (Array.replicate 5 false) _ _
    obtain ⟨X, hX⟩ : ∃ X : World, X = { w3 with drawn := w3.drawn + 1 } := ⟨_, rfl⟩
    rw [← hX]
    have hS : Loc w X [(q4, 23, bcells ZL), (q6, 23, bcells ZL)] := (by rw [hX]; exact Rw3.out.drew)
    clear Rw3
    clear hX
    refine takeH (i := 0) (some 26) rfl rfl (by kernel_rfl) (by kernel_rfl) (by kernel_rfl) (fun _ _ _ h => h) (gRun rfl (.agg (bcells ZL).toArray) fun _ h => run_loadA ag23 (.tmp 6) rfl q6 (0) rfl (bcells ZL) (bc32 HZ.out.2.1) (fun j u hu => (by rw [Nat.zero_add]; exact h.at j u hu))) (hS.at 1 rfl) ?_
    simp only [Act.put, List.setIfInBounds_toArray, List.set_cons_succ, List.set_cons_zero]
    refine takeH (i := 1) (some 2) rfl rfl (by kernel_rfl) (by kernel_rfl) (by kernel_rfl) (fun _ _ _ h => h) (gRun rfl (.string { data := #[] }) fun _ h => run_asZ (.const (.string { data := #[] })) rfl (.string { data := #[] }) rfl) (hS.at 1 rfl) ?_
    simp only [Act.put, List.setIfInBounds_toArray, List.set_cons_succ, List.set_cons_zero]
    refine takeH (i := 2) (some 3) rfl rfl (by kernel_rfl) (by kernel_rfl) (by kernel_rfl) (fun _ _ _ h => h) (gRun rfl (.int .i64 0) fun _ h => run_asZ (.const (.int .i64 0)) rfl (.int .i64 0) rfl) (hS.at 1 rfl) ?_
    simp only [Act.put, List.setIfInBounds_toArray, List.set_cons_succ, List.set_cons_zero]
    refine oneH (i := 3) (by kernel_rfl) ?_
    have hst := run_storeVar ag23 X q4 0 23 (bcells ZL) (bcells ZL) (bc32 HZ.out.2.1) (hS.at 0 rfl) (by rw [Nat.zero_add]; exact Nat.le_refl _) (bcells_one _)
    rw [splice_all _ _ rfl] at hst
    refine opSkipZ rfl rfl rfl _ (run_stV (.tmp 4) (.tmp 26) rfl q4 0 rfl _ rfl hst) ?_
    obtain ⟨X1, hW_⟩ : ∃ W, W = X.setRow q4 (bcells ZL).toArray := ⟨_, rfl⟩
    have hS1 : Loc w X1 [(q4, 23, bcells ZL), (q6, 23, bcells ZL)] := hW_ ▸ hS.set 0 rfl ((hS.at 0 rfl).setRow (bcells ZL)) ((Ch.refl (· = q4) X).setRow (g := q4) (Or.inl rfl) _)
    rw [← hW_]
    clear hW_ hS hst
    refine ⟨hS1.at 1 rfl, ?_⟩
    refine takeH (i := 4) (some 5) rfl rfl (by kernel_rfl) (by kernel_rfl) (by kernel_rfl) (fun _ _ _ h => h) (gRun rfl (.int .i64 110) fun _ h => run_asZ (.const (.int .i64 110)) rfl (.int .i64 110) rfl) (hS1.at 1 rfl) ?_
    simp only [Act.put, List.setIfInBounds_toArray, List.set_cons_succ, List.set_cons_zero]
    refine wpAnyH_done (by kernel_rfl) ?_ _
    have RL : Hid (Loc w X1 [(q4, 23, bcells ZL), (q6, 23, bcells ZL)]) := hS1
    clear hS1
    go_wp2_with fail
    refine bodyPost_ret (results_ttct Try.results19 _ _ q4 (.string { data := #[] }) (.int .i64 0) (.int .i64 110) rfl rfl rfl rfl (bcells ZL) (bc32 HZ.out.2.1) (RL.out.at 0 rfl)) rfl ?_
    rw [HPQ.out]
    exact ⟨[], 0, ZL, 110, rfl, by simp, HZ.out.2.2, HZ.out.2.1, RL.out.below, Or.inl ⟨decE_fails (SliceIn.lt256 HI.out) (by rintro ⟨⟨_, h1⟩, _⟩; have h2 := HLB.out; have h3 := HLEN.out.1; have h4 := HN.out.1; simp at h2; omega), rfl, rfl, HZ.out.1, rfl⟩⟩
  | false =>
  have HOE : Hid (okE b ∧ len = 35 + n) := (by have h2 := HLB.out; have h3 := HLEN.out.1; have h4 := HN.out.1; simp at h2; exact ⟨⟨by omega, by rw [← h4]; omega⟩, by omega⟩)
  clear HLB
  go_upto_region 4 with fail
  refine wp_region_lit ?_
  refine wl rfl v _ (run_mvZ (.tmp 0) rfl v rfl) ?_
  simp only [Act.put, List.setIfInBounds_toArray, List.set_cons_succ, List.set_cons_zero]
  refine wl rfl (.pointer (some ⟨i0, j0, none⟩)) _ (run_idx (.tmp 27) (.const (.int .i64 0)) rfl v _ _ rfl rfl HC.out.1) ?_
  simp only [Act.put, List.setIfInBounds_toArray, List.set_cons_succ, List.set_cons_zero]
  refine wl rfl (.int .u8 (n : Nat)) _ (run_load1 o5 (.tmp 28) rfl i0 (j0) rfl (.int .u8 (n : Nat)) HC.out.2) ?_
  simp only [Act.put, List.setIfInBounds_toArray, List.set_cons_succ, List.set_cons_zero]
  refine wl rfl (.int .i64 (n : Nat)) _ (run_u8int (.tmp 29) rfl n HN.out.2.1 rfl) ?_
  simp only [Act.put, List.setIfInBounds_toArray, List.set_cons_succ, List.set_cons_zero]
  refine wl rfl (.int .i64 (n : Nat)) _ (run_asZ (.tmp 30) rfl (.int .i64 (n : Nat)) rfl) ?_
  simp only [Act.put, List.setIfInBounds_toArray, List.set_cons_succ, List.set_cons_zero]
  refine wpList_nil ?_
  obtain ⟨va, ra, sa, _⟩ := run_bsubO (HI.out.later Rw3.out.below) (lo := some (.int .i64 1)) (hi := some (.int .i64 ((1 + n : Nat) : Int))) (mx := none) (l := 1) (h := 1 + n) ⟨Or.inr ⟨_, rfl, rfl⟩, Or.inr ⟨_, rfl, rfl, Or.inl rfl⟩, by omega, by have := HOE.out.2; have := HLEN.out.1; omega⟩
  obtain ⟨vb, rb, sb, _⟩ := run_bsubO (HI.out.later Rw3.out.below) (lo := some (.int .i64 ((1 + n : Nat) : Int))) (hi := none) (mx := none) (l := 1 + n) (h := b.length) ⟨Or.inr ⟨_, rfl, rfl⟩, Or.inl ⟨rfl, rfl, rfl⟩, by have := HOE.out.2; have := HLEN.out.1; omega, Nat.le_refl _⟩
  rw [List.take_length] at sb
  have HV : Hid ((∀ w', (Instr.slice 28 v (some (.int .i64 1)) (some (.int .i64 ((1 + n : Nat) : Int))) none).run Try.prog w' = .ok va w') ∧ (∀ w', (Instr.slice 28 v (some (.int .i64 ((1 + n : Nat) : Int))) none none).run Try.prog w' = .ok vb w') ∧ SliceIn w3 va (rawId b) ∧ SliceIn w3 vb (rst b)) := ⟨ra, rb, (by unfold rawId; rw [← HN.out.1]; exact sa), (by unfold rst; rw [← HN.out.1]; exact sb)⟩
  clear ra rb sa sb
  obtain ⟨ID, hID⟩ : ∃ l, l = rawId b := ⟨_, rfl⟩
  obtain ⟨L, hL⟩ : ∃ l, l = rawL b := ⟨_, rfl⟩
  have HID : Hid (ID = rawId b ∧ L = rawL b ∧ (∀ c ∈ ID, c < 256)) := ⟨hID, hL, by rw [hID]; exact SliceIn.lt256 HV.out.2.2.1⟩
  clear hID hL
  go_upto_region 5 with fail
  refine wp_region_lit ?_
  refine wl rfl v _ (run_mvZ (.tmp 0) rfl v rfl) ?_
  simp only [Act.put, List.setIfInBounds_toArray, List.set_cons_succ, List.set_cons_zero]
  refine wl rfl (.int .i64 (n : Nat)) _ (run_mvZ (.tmp 7) rfl (.int .i64 (n : Nat)) rfl) ?_
  simp only [Act.put, List.setIfInBounds_toArray, List.set_cons_succ, List.set_cons_zero]
  refine wl rfl (.int .i64 ((1 + n : Nat) : Int)) _ (run_addI (.const (.int .i64 1)) (.tmp 32) rfl 1 n (by have := HN.out.2.1; omega) rfl rfl) ?_
  simp only [Act.put, List.setIfInBounds_toArray, List.set_cons_succ, List.set_cons_zero]
  refine wl rfl va _ (run_subZ (.tmp 31) (some (.const (.int .i64 1))) (some (.tmp 33)) none rfl v va HI.out.isSlice rfl (some (.int .i64 1)) (some (.int .i64 ((1 + n : Nat) : Int))) none rfl rfl rfl HV.out.1) ?_
  simp only [Act.put, List.setIfInBounds_toArray, List.set_cons_succ, List.set_cons_zero]
  refine wl rfl (str ID) _ (run_strB (.tmp 34) rfl va ID rfl (by rw [HID.out.1]; exact HV.out.2.2.1)) ?_
  simp only [Act.put, List.setIfInBounds_toArray, List.set_cons_succ, List.set_cons_zero]
  refine wl rfl (str ID) _ (run_asZ (.tmp 35) rfl (str ID) rfl) ?_
  simp only [Act.put, List.setIfInBounds_toArray, List.set_cons_succ, List.set_cons_zero]
  refine wpList_nil ?_
  go_upto_region 6 with fail
  refine wp_region_lit ?_
  refine wl rfl v _ (run_mvZ (.tmp 0) rfl v rfl) ?_
  simp only [Act.put, List.setIfInBounds_toArray, List.set_cons_succ, List.set_cons_zero]
  refine wl rfl (.int .i64 (n : Nat)) _ (run_mvZ (.tmp 7) rfl (.int .i64 (n : Nat)) rfl) ?_
  simp only [Act.put, List.setIfInBounds_toArray, List.set_cons_succ, List.set_cons_zero]
  refine wl rfl (.int .i64 ((1 + n : Nat) : Int)) _ (run_addI (.const (.int .i64 1)) (.tmp 37) rfl 1 n (by have := HN.out.2.1; omega) rfl rfl) ?_
  simp only [Act.put, List.setIfInBounds_toArray, List.set_cons_succ, List.set_cons_zero]
  refine wl rfl vb _ (run_subZ (.tmp 36) (some (.tmp 38)) none none rfl v vb HI.out.isSlice rfl (some (.int .i64 ((1 + n : Nat) : Int))) none none rfl rfl rfl HV.out.2.1) ?_
  simp only [Act.put, List.setIfInBounds_toArray, List.set_cons_succ, List.set_cons_zero]
  refine wpList_callW eN30 [.tmp 39, .const ((.int .i64 2))] _ rfl rfl [vb, (.int .i64 2)] rfl ?_
  refine (get_any vb (rst b) 2 w3 HV.out.2.2.2 (by have h1 := HOE.out.2; have h2 := HLEN.out.1; have h3 := HN.out.1; simp only [rst, List.length_drop, ← h3]; omega) (by decide)).mono ?_
  rintro e wg ⟨rfl, rfl⟩
  refine ⟨_, rfl, ?_⟩
  rw [show Fr.Frame.val ((rst b).take 2) = L from HID.out.2.1.symm]
  simp only [Act.put, List.setIfInBounds_toArray, List.set_cons_succ, List.set_cons_zero]
  refine wl rfl (.int .i64 (L : Nat)) _ (run_asZ (.tmp 40) rfl (.int .i64 (L : Nat)) rfl) ?_
  simp only [Act.put, List.setIfInBounds_toArray, List.set_cons_succ, List.set_cons_zero]
  refine wpList_nil ?_
  obtain ⟨nb, hnb⟩ : ∃ nb, nb = nameB ID := ⟨_, rfl⟩
  obtain ⟨gb, hgb⟩ : ∃ gb, decide ((512 : Int) < (L : Int)) = gb := ⟨_, rfl⟩
  have HNB : Hid (nb = nameB ID ∧ decide ((512 : Int) < (L : Int)) = gb ∧ entB (rawId b) (rawL b) = (nameB ID && inB L 512)) := ⟨hnb, hgb, by unfold entB; rw [HID.out.1, HID.out.2.1]⟩
  clear hnb hgb
  by_cases hnbF : nb = false
  case pos =>
    have HT : Hid (nb = nameB ID ∧ nb = false) := ⟨HNB.out.1, hnbF⟩
    go_upto_region 7 with fail
    refine wp_region_lit ?_
    refine wl rfl (str ID) _ (run_mvZ (.tmp 8) rfl (str ID) rfl) ?_
    simp only [Act.put, List.setIfInBounds_toArray, List.set_cons_succ, List.set_cons_zero]
    refine wpList_callW eN14 [.tmp 41] _ rfl rfl [str ID] rfl ?_
    refine (refName_any ID HID.out.2.2 w3).mono ?_
    rintro e wn ⟨rfl, rfl⟩
    refine ⟨_, rfl, ?_⟩
    rw [← HNB.out.1]
    simp only [Act.put, List.setIfInBounds_toArray, List.set_cons_succ, List.set_cons_zero]
    refine wl rfl (.bool (!nb)) _ (run_not (.tmp 42) 4 rfl nb rfl) ?_
    simp only [Act.put, List.setIfInBounds_toArray, List.set_cons_succ, List.set_cons_zero]
    refine wl rfl (.bool (!nb)) _ (run_mvZ (.tmp 43) rfl (.bool (!nb)) rfl) ?_
    simp only [Act.put, List.setIfInBounds_toArray, List.set_cons_succ, List.set_cons_zero]
    refine wpList_skip (by rw [HT.out.2]; kernel_rfl) ?_
    simp only [Act.put, List.setIfInBounds_toArray, List.set_cons_succ, List.set_cons_zero]
    refine wpList_skip (by rw [HT.out.2]; kernel_rfl) ?_
    simp only [Act.put, List.setIfInBounds_toArray, List.set_cons_succ, List.set_cons_zero]
    refine wl rfl (.bool true) _ (run_pickZ (.tmp 44) (.const (.bool true)) (.tmp 46) rfl (!nb) (.bool true) rfl (by rw [HT.out.2]; rfl)) ?_
    simp only [Act.put, List.setIfInBounds_toArray, List.set_cons_succ, List.set_cons_zero]
    refine wpList_nil ?_
    go_upto_region 8 with fail
    refine wp_region_held (S := fun X => Row X q6 23 (bcells ZL)) (by kernel_rfl) ?_
    show wpAnyH _ _ _ _ _ 5 (Array.replicate 5 false) _ _
    obtain ⟨X, hX⟩ : ∃ X : World, X = { w3 with drawn := w3.drawn + 1 } := ⟨_, rfl⟩
    rw [← hX]
    have hS : Loc w X [(q4, 23, bcells ZL), (q6, 23, bcells ZL)] := (by rw [hX]; exact Rw3.out.drew)
    clear Rw3
    clear hX
    refine takeH (i := 0) (some 48) rfl rfl (by kernel_rfl) (by kernel_rfl) (by kernel_rfl) (fun _ _ _ h => h) (gRun rfl (.agg (bcells ZL).toArray) fun _ h => run_loadA ag23 (.tmp 6) rfl q6 (0) rfl (bcells ZL) (bc32 HZ.out.2.1) (fun j u hu => (by rw [Nat.zero_add]; exact h.at j u hu))) (hS.at 1 rfl) ?_
    simp only [Act.put, List.setIfInBounds_toArray, List.set_cons_succ, List.set_cons_zero]
    refine takeH (i := 1) (some 2) rfl rfl (by kernel_rfl) (by kernel_rfl) (by kernel_rfl) (fun _ _ _ h => h) (gRun rfl (.string { data := #[] }) fun _ h => run_asZ (.const (.string { data := #[] })) rfl (.string { data := #[] }) rfl) (hS.at 1 rfl) ?_
    simp only [Act.put, List.setIfInBounds_toArray, List.set_cons_succ, List.set_cons_zero]
    refine takeH (i := 2) (some 3) rfl rfl (by kernel_rfl) (by kernel_rfl) (by kernel_rfl) (fun _ _ _ h => h) (gRun rfl (.int .i64 0) fun _ h => run_asZ (.const (.int .i64 0)) rfl (.int .i64 0) rfl) (hS.at 1 rfl) ?_
    simp only [Act.put, List.setIfInBounds_toArray, List.set_cons_succ, List.set_cons_zero]
    refine oneH (i := 3) (by kernel_rfl) ?_
    have hst := run_storeVar ag23 X q4 0 23 (bcells ZL) (bcells ZL) (bc32 HZ.out.2.1) (hS.at 0 rfl) (by rw [Nat.zero_add]; exact Nat.le_refl _) (bcells_one _)
    rw [splice_all _ _ rfl] at hst
    refine opSkipZ rfl rfl rfl _ (run_stV (.tmp 4) (.tmp 48) rfl q4 0 rfl _ rfl hst) ?_
    obtain ⟨X1, hW_⟩ : ∃ W, W = X.setRow q4 (bcells ZL).toArray := ⟨_, rfl⟩
    have hS1 : Loc w X1 [(q4, 23, bcells ZL), (q6, 23, bcells ZL)] := hW_ ▸ hS.set 0 rfl ((hS.at 0 rfl).setRow (bcells ZL)) ((Ch.refl (· = q4) X).setRow (g := q4) (Or.inl rfl) _)
    rw [← hW_]
    clear hW_ hS hst
    refine ⟨hS1.at 1 rfl, ?_⟩
    refine takeH (i := 4) (some 5) rfl rfl (by kernel_rfl) (by kernel_rfl) (by kernel_rfl) (fun _ _ _ h => h) (gRun rfl (.int .i64 110) fun _ h => run_asZ (.const (.int .i64 110)) rfl (.int .i64 110) rfl) (hS1.at 1 rfl) ?_
    simp only [Act.put, List.setIfInBounds_toArray, List.set_cons_succ, List.set_cons_zero]
    refine wpAnyH_done (by kernel_rfl) ?_ _
    have RL : Hid (Loc w X1 [(q4, 23, bcells ZL), (q6, 23, bcells ZL)]) := hS1
    clear hS1
    go_wp2_with fail
    refine bodyPost_ret (results_ttct Try.results19 _ _ q4 (.string { data := #[] }) (.int .i64 0) (.int .i64 110) rfl rfl rfl rfl (bcells ZL) (bc32 HZ.out.2.1) (RL.out.at 0 rfl)) rfl ?_
    rw [HPQ.out]
    exact ⟨[], 0, ZL, 110, rfl, by simp, HZ.out.2.2, HZ.out.2.1, RL.out.below, Or.inl ⟨decE_fails (SliceIn.lt256 HI.out) (by rintro ⟨_, h1⟩; rw [HNB.out.2.2, ← HNB.out.1, HT.out.2] at h1; cases h1), rfl, rfl, HZ.out.1, rfl⟩⟩
  obtain rfl : nb = true := (by cases nb with | true => rfl | false => exact absurd rfl hnbF)
  clear hnbF
  cases gb with
  | true =>
    go_upto_region 7 with fail
    refine wp_region_lit ?_
    refine wl rfl (str ID) _ (run_mvZ (.tmp 8) rfl (str ID) rfl) ?_
    simp only [Act.put, List.setIfInBounds_toArray, List.set_cons_succ, List.set_cons_zero]
    refine wpList_callW eN14 [.tmp 41] _ rfl rfl [(str ID)] rfl ?_
    refine (refName_any ID HID.out.2.2 w3).mono ?_
    rintro e wn ⟨rfl, rfl⟩
    refine ⟨_, rfl, ?_⟩
    rw [← HNB.out.1]
    simp only [Act.put, List.setIfInBounds_toArray, List.set_cons_succ, List.set_cons_zero]
    refine wl rfl (.bool false) _ (run_not (.tmp 42) 4 rfl true rfl) ?_
    simp only [Act.put, List.setIfInBounds_toArray, List.set_cons_succ, List.set_cons_zero]
    refine wl rfl (.bool false) _ (run_mvZ (.tmp 43) rfl (.bool false) rfl) ?_
    simp only [Act.put, List.setIfInBounds_toArray, List.set_cons_succ, List.set_cons_zero]
    refine wl (by kernel_rfl) (.int .i64 (L : Nat)) _ (run_mvZ (.tmp 9) rfl (.int .i64 (L : Nat)) rfl) ?_
    simp only [Act.put, List.setIfInBounds_toArray, List.set_cons_succ, List.set_cons_zero]
    refine wl (by kernel_rfl) (.bool true) _ (run_gtrZ (.tmp 45) (.const (.int .i64 512)) rfl (L : Nat) 512 rfl rfl true HNB.out.2.1) ?_
    simp only [Act.put, List.setIfInBounds_toArray, List.set_cons_succ, List.set_cons_zero]
    refine wl rfl (.bool true) _ (run_pickZ (.tmp 44) (.const (.bool true)) (.tmp 46) rfl false (.bool true) rfl rfl) ?_
    simp only [Act.put, List.setIfInBounds_toArray, List.set_cons_succ, List.set_cons_zero]
    refine wpList_nil ?_
    go_upto_region 8 with fail
    refine wp_region_held (S := fun X => Row X q6 23 (bcells ZL)) (by kernel_rfl) ?_
    show wpAnyH _ _ _ _ _ 5 (Array.replicate 5 false) _ _
    obtain ⟨X, hX⟩ : ∃ X : World, X = { w3 with drawn := w3.drawn + 1 } := ⟨_, rfl⟩
    rw [← hX]
    have hS : Loc w X [(q4, 23, bcells ZL), (q6, 23, bcells ZL)] := (by rw [hX]; exact Rw3.out.drew)
    clear Rw3
    clear hX
    refine takeH (i := 0) (some 48) rfl rfl (by kernel_rfl) (by kernel_rfl) (by kernel_rfl) (fun _ _ _ h => h) (gRun rfl (.agg (bcells ZL).toArray) fun _ h => run_loadA ag23 (.tmp 6) rfl q6 (0) rfl (bcells ZL) (bc32 HZ.out.2.1) (fun j u hu => (by rw [Nat.zero_add]; exact h.at j u hu))) (hS.at 1 rfl) ?_
    simp only [Act.put, List.setIfInBounds_toArray, List.set_cons_succ, List.set_cons_zero]
    refine takeH (i := 1) (some 2) rfl rfl (by kernel_rfl) (by kernel_rfl) (by kernel_rfl) (fun _ _ _ h => h) (gRun rfl (.string { data := #[] }) fun _ h => run_asZ (.const (.string { data := #[] })) rfl (.string { data := #[] }) rfl) (hS.at 1 rfl) ?_
    simp only [Act.put, List.setIfInBounds_toArray, List.set_cons_succ, List.set_cons_zero]
    refine takeH (i := 2) (some 3) rfl rfl (by kernel_rfl) (by kernel_rfl) (by kernel_rfl) (fun _ _ _ h => h) (gRun rfl (.int .i64 0) fun _ h => run_asZ (.const (.int .i64 0)) rfl (.int .i64 0) rfl) (hS.at 1 rfl) ?_
    simp only [Act.put, List.setIfInBounds_toArray, List.set_cons_succ, List.set_cons_zero]
    refine oneH (i := 3) (by kernel_rfl) ?_
    have hst := run_storeVar ag23 X q4 0 23 (bcells ZL) (bcells ZL) (bc32 HZ.out.2.1) (hS.at 0 rfl) (by rw [Nat.zero_add]; exact Nat.le_refl _) (bcells_one _)
    rw [splice_all _ _ rfl] at hst
    refine opSkipZ rfl rfl rfl _ (run_stV (.tmp 4) (.tmp 48) rfl q4 0 rfl _ rfl hst) ?_
    obtain ⟨X1, hW_⟩ : ∃ W, W = X.setRow q4 (bcells ZL).toArray := ⟨_, rfl⟩
    have hS1 : Loc w X1 [(q4, 23, bcells ZL), (q6, 23, bcells ZL)] := hW_ ▸ hS.set 0 rfl ((hS.at 0 rfl).setRow (bcells ZL)) ((Ch.refl (· = q4) X).setRow (g := q4) (Or.inl rfl) _)
    rw [← hW_]
    clear hW_ hS hst
    refine ⟨hS1.at 1 rfl, ?_⟩
    refine takeH (i := 4) (some 5) rfl rfl (by kernel_rfl) (by kernel_rfl) (by kernel_rfl) (fun _ _ _ h => h) (gRun rfl (.int .i64 110) fun _ h => run_asZ (.const (.int .i64 110)) rfl (.int .i64 110) rfl) (hS1.at 1 rfl) ?_
    simp only [Act.put, List.setIfInBounds_toArray, List.set_cons_succ, List.set_cons_zero]
    refine wpAnyH_done (by kernel_rfl) ?_ _
    have RL : Hid (Loc w X1 [(q4, 23, bcells ZL), (q6, 23, bcells ZL)]) := hS1
    clear hS1
    go_wp2_with fail
    refine bodyPost_ret (results_ttct Try.results19 _ _ q4 (.string { data := #[] }) (.int .i64 0) (.int .i64 110) rfl rfl rfl rfl (bcells ZL) (bc32 HZ.out.2.1) (RL.out.at 0 rfl)) rfl ?_
    rw [HPQ.out]
    exact ⟨[], 0, ZL, 110, rfl, by simp, HZ.out.2.2, HZ.out.2.1, RL.out.below, Or.inl ⟨decE_fails (SliceIn.lt256 HI.out) (by rintro ⟨_, h1⟩; have h2 := of_decide_eq_true HNB.out.2.1; rw [HNB.out.2.2] at h1; simp [inB] at h1; omega), rfl, rfl, HZ.out.1, rfl⟩⟩
  | false =>
  go_upto_region 7 with fail
  refine wp_region_lit ?_
  refine wl rfl (str ID) _ (run_mvZ (.tmp 8) rfl (str ID) rfl) ?_
  simp only [Act.put, List.setIfInBounds_toArray, List.set_cons_succ, List.set_cons_zero]
  refine wpList_callW eN14 [.tmp 41] _ rfl rfl [(str ID)] rfl ?_
  refine (refName_any ID HID.out.2.2 w3).mono ?_
  rintro e wn ⟨rfl, rfl⟩
  refine ⟨_, rfl, ?_⟩
  rw [← HNB.out.1]
  simp only [Act.put, List.setIfInBounds_toArray, List.set_cons_succ, List.set_cons_zero]
  refine wl rfl (.bool false) _ (run_not (.tmp 42) 4 rfl true rfl) ?_
  simp only [Act.put, List.setIfInBounds_toArray, List.set_cons_succ, List.set_cons_zero]
  refine wl rfl (.bool false) _ (run_mvZ (.tmp 43) rfl (.bool false) rfl) ?_
  simp only [Act.put, List.setIfInBounds_toArray, List.set_cons_succ, List.set_cons_zero]
  refine wl (by kernel_rfl) (.int .i64 (L : Nat)) _ (run_mvZ (.tmp 9) rfl (.int .i64 (L : Nat)) rfl) ?_
  simp only [Act.put, List.setIfInBounds_toArray, List.set_cons_succ, List.set_cons_zero]
  refine wl (by kernel_rfl) (.bool false) _ (run_gtrZ (.tmp 45) (.const (.int .i64 512)) rfl (L : Nat) 512 rfl rfl false HNB.out.2.1) ?_
  simp only [Act.put, List.setIfInBounds_toArray, List.set_cons_succ, List.set_cons_zero]
  refine wl rfl (.bool false) _ (run_pickZ (.tmp 44) (.const (.bool true)) (.tmp 46) rfl false (.bool false) rfl rfl) ?_
  simp only [Act.put, List.setIfInBounds_toArray, List.set_cons_succ, List.set_cons_zero]
  refine wpList_nil ?_
  have HEN : Hid (entB (rawId b) (rawL b) = true) := (by show _ = _; rw [HNB.out.2.2, ← HNB.out.1]; have h2 := of_decide_eq_false HNB.out.2.1; simp [inB]; omega)
  clear HNB
  obtain ⟨RT, hRT⟩ : ∃ l, l = rawRoot b := ⟨_, rfl⟩
  have HRT : Hid (RT = rawRoot b ∧ RT.length = 32 ∧ (∀ c ∈ RT, c < 256) ∧ ∀ i, i < 32 → b.getD (3 + n + i) 0 = RT.getD i 0) := (by
    have h1 := HOE.out.2
    have h2 := HLEN.out.1
    have h3 := HN.out.1
    refine ⟨hRT, ?_, ?_, ?_⟩
    · rw [hRT]; simp only [rawRoot, rst, List.length_take, List.length_drop, ← h3]; omega
    · rw [hRT]; exact take_lt (drop_lt (rst_lt (SliceIn.lt256 HI.out)) _) _
    · intro i hi
      rw [hRT]
      simp only [rawRoot, rst, ← h3, List.getD_eq_getElem?_getD, List.getElem?_take, List.getElem?_drop, hi, if_true]
      rw [show 3 + n + i = 1 + n + (2 + i) by omega])
  clear hRT
  go_upto_region 9 with fail
  refine wp_region_lit ?_
  refine wl rfl (.int .i64 0) _ (run_asZ (.const (.int .i64 0)) rfl (.int .i64 0) rfl) ?_
  simp only [Act.put, List.setIfInBounds_toArray, List.set_cons_succ, List.set_cons_zero]
  refine wpList_nil ?_
  have RX : Hid (Loc w w3 [(q4, 23, bcells ZL), (q6, 23, bcells (fillR RT 0))]) := (by rw [fillR_zero, ← HZ.out.1]; exact Rw3.out)
  clear Rw3
  go_wp2_with fail
  go_loopw [10] (fun vk W => ∃ k : Nat, vk = .int .i64 (k : Nat) ∧ k ≤ 32 ∧ Loc w W [(q4, 23, bcells ZL), (q6, 23, bcells (fillR RT k))]) (fun vk _ => 32 - (intOf vk).toNat)
  case atStart => exact ⟨0, rfl, Nat.zero_le _, RX.out⟩
  case round =>
    obtain ⟨k, rfl, hk, hw⟩ := hrel
    have RK : Hid (Loc w wr [(q4, 23, bcells ZL), (q6, 23, bcells (fillR RT k))]) := hw
    clear hw RX
    by_cases hlt : k < 32
    · have t1 : decide ((k : Int) < 32) = true := decide_eq_true (by omega)
      obtain ⟨bi, bj, hx, hc⟩ := ix_byte (HI.out.later RK.out.below) (3 + n + k) (by have := HOE.out.2; have := HLEN.out.1; omega)
      rw [HRT.out.2.2.2 k hlt] at hc
      obtain ⟨ch, hch⟩ : ∃ c, c = RT.getD k 0 := ⟨_, rfl⟩
      have HX : Hid ((∀ w', (Instr.indexAt 28 v (.int .i64 ((3 + n + k : Nat) : Int))).run Try.prog w' = .ok (.pointer (some ⟨bi, bj, none⟩)) w') ∧ wr.cell? ⟨bi, bj, none⟩ = some (.int .u8 (ch : Nat)) ∧ ch = RT.getD k 0) := ⟨hx, by rw [hch]; exact hc, hch⟩
      clear hx hc hch
      go_upto_region 12 with fail
      refine wp_region_lit ?_
      refine wl rfl (.int .i64 (k : Nat)) _ (run_mvZ (.tmp 10) rfl (.int .i64 (k : Nat)) rfl) ?_
      simp only [Act.put, List.setIfInBounds_toArray, List.set_cons_succ, List.set_cons_zero]
      refine wl rfl v _ (run_mvZ (.tmp 0) rfl v rfl) ?_
      simp only [Act.put, List.setIfInBounds_toArray, List.set_cons_succ, List.set_cons_zero]
      refine wl rfl (.int .i64 (n : Nat)) _ (run_mvZ (.tmp 7) rfl (.int .i64 (n : Nat)) rfl) ?_
      simp only [Act.put, List.setIfInBounds_toArray, List.set_cons_succ, List.set_cons_zero]
      refine wl rfl (.int .i64 ((3 + n : Nat) : Int)) _ (run_addI (.const (.int .i64 3)) (.tmp 55) rfl 3 n (by have := HN.out.2.1; omega) rfl rfl) ?_
      simp only [Act.put, List.setIfInBounds_toArray, List.set_cons_succ, List.set_cons_zero]
      refine wl rfl (.int .i64 (k : Nat)) _ (run_mvZ (.tmp 10) rfl (.int .i64 (k : Nat)) rfl) ?_
      simp only [Act.put, List.setIfInBounds_toArray, List.set_cons_succ, List.set_cons_zero]
      refine wl rfl (.int .i64 ((3 + n + k : Nat) : Int)) _ (run_addI (.tmp 56) (.tmp 57) rfl (3 + n) k (by have := HN.out.2.1; omega) rfl rfl) ?_
      simp only [Act.put, List.setIfInBounds_toArray, List.set_cons_succ, List.set_cons_zero]
      refine wl rfl (.pointer (some ⟨bi, bj, none⟩)) _ (run_idx (.tmp 54) (.tmp 58) rfl v _ _ rfl rfl HX.out.1) ?_
      simp only [Act.put, List.setIfInBounds_toArray, List.set_cons_succ, List.set_cons_zero]
      refine wl rfl (.int .u8 (ch : Nat)) _ (run_load1 o5 (.tmp 59) rfl bi (bj) rfl (.int .u8 (ch : Nat)) HX.out.2.1) ?_
      simp only [Act.put, List.setIfInBounds_toArray, List.set_cons_succ, List.set_cons_zero]
      refine wl rfl (.pointer (some ⟨q6, 0 + k, none⟩)) _ (run_ixA arr23 (.tmp 6) (.tmp 53) rfl q6 0 k rfl rfl hlt) ?_
      simp only [Act.put, List.setIfInBounds_toArray, List.set_cons_succ, List.set_cons_zero]
      refine wl_put (t := 5) (by kernel_rfl) (.tmp 61) (.tmp 60) rfl rfl rfl q6 (0 + k) 23 (bcells (fillR RT k)) rfl (.int .u8 (ch : Nat)) rfl ⟨rfl, rfl⟩ (RK.out.at 1 rfl) (by rw [bcells_length, fillR_length RT k HRT.out.2.1 hk]; omega) ?_
      have hk2 := RK.out.set 1 rfl (row_cell' (i := 0 + k) (RK.out.at 1 rfl) (.int .u8 (ch : Nat))) ((Ch.refl (· = q6) wr).setCell (g := q6) (Or.inl rfl) (0 + k) (.int .u8 (ch : Nat)))
      obtain ⟨wz, hwz⟩ : ∃ W, W = wr.setCell ⟨q6, 0 + k, none⟩ (.int .u8 (ch : Nat)) := ⟨_, rfl⟩
      have RZ : Hid (Loc w wz [(q4, 23, bcells ZL), (q6, 23, bcells (fillR RT (k + 1)))]) := (by
        have e1 := fillR_set RT k HRT.out.2.1 hlt
        rw [← HX.out.2.2] at e1
        rw [← hwz] at hk2
        rw [← e1]
        have e2 : (0 + k : Nat) = k := Nat.zero_add k
        rw [e2] at hk2
        exact hk2)
      rw [← hwz]
      clear hwz hk2 RK
      refine wpList_nil ?_
      go_wp2_with fail
      refine ⟨⟨k + 1, by go_num, by omega, RZ.out⟩, ?_⟩
      simp [intOf]; omega
    · have t1 : decide ((k : Int) < 32) = false := decide_eq_false (by omega)
      have ek : k = 32 := by omega
      have RE : Hid (Loc w wr [(q4, 23, bcells ZL), (q6, 23, bcells RT)]) := (by
        have h := RK.out
        rw [ek, fillR_all RT HRT.out.2.1] at h
        exact h)
      clear ek RK
      go_upto_region 13 with fail
      refine wp_region_held (S := fun X => Row X q6 23 (bcells RT)) (by kernel_rfl) ?_
      show wpAnyH _ _ _ _ _ 7 (Array.replicate 7 false) _ _
      obtain ⟨X, hX⟩ : ∃ X : World, X = { wr with drawn := wr.drawn + 1 } := ⟨_, rfl⟩
      rw [← hX]
      have hS : Loc w X [(q4, 23, bcells ZL), (q6, 23, bcells RT)] := (by rw [hX]; exact RE.out.drew)
      clear RE
      clear hX
      refine takeH (i := 0) (some 62) rfl rfl (by kernel_rfl) (by kernel_rfl) (by kernel_rfl) (fun _ _ _ h => h) (gRun rfl (str ID) fun _ h => run_mvZ (.tmp 8) rfl (str ID) rfl) (hS.at 1 rfl) ?_
      simp only [Act.put, List.setIfInBounds_toArray, List.set_cons_succ, List.set_cons_zero]
      refine takeH (i := 1) (some 63) rfl rfl (by kernel_rfl) (by kernel_rfl) (by kernel_rfl) (fun _ _ _ h => h) (gRun rfl (.int .i64 (L : Nat)) fun _ h => run_mvZ (.tmp 9) rfl (.int .i64 (L : Nat)) rfl) (hS.at 1 rfl) ?_
      simp only [Act.put, List.setIfInBounds_toArray, List.set_cons_succ, List.set_cons_zero]
      refine takeH (i := 2) (some 64) rfl rfl (by kernel_rfl) (by kernel_rfl) (by kernel_rfl) (fun _ _ _ h => h) (gRun rfl (.agg (bcells RT).toArray) fun _ h => run_loadA ag23 (.tmp 6) rfl q6 (0) rfl (bcells RT) (bc32 HRT.out.2.1) (fun j u hu => (by rw [Nat.zero_add]; exact h.at j u hu))) (hS.at 1 rfl) ?_
      simp only [Act.put, List.setIfInBounds_toArray, List.set_cons_succ, List.set_cons_zero]
      refine takeH (i := 3) (some 2) rfl rfl (by kernel_rfl) (by kernel_rfl) (by kernel_rfl) (fun _ _ _ h => h) (gRun rfl (str ID) fun _ h => run_asZ (.tmp 62) rfl (str ID) rfl) (hS.at 1 rfl) ?_
      simp only [Act.put, List.setIfInBounds_toArray, List.set_cons_succ, List.set_cons_zero]
      refine takeH (i := 4) (some 3) rfl rfl (by kernel_rfl) (by kernel_rfl) (by kernel_rfl) (fun _ _ _ h => h) (gRun rfl (.int .i64 (L : Nat)) fun _ h => run_asZ (.tmp 63) rfl (.int .i64 (L : Nat)) rfl) (hS.at 1 rfl) ?_
      simp only [Act.put, List.setIfInBounds_toArray, List.set_cons_succ, List.set_cons_zero]
      refine oneH (i := 5) (by kernel_rfl) ?_
      have hst := run_storeVar ag23 X q4 0 23 (bcells ZL) (bcells RT) (bc32 HRT.out.2.1) (hS.at 0 rfl) (by rw [bc32 HRT.out.2.1, bc32 HZ.out.2.1]; decide) (bcells_one _)
      rw [splice_all _ _ (by rw [bc32 HRT.out.2.1, bc32 HZ.out.2.1])] at hst
      refine opSkipZ rfl rfl rfl _ (run_stV (.tmp 4) (.tmp 64) rfl q4 0 rfl _ rfl hst) ?_
      obtain ⟨X1, hW_⟩ : ∃ W, W = X.setRow q4 (bcells RT).toArray := ⟨_, rfl⟩
      have hS1 : Loc w X1 [(q4, 23, bcells RT), (q6, 23, bcells RT)] := hW_ ▸ hS.set 0 rfl ((hS.at 0 rfl).setRow (bcells RT)) ((Ch.refl (· = q4) X).setRow (g := q4) (Or.inl rfl) _)
      rw [← hW_]
      clear hW_ hS hst
      refine ⟨hS1.at 1 rfl, ?_⟩
      refine takeH (i := 6) (some 5) rfl rfl (by kernel_rfl) (by kernel_rfl) (by kernel_rfl) (fun _ _ _ h => h) (gRun rfl (.int .i64 0) fun _ h => run_asZ (.const (.int .i64 0)) rfl (.int .i64 0) rfl) (hS1.at 1 rfl) ?_
      simp only [Act.put, List.setIfInBounds_toArray, List.set_cons_succ, List.set_cons_zero]
      refine wpAnyH_done (by kernel_rfl) ?_ _
      have RL : Hid (Loc w X1 [(q4, 23, bcells RT), (q6, 23, bcells RT)]) := hS1
      clear hS1
      go_wp2_with fail
      refine bodyPost_ret (results_ttct Try.results19 _ _ q4 _ _ _ rfl rfl rfl rfl (bcells RT) (bc32 HRT.out.2.1) (RL.out.at 0 rfl)) rfl ?_
      rw [HPQ.out]
      exact ⟨ID, L, RT, 0, rfl, HID.out.2.2, HRT.out.2.2.1, HRT.out.2.1, RL.out.below, Or.inr ⟨by rw [HID.out.1, HID.out.2.1, HRT.out.1]; exact decE_raw (SliceIn.lt256 HI.out) HOE.out.1 HEN.out, rfl⟩⟩

end Go.Proofs.Ytncjmolhofnpbaa

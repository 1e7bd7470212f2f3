/- A law spoils what it got. -/
import Derived.Test.YtobolkllplmmcaaT4
namespace Go.Proofs.Ytobolkllplmmcaa
open Go.RowKit

theorem run_bldD {w : World} {a : Act} {o : Oper} (d : Int) (ho : o.op = .build 47 #[(0, .const (.int .i64 d))]) : (execOp a.eval o).run Try.prog w = .ok (.value (.agg (pcells ⟨d, 0, 0, false⟩).toArray)) w := by
  have hr : (Instr.build 47 #[(0, .int .i64 d)]).run Try.prog w = .ok (.agg (pcells ⟨d, 0, 0, false⟩).toArray) w := by kernel_rfl
  have e1 : a.eval (.const (.int .i64 d)) = .int .i64 d := rfl
  simp only [execOp, ho, List.map_toArray, List.map_cons, List.map_nil, e1, hr, Sem.run_bind, Sem.run_pure, Result.andThen_ok]
theorem run_litPl {w : World} {a : Act} {o : Oper} (x : Operand) (ho : o.op = .buildSlice 24 1 #[(0, x)]) (p : Pc) (hx : a.eval x = .agg (pcells p).toArray) : (execOp a.eval o).run Try.prog w = .ok (.value (.slice (some ⟨w.heap.size, 0, none⟩) 1 1)) (w.alloc (.cells (pcells p).toArray 47)) := by
  simp only [execOp, ho, List.map_toArray, List.map_cons, List.map_nil, hx, run_lit47 p, Sem.run_bind, Sem.run_pure, Result.andThen_ok]
/-- n places of one's own, whatever they are -/
def PN (w : World) (base : Nat) (v : Value) (n : Nat) : Prop := ∃ xs, w.ownsRow base 47 4 v n xs
theorem POwn.pn {w : World} {base : Nat} {v : Value} {ps : List Pc} (h : POwn w base v ps) : PN w base v ps.length := ⟨_, h⟩
theorem PN.keep {w w' : World} {base : Nat} {v : Value} {n : Nat} (h : PN w base v n) (hb : ∀ b, v.ownBlock = some b → base ≤ b → b < w.heap.size → w'.heap[b]? = w.heap[b]?) : PN w' base v n := by
  obtain ⟨xs, h⟩ := h
  exact ⟨xs, ownK h fun b e => hb b e (h.lt b e).1 (h.lt b e).2⟩
theorem PN.later {w w' : World} {base : Nat} {v : Value} {n : Nat} (h : PN w base v n) (hb : Below w.heap.size w w') : PN w' base v n := h.keep fun b _ _ hlt => hb.block b hlt
theorem PN.ix {w : World} {base : Nat} {v : Value} {n : Nat} (h : PN w base v n) (k : Nat) (hk : k < n) : ∃ g cur, v.ownBlock = some g ∧ base ≤ g ∧ Row w g 47 cur ∧ k * 4 + 4 ≤ cur.length ∧ (∀ w', (Instr.indexAt 24 v (.int .i64 (k : Nat))).run Try.prog w' = .ok (.pointer (some ⟨g, k * 4, none⟩)) w') ∧ ∀ (w' : World) (cur' : List Value), cur'.length = cur.length → Row w' g 47 cur' → PN w' base v n := by
  obtain ⟨xs, hown⟩ := h
  obtain ⟨i5, hi5, hsz⟩ := Option.map_eq_some_iff.1 size47
  rcases hown.2 with ⟨rfl, rfl⟩ | ⟨g, cap, cur, rfl, hbg, hg, hcap, hmax, hcs, htake⟩
  · omega
  · refine ⟨g, cur.toList, rfl, hbg, hg, by rw [Array.length_toList, hcs]; omega, fun w' => by simp [Instr.indexAt, asIntOf, run_underlying und24, hk, sizeOf, typeInfo, hi5, hsz, add_none], fun w' cur' hl hr => ⟨cur'.take (n * 4), ?_, Or.inr ⟨g, cap, cur'.toArray, rfl, hbg, hr, hcap, hmax, ?_, rfl⟩⟩⟩
    · rw [List.length_take, hl, Array.length_toList, hcs]
      omega
    · rw [List.size_toArray, hl, Array.length_toList, hcs]
theorem PN.app {w : World} {base : Nat} {v : Value} {n : Nat} (h : PN w base v n) (ty : TypeId) (b : Nat) (p : Pc) (hb : Row w b 47 (pcells p)) (hsz : (n + 1) * 32 ≤ 140737488355328) (hbase : base ≤ w.heap.size) :
    ∃ v' w', (Builtin.append_ #[24, 24] ty #[v, .slice (some ⟨b, 0, none⟩) 1 1]).run Try.prog w = .ok v' w' ∧ PN w' base v' (n + 1) ∧ w.grownBy w' v.ownBlock ∧ (v'.ownBlock = v.ownBlock ∨ v'.ownBlock = some w.heap.size) := by
  obtain ⟨xs, hown⟩ := h
  obtain ⟨i, hi, hz0, hz1, hz2⟩ := info_parts info47
  obtain ⟨v', w', hr, ho', hg, _, hw⟩ := run_append_own_at (P := Try.prog) (w := w) base 24 ty 47 i (.agg (pcells ⟨0, 0, 0, false⟩).toArray) 4 32 und24 hi hz0 hz1 hz2 rfl (by decide) v n xs hown
    ⟨b, 0, none⟩ 1 1 (pcells p) rfl (fun j u hu => by rw [add_none, Nat.zero_add]; exact hb.at j u hu) (pcells_one p) (by unfold maxLen; omega) (by omega) hbase
  exact ⟨v', w', hr, ⟨_, ho'⟩, hg, hw⟩
theorem run_lenPN {w0 w : World} {a : Act} {o : Oper} {base : Nat} {v : Value} {n : Nat} (h : PN w0 base v n) (x : Operand) (ho : o.op = .call { callee := .builtin .len, args := #[x], argTypes := #[24] }) (hx : a.eval x = v) : (execOp a.eval o).run Try.prog w = .ok (.value (.int .i64 (n : Nat))) w := by
  obtain ⟨xs, h⟩ := h
  rcases h.2 with ⟨rfl, rfl⟩ | ⟨g, cap, cur, rfl, _⟩
  · exact run_lenZ sl24 x ho _ _ _ hx
  · exact run_lenZ sl24 x ho _ _ _ hx
theorem PN.ne {w : World} {base : Nat} {v : Value} {n : Nat} (h : PN w base v n) {q T : Nat} {cs : List Value} (hr : Row w q T cs) (hT : T ≠ 47) : v.ownBlock ≠ some q := by
  obtain ⟨xs, h⟩ := h
  intro e
  rcases h.2 with ⟨rfl, _⟩ | ⟨g, cap, cur, rfl, _, hg, _⟩
  · cases e
  · have e2 : g = q := Option.some.inj e
    subst e2
    unfold Row at hr
    rw [hg] at hr
    injection hr with hr
    injection hr with _ h2
    exact hT h2.symm
/-- nothing that is older has turned, but block b -/
def Sp (w W : World) (b : Option Nat) : Prop := w.grownBy W b
theorem Sp.later {w W W' : World} {b : Option Nat} (h : Sp w W b) (hb : Below W.heap.size W W') : Sp w W' b :=
  ⟨hb.os.trans h.os, hb.tape.trans h.tape, hb.output.trans h.output, Nat.le_trans h.size hb.size, fun k hk hn => (hb.block k (Nat.lt_of_lt_of_le hk h.size)).trans (h.block k hk hn)⟩
theorem Sp.ch {w W W' : World} {g : Nat} (h : Sp w W (some g)) (hc : Ch (· = g) W W') : Sp w W' (some g) :=
  ⟨hc.os.trans h.os, hc.tape.trans h.tape, hc.output.trans h.output, Nat.le_trans h.size hc.size, fun k hk hn => (hc.one k (Nat.lt_of_lt_of_le hk h.size) (fun e => hn (by rw [e]))).trans (h.block k hk hn)⟩
theorem Sp.grown {w W W' : World} {b b' : Option Nat} (h : Sp w W b) (hg : W.grownBy W' b') (hb : b' = b ∨ ∃ k, b' = some k ∧ w.heap.size ≤ k) : Sp w W' b :=
  ⟨hg.os.trans h.os, hg.tape.trans h.tape, hg.output.trans h.output, Nat.le_trans h.size hg.size, fun k hk hn => (hg.block k (Nat.lt_of_lt_of_le hk h.size) (fun e => by
    rcases hb with rfl | ⟨j, rfl, hj⟩
    · exact hn e
    · have := Option.some.inj e; omega)).trans (h.block k hk hn)⟩
theorem splice_length {α : Type} (A : List α) (o : Nat) (c : List α) (h : o + c.length ≤ A.length) : (splice A o c).length = A.length := by
  unfold splice
  simp only [List.length_append, List.length_take, List.length_drop]
  omega
/-- what the law holds while it spoils: a row of its own, the places, and what has turned -/
structure Spo (w W : World) (q base : Nat) (r : Rc) (v : Value) (n : Nat) : Prop where
  row : Row W q 26 (rcells r v)
  new : w.heap.size ≤ q
  own : PN W base v n
  sp : Sp w W v.ownBlock
  old : ∀ b, v.ownBlock = some b → b < w.heap.size
theorem Spo.put {w W W' : World} {q base : Nat} {r : Rc} {v : Value} {n : Nat} (h : Spo w W q base r v n) {g : Nat} (hg : v.ownBlock = some g) (hc : Ch (· = g) W W') (ho : PN W' base v n) : Spo w W' q base r v n := by
  have hne : q ≠ g := fun e => h.own.ne h.row (by decide) (e ▸ hg)
  refine ⟨?_, h.new, ho, by have := h.sp; rw [hg] at this ⊢; exact this.ch hc, h.old⟩
  unfold Row
  rw [hc.one q h.row.lt hne]
  exact h.row
theorem Spo.cp {w W : World} {q base : Nat} {r : Rc} {v : Value} {n : Nat} (h : Spo w W q base r v n) (hr : r.root.length = 32) : W.cell? ⟨q, 0 + 38, none⟩ = some v := h.row.at (0 + 38) _ (rcB v hr 4)
set_option maxHeartbeats 4000000 in
set_option maxRecDepth 100000 in
theorem spoil_any (r : Rc) (v : Value) (n base : Nat) (w : World) (hr : Rok r v) (ho : PN w base v n) (hz : (n + 1) * 32 ≤ 140737488355328) (hb : base ≤ w.heap.size) : Calls Try.prog 14 #[.agg (rcells r v).toArray] w fun e w' => e = .returned noResult ∧ w.grownBy w' v.ownBlock := by
  have HF : Hid (Rok r v ∧ (n + 1) * 32 ≤ 140737488355328 ∧ base ≤ w.heap.size ∧ n ≤ 9223372036854775807) := ⟨hr, hz, hb, by omega⟩
  have HO : Hid (PN w base v n) := ho
  have HB : Hid (∀ b, v.ownBlock = some b → b < w.heap.size) := fun b hb => by obtain ⟨xs, h⟩ := ho; exact (h.lt b hb).2
  clear hr hz hb ho
  obtain ⟨PQ, hPQ⟩ : ∃ PQ : Ending → World → Prop, PQ = fun (e : Ending) (w' : World) => e = .returned noResult ∧ w.grownBy w' v.ownBlock := ⟨_, rfl⟩
  have HPQ : Hid (PQ = fun (e : Ending) (w' : World) => e = .returned noResult ∧ w.grownBy w' v.ownBlock) := hPQ
  rw [← hPQ]
  clear hPQ
  go_enter Try.func14, Try.ntmps14
  go_upto_region 0 with fail
  refine wp_region_lit ?_
  refine wl rfl (ptr w.heap.size) _ (run_boxA (.tmp 0) rfl (rcells r v) rfl) ?_
  have r_ := Row.new w 26 (rcells r v)
  have b_ := below_alloc w (.cells (rcells r v).toArray 26)
  obtain ⟨w1, hW_⟩ : ∃ U_ : World, U_ = w.alloc (.cells (rcells r v).toArray 26) := ⟨_, rfl⟩
  obtain ⟨q1, hq_⟩ : ∃ q, q = w.heap.size := ⟨_, rfl⟩
  rw [← hW_, ← hq_] at r_
  rw [← hW_] at b_
  rw [← hW_, ← hq_]
  have HS : Hid (Spo w w1 q1 base r v n) := ⟨r_, by omega, HO.out.later b_, ⟨b_.os, b_.tape, b_.output, b_.size, fun k hk _ => b_.block k hk⟩, HB.out⟩
  have HO2 : Hid (PN w base v n) := HO.out
  clear r_ b_ hq_ hW_ HO
  simp only [Act.put, List.setIfInBounds_toArray, List.set_cons_succ, List.set_cons_zero]
  refine wpList_nil ?_
  go_upto_region 1 with fail
  refine wp_region_lit ?_
  refine wl rfl (.int .i64 0) _ (run_asZ (.const (.int .i64 0)) rfl (.int .i64 0) rfl) ?_
  simp only [Act.put, List.setIfInBounds_toArray, List.set_cons_succ, List.set_cons_zero]
  refine wpList_nil ?_
  go_wp2_with fail
  go_loopw [2] (fun v2 W => ∃ k : Nat, v2 = .int .i64 (k : Nat) ∧ k ≤ n ∧ Hid (Spo w W q1 base r v n)) (fun v2 _ => n - (intOf v2).toNat)
  case atStart => exact ⟨0, rfl, Nat.zero_le _, HS.out⟩
  case round =>
    clear HS
    obtain ⟨k, rfl, hk, HS⟩ := hrel
    have HC : Hid (wr.cell? ⟨q1, 0 + 38, none⟩ = some v) := HS.out.cp HF.out.1.root
    by_cases hlt : k < n
    · have HD : Hid (decide (k < n) = true) := decide_eq_true hlt
      go_upto_region 2 with fail
      refine wp_region_lit ?_
      refine wl rfl (.int .i64 (k : Nat)) _ (run_mvZ (.tmp 2) rfl (.int .i64 (k : Nat)) rfl) ?_
      simp only [Act.put, List.setIfInBounds_toArray, List.set_cons_succ, List.set_cons_zero]
      refine wl rfl (.pointer (some ⟨q1, 0 + 38, none⟩)) _ (run_fieldOp' f26_7 (.tmp 1) rfl q1 (0) rfl) ?_
      simp only [Act.put, List.setIfInBounds_toArray, List.set_cons_succ, List.set_cons_zero]
      refine wl rfl v _ (run_load1 o24 (.tmp 5) rfl q1 (0 + 38) rfl v HC.out) ?_
      simp only [Act.put, List.setIfInBounds_toArray, List.set_cons_succ, List.set_cons_zero]
      refine wl rfl (.int .i64 (n : Nat)) _ (run_lenPN HS.out.own (.tmp 6) rfl rfl) ?_
      simp only [Act.put, List.setIfInBounds_toArray, List.set_cons_succ, List.set_cons_zero]
      refine wl rfl (.bool true) _ (run_lssN (.tmp 4) (.tmp 7) rfl k n rfl rfl true HD.out) ?_
      simp only [Act.put, List.setIfInBounds_toArray, List.set_cons_succ, List.set_cons_zero]
      refine wpList_nil ?_
      obtain ⟨g, cur, hg, hbg, hrow, hfit, hix, hput⟩ := HS.out.own.ix k hlt
      have HX : Hid (∀ w', (Instr.indexAt 24 v (.int .i64 (k : Nat))).run Try.prog w' = .ok (.pointer (some ⟨g, k * 4, none⟩)) w') := hix
      clear hix
      go_upto_region 4 with fail
      refine wp_region_lit ?_
      refine wl rfl (.pointer (some ⟨q1, 0 + 38, none⟩)) _ (run_fieldOp' f26_7 (.tmp 1) rfl q1 (0) rfl) ?_
      simp only [Act.put, List.setIfInBounds_toArray, List.set_cons_succ, List.set_cons_zero]
      refine wl rfl v _ (run_load1 o24 (.tmp 11) rfl q1 (0 + 38) rfl v HC.out) ?_
      simp only [Act.put, List.setIfInBounds_toArray, List.set_cons_succ, List.set_cons_zero]
      refine wl rfl (.int .i64 (k : Nat)) _ (run_mvZ (.tmp 2) rfl (.int .i64 (k : Nat)) rfl) ?_
      simp only [Act.put, List.setIfInBounds_toArray, List.set_cons_succ, List.set_cons_zero]
      refine wl rfl (.agg (pcells ⟨99, 0, 0, false⟩).toArray) _ (run_bldD 99 rfl) ?_
      simp only [Act.put, List.setIfInBounds_toArray, List.set_cons_succ, List.set_cons_zero]
      refine wl rfl (.pointer (some ⟨g, k * 4, none⟩)) _ (run_idx (.tmp 12) (.tmp 13) rfl v _ _ rfl rfl HX.out) ?_
      simp only [Act.put, List.setIfInBounds_toArray, List.set_cons_succ, List.set_cons_zero]
      have hst_ := run_storeVar ag47 wr g (k * 4) 47 cur (pcells ⟨99, 0, 0, false⟩) rfl hrow hfit (pcells_one _)
      refine wlS rfl rfl _ (run_stV (.tmp 15) (.tmp 14) rfl g (k * 4) rfl _ rfl hst_) ?_
      have h2_ := HS.out.put hg ((Ch.refl (· = g) wr).setRow (g := g) (Or.inl rfl) (splice cur (k * 4) (pcells ⟨99, 0, 0, false⟩)).toArray) (hput _ _ (by rw [splice_length _ _ _ hfit]) (hrow.setRow _))
      obtain ⟨w2, hW_⟩ : ∃ U_ : World, U_ = wr.setRow g (splice cur (k * 4) (pcells ⟨99, 0, 0, false⟩)).toArray := ⟨_, rfl⟩
      rw [← hW_] at h2_ ⊢
      have HT : Hid (Spo w w2 q1 base r v n) := h2_
      clear h2_ hW_ hst_ hput hrow hfit HC HS
      refine wpList_nil ?_
      go_upto_region 3 with fail
      refine wp_region_lit ?_
      refine wl rfl (.int .i64 (k : Nat)) _ (run_mvZ (.tmp 2) rfl (.int .i64 (k : Nat)) rfl) ?_
      simp only [Act.put, List.setIfInBounds_toArray, List.set_cons_succ, List.set_cons_zero]
      refine wl rfl (.int .i64 ((k + 1 : Nat))) _ (run_addI (.tmp 9) rfl k n hlt HF.out.2.2.2 rfl) ?_
      simp only [Act.put, List.setIfInBounds_toArray, List.set_cons_succ, List.set_cons_zero]
      refine wl rfl (.int .i64 ((k + 1 : Nat))) _ (run_asZ (.tmp 10) rfl (.int .i64 ((k + 1 : Nat))) rfl) ?_
      simp only [Act.put, List.setIfInBounds_toArray, List.set_cons_succ, List.set_cons_zero]
      refine wpList_nil ?_
      go_wp2_with fail
      exact ⟨⟨k + 1, rfl, by omega, HT⟩, by simp [intOf]; omega⟩
    · have HD : Hid (decide (k < n) = false) := decide_eq_false hlt
      go_upto_region 2 with fail
      refine wp_region_lit ?_
      refine wl rfl (.int .i64 (k : Nat)) _ (run_mvZ (.tmp 2) rfl (.int .i64 (k : Nat)) rfl) ?_
      simp only [Act.put, List.setIfInBounds_toArray, List.set_cons_succ, List.set_cons_zero]
      refine wl rfl (.pointer (some ⟨q1, 0 + 38, none⟩)) _ (run_fieldOp' f26_7 (.tmp 1) rfl q1 (0) rfl) ?_
      simp only [Act.put, List.setIfInBounds_toArray, List.set_cons_succ, List.set_cons_zero]
      refine wl rfl v _ (run_load1 o24 (.tmp 5) rfl q1 (0 + 38) rfl v HC.out) ?_
      simp only [Act.put, List.setIfInBounds_toArray, List.set_cons_succ, List.set_cons_zero]
      refine wl rfl (.int .i64 (n : Nat)) _ (run_lenPN HS.out.own (.tmp 6) rfl rfl) ?_
      simp only [Act.put, List.setIfInBounds_toArray, List.set_cons_succ, List.set_cons_zero]
      refine wl rfl (.bool false) _ (run_lssN (.tmp 4) (.tmp 7) rfl k n rfl rfl false HD.out) ?_
      simp only [Act.put, List.setIfInBounds_toArray, List.set_cons_succ, List.set_cons_zero]
      refine wpList_nil ?_
      go_upto_region 5 with fail
      refine wp_region_lit ?_
      refine wl rfl (.pointer (some ⟨q1, 0 + 38, none⟩)) _ (run_fieldOp' f26_7 (.tmp 1) rfl q1 (0) rfl) ?_
      simp only [Act.put, List.setIfInBounds_toArray, List.set_cons_succ, List.set_cons_zero]
      refine wl rfl v _ (run_load1 o24 (.tmp 16) rfl q1 (0 + 38) rfl v HC.out) ?_
      simp only [Act.put, List.setIfInBounds_toArray, List.set_cons_succ, List.set_cons_zero]
      refine wl rfl (.agg (pcells ⟨98, 0, 0, false⟩).toArray) _ (run_bldD 98 rfl) ?_
      simp only [Act.put, List.setIfInBounds_toArray, List.set_cons_succ, List.set_cons_zero]
      refine wl rfl (.slice (some ⟨wr.heap.size, 0, none⟩) 1 1) _ (run_litPl (.tmp 18) rfl ⟨98, 0, 0, false⟩ rfl) ?_
      have r_ := Row.new wr 47 (pcells ⟨98, 0, 0, false⟩)
      have b_ := below_alloc wr (.cells (pcells ⟨98, 0, 0, false⟩).toArray 47)
      obtain ⟨w3, hW_⟩ : ∃ U_ : World, U_ = wr.alloc (.cells (pcells ⟨98, 0, 0, false⟩).toArray 47) := ⟨_, rfl⟩
      obtain ⟨q3, hq_⟩ : ∃ q, q = wr.heap.size := ⟨_, rfl⟩
      rw [← hW_, ← hq_] at r_
      rw [← hW_] at b_
      rw [← hW_, ← hq_]
      have H3 : Hid (Spo w w3 q1 base r v n ∧ Row w3 q3 47 (pcells ⟨98, 0, 0, false⟩)) := ⟨⟨HS.out.row.later b_ HS.out.row.lt, HS.out.new, HS.out.own.later b_, HS.out.sp.later b_, HB.out⟩, r_⟩
      clear r_ b_ hq_ hW_ HS HC
      simp only [Act.put, List.setIfInBounds_toArray, List.set_cons_succ, List.set_cons_zero]
      obtain ⟨v2, w4, hr_, o_, g_, hw_⟩ := H3.out.1.own.app 24 q3 ⟨98, 0, 0, false⟩ H3.out.2 HF.out.2.1 (Nat.le_trans HF.out.2.2.1 H3.out.1.sp.size)
      refine wl rfl v2 _ (run_append (.tmp 17) (.tmp 19) rfl v _ v2 rfl rfl hr_) ?_
      have H4 : Hid (Row w4 q1 26 (rcells r v) ∧ PN w4 base v2 (n + 1) ∧ Sp w w4 v.ownBlock ∧ ∀ b, v2.ownBlock = some b → v.ownBlock = some b ∨ w.heap.size ≤ b) := ⟨by
        unfold Row
        rw [g_.block q1 H3.out.1.row.lt (fun e => H3.out.1.own.ne H3.out.1.row (by decide) e.symm)]
        exact H3.out.1.row, o_, H3.out.1.sp.grown g_ (Or.inl rfl), fun b hb => by
        rcases hw_ with h | h
        · exact Or.inl (h ▸ hb)
        · rw [h] at hb; have := Option.some.inj hb; have := H3.out.1.sp.size; exact Or.inr (by omega)⟩
      clear hr_ o_ g_ hw_ H3
      simp only [Act.put, List.setIfInBounds_toArray, List.set_cons_succ, List.set_cons_zero]
      refine wl rfl v2 _ (run_asZ (.tmp 20) rfl v2 rfl) ?_
      simp only [Act.put, List.setIfInBounds_toArray, List.set_cons_succ, List.set_cons_zero]
      refine wpList_nil ?_
      obtain ⟨g, cur, hg, hbg, hrow, hfit, hix, hput⟩ := H4.out.2.1.ix n (Nat.lt_succ_self n)
      have HX : Hid (∀ w', (Instr.indexAt 24 v2 (.int .i64 (n : Nat))).run Try.prog w' = .ok (.pointer (some ⟨g, n * 4, none⟩)) w') := hix
      clear hix
      have HC : Hid (w4.cell? ⟨q1, 0 + 38, none⟩ = some v) := H4.out.1.at (0 + 38) _ (rcB v HF.out.1.root 4)
      go_upto_region 6 with fail
      refine wp_region_lit ?_
      refine wl rfl v2 _ (run_mvZ (.tmp 3) rfl v2 rfl) ?_
      simp only [Act.put, List.setIfInBounds_toArray, List.set_cons_succ, List.set_cons_zero]
      refine wl rfl (.pointer (some ⟨q1, 0 + 38, none⟩)) _ (run_fieldOp' f26_7 (.tmp 1) rfl q1 (0) rfl) ?_
      simp only [Act.put, List.setIfInBounds_toArray, List.set_cons_succ, List.set_cons_zero]
      refine wl rfl v _ (run_load1 o24 (.tmp 22) rfl q1 (0 + 38) rfl v HC.out) ?_
      simp only [Act.put, List.setIfInBounds_toArray, List.set_cons_succ, List.set_cons_zero]
      refine wl rfl (.int .i64 (n : Nat)) _ (run_lenPN HO2.out (.tmp 23) rfl rfl) ?_
      simp only [Act.put, List.setIfInBounds_toArray, List.set_cons_succ, List.set_cons_zero]
      refine wl rfl (.pointer (some ⟨g, n * 4, none⟩)) _ (run_idx (.tmp 21) (.tmp 24) rfl v2 _ _ rfl rfl HX.out) ?_
      simp only [Act.put, List.setIfInBounds_toArray, List.set_cons_succ, List.set_cons_zero]
      refine wl rfl (.pointer (some ⟨g, n * 4 + 1, none⟩)) _ (run_fieldOp' f47_1 (.tmp 25) rfl g (n * 4) rfl) ?_
      simp only [Act.put, List.setIfInBounds_toArray, List.set_cons_succ, List.set_cons_zero]
      refine wlS rfl rfl _ (run_putRow s3 (.tmp 26) (.const (.int .i64 97)) rfl g (n * 4 + 1) 47 cur rfl (.int .i64 97) rfl ⟨rfl, rfl⟩ hrow (by omega)) ?_
      have hc_ := (Ch.refl (· = g) w4).setCell (g := g) (Or.inl rfl) (n * 4 + 1) (.int .i64 97)
      obtain ⟨w5, hW_⟩ : ∃ U_ : World, U_ = w4.setCell ⟨g, n * 4 + 1, none⟩ (.int .i64 97) := ⟨_, rfl⟩
      rw [← hW_] at hc_ ⊢
      have H5 : Hid (Sp w w5 v.ownBlock) := by
        refine ⟨hc_.os.trans H4.out.2.2.1.os, hc_.tape.trans H4.out.2.2.1.tape, hc_.output.trans H4.out.2.2.1.output, Nat.le_trans H4.out.2.2.1.size hc_.size, fun k hk hn => ?_⟩
        refine (hc_.one k (Nat.lt_of_lt_of_le hk H4.out.2.2.1.size) ?_).trans (H4.out.2.2.1.block k hk hn)
        rintro rfl
        rcases H4.out.2.2.2 _ hg with h | h
        · exact hn h.symm
        · omega
      clear hc_ hW_ hput hrow
      refine wpList_nil ?_
      go_wp2_with fail
      first | (rw [HPQ.out]; exact ⟨rfl, H5.out⟩) | (go_end0; rw [HPQ.out]; exact ⟨rfl, H5.out⟩)

end Go.Proofs.Ytobolkllplmmcaa

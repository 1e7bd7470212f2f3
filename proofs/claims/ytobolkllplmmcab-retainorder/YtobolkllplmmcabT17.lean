/- RetainOrder. -/
import Derived.Test.YtobolkllplmmcabT13
namespace Go.Proofs.Ytobolkllplmmcab
open Go.RowKit

/-- a record with its lock's end -/
def aEx (r : Rc) (e : Int) : Rc := { r with expiry := e }
def badU (u : Int) : Bool := decide (u < 0 ∨ 1099511627776 < u)
theorem lock_bad (r : Rc) (e u : Int) (h : badU u = true) : lockS (aEx r e) u = (rz, 1) := by
  rw [lockS, if_pos (of_decide_eq_true h)]
theorem lock_good (r : Rc) (e u : Int) (h : badU u = false) (hg : r.gone = false) : lockS (aEx r e) u = (aEx r (max e u), 0) := by
  rw [lockS, if_neg (of_decide_eq_false h), if_neg (show ¬ (aEx r e).gone = true by rw [show (aEx r e).gone = r.gone from rfl, hg]; exact Bool.false_ne_true)]
  exact rfl
/-- the latest that was asked, or its own -/
def stepU (e u : Int) : Int := if badU u = true then e else max e u
def topF (e : Int) (us : List Int) : Int := us.foldl stepU e
theorem topF_snoc (e : Int) (l : List Int) (i : Nat) (u : Int) (h : l[i]? = some u) : topF e (l.take (i + 1)) = stepU (topF e (l.take i)) u := by
  rw [take_succ l i u h]
  unfold topF
  rw [List.foldl_append]
  exact rfl
theorem topF_ge (us : List Int) : ∀ e, e ≤ topF e us ∧ ∀ u ∈ us, badU u = false → u ≤ topF e us := by
  induction us with
  | nil => intro e; exact ⟨Int.le_refl _, fun u hu => by cases hu⟩
  | cons x us ih =>
    intro e
    obtain ⟨h1, h2⟩ := ih (stepU e x)
    have hs : e ≤ stepU e x ∧ (badU x = false → x ≤ stepU e x) := by
      unfold stepU
      cases badU x
      · exact ⟨by simp; omega, fun _ => by simp; omega⟩
      · exact ⟨by simp, fun h => by cases h⟩
    refine ⟨Int.le_trans hs.1 h1, fun u hu hb => ?_⟩
    rcases List.mem_cons.1 hu with rfl | hu
    · exact Int.le_trans (hs.2 hb) h1
    · exact h2 u hu hb
theorem topF_is (us : List Int) : ∀ e, topF e us = e ∨ ∃ u ∈ us, badU u = false ∧ topF e us = u := by
  induction us with
  | nil => intro e; exact Or.inl rfl
  | cons x us ih =>
    intro e
    have hs : stepU e x = e ∨ (badU x = false ∧ stepU e x = x) := by
      unfold stepU
      cases badU x
      · by_cases h : e ≤ x
        · exact Or.inr ⟨rfl, by simp; omega⟩
        · exact Or.inl (by simp; omega)
      · exact Or.inl (by simp)
    rcases ih (stepU e x) with h | ⟨u, hu, hb, h⟩
    · rcases hs with hs | ⟨hb, hs⟩
      · exact Or.inl (by show topF (stepU e x) us = e; rw [h, hs])
      · exact Or.inr ⟨x, List.mem_cons_self .., hb, by show topF (stepU e x) us = x; rw [h, hs]⟩
    · exact Or.inr ⟨u, List.mem_cons_of_mem _ hu, hb, h⟩
theorem topF_same (e : Int) (a b : List Int) (h : ∀ u, u ∈ a ↔ u ∈ b) : topF e a = topF e b := by
  have h1 := topF_ge a e
  have h2 := topF_ge b e
  rcases topF_is a e with k1 | ⟨u, hu, hb, k1⟩ <;> rcases topF_is b e with k2 | ⟨v, hv, hb', k2⟩
  · omega
  · have := h1.2 v ((h v).2 hv) hb'
    have := h2.1
    omega
  · have := h2.2 u ((h u).1 hu) hb
    have := h1.1
    omega
  · have := h1.2 v ((h v).2 hv) hb'
    have := h2.2 u ((h u).1 hu) hb
    omega
/-- numbers that came in -/
def NsIn (W : World) (v : Value) (l : List Int) : Prop := ∃ p cap, v = .slice p l.length cap ∧ l.length ≤ 9223372036854775807 ∧ ∀ (i : Nat) (k : Int), l[i]? = some k → ∃ b off, (∀ w', (Instr.indexAt 27 v (.int .i64 (i : Nat))).run Try.prog w' = .ok (.pointer (some ⟨b, off, none⟩)) w') ∧ W.cell? ⟨b, off, none⟩ = some (.int .i64 k)
theorem run_lenN {w0 w : World} {a : Act} {o : Oper} {v : Value} {l : List Int} (hin : NsIn w0 v l) (x : Operand) (ho : o.op = .call { callee := .builtin .len, args := #[x], argTypes := #[27] }) (hx : a.eval x = v) : (execOp a.eval o).run Try.prog w = .ok (.value (.int .i64 (l.length : Nat))) w := by
  obtain ⟨p, cap, rfl, _⟩ := hin
  exact run_lenZ sl49 x ho p _ cap hx
theorem run_subN {w : World} {a : Act} {o : Oper} (x y : Operand) (ho : o.op = .binOp .sub 3 x y 3) (p q : Nat) (hx : a.eval x = .int .i64 (p : Nat)) (hy : a.eval y = .int .i64 (q : Nat)) (hq : q ≤ p) (hp : p ≤ 9223372036854775807) : (execOp a.eval o).run Try.prog w = .ok (.value (.int .i64 ((p - q : Nat)))) w := by
  simp only [execOp, ho, hx, hy]
  simp [go_sem, IntKind.wrap, IntKind.bits, IntKind.signed]
  omega
theorem share3 {P G : World → Nat → Value → Prop} {T : Prop} (k : (∀ W q v, P W q v → G W q v) → T) (h : ∀ W q v, P W q v → G W q v) : T := k h
theorem twoH {ops : Array Oper} {Q : Exit → Act → World → Prop} {S : World → Prop} {fuel : Nat} {listed : Array Bool} {a : Act} {w : World} {i j : Nat} (hr : Region.ready .any ops listed = [i, j]) (h1 : wpOp Try.prog ops Q i (fun a' w' => S w' ∧ wpAnyH Try.prog .any ops Q S fuel (listed.setIfInBounds i true) a' w') a w) (h2 : wpOp Try.prog ops Q j (fun a' w' => S w' ∧ wpAnyH Try.prog .any ops Q S fuel (listed.setIfInBounds j true) a' w') a w) : wpAnyH Try.prog .any ops Q S (fuel + 1) listed a w :=
  wpAnyH_all hr (by simp) fun k hk => by
    rcases List.mem_cons.1 hk with rfl | hk
    · exact h1
    · obtain rfl := List.mem_singleton.1 hk
      exact h2
theorem rz_root : rz.root.length = 32 ∧ ∀ c ∈ rz.root, c < 256 := ⟨rfl, rz_fine.2⟩
theorem POwn.fitR {w : World} {base : Nat} {v : Value} {r : Rc} (h : POwn w base v r.cp) (hk : r.root.length = 32 ∧ ∀ c ∈ r.root, c < 256) (hl : r.cp.length ≤ 9223372036854775807) : Fits w r v := h.fit ⟨hk.1, hk.2, h.isSl⟩ hl
set_option maxHeartbeats 4000000 in
set_option maxRecDepth 100000 in
theorem order_any (r : Rc) (vc vl : Value) (l : List Int) (w : World) (hf : Fits w r vc) (hl : NsIn w vl l) (hz : (r.cp.length + 1) * 32 ≤ 140737488355328) : Calls Try.prog 3 #[.agg (rcells r vc).toArray, vl] w fun e w' => e = .returned (.bool true) ∧ Below w.heap.size w w' := by
  obtain ⟨m, hm⟩ : ∃ m, m = l.length := ⟨_, rfl⟩
  have HF : Hid (Fits w r vc ∧ NsIn w vl l ∧ m = l.length ∧ m ≤ 9223372036854775807 ∧ (r.cp.length + 1) * 32 ≤ 140737488355328 ∧ r.cp.length ≤ 9223372036854775807) := ⟨hf, hl, hm, by obtain ⟨_, _, _, h, _⟩ := hl; rw [hm]; exact h, hz, by omega⟩
  have HRt : Hid (r.root.length = 32 ∧ ∀ c ∈ r.root, c < 256) := ⟨hf.root, hf.bytes⟩
  clear hf hl hz hm
  obtain ⟨PQ, hPQ⟩ : ∃ PQ : Ending → World → Prop, PQ = fun (e : Ending) (w' : World) => e = .returned (.bool true) ∧ Below w.heap.size w w' := ⟨_, rfl⟩
  have HPQ : Hid (PQ = fun (e : Ending) (w' : World) => e = .returned (.bool true) ∧ Below w.heap.size w w') := hPQ
  rw [← hPQ]
  clear hPQ
  have R0 : Hid (Loc w w []) := Loc.nil (Below.refl _ w)
  go_enter Try.func3, Try.ntmps3
  go_upto_region 0 with fail
  refine wp_region_lit ?_
  refine wl rfl (ptr w.heap.size) _ (run_boxA (.tmp 0) rfl (rcells r vc) rfl) ?_
  have k_ := R0.out.box 26 (rcells r vc)
  obtain ⟨w1, hW_⟩ : ∃ W, W = w.alloc (.cells (rcells r vc).toArray 26) := ⟨_, rfl⟩
  obtain ⟨q1, hq_⟩ : ∃ q, q = w.heap.size := ⟨_, rfl⟩
  rw [← hW_, ← hq_] at k_
  rw [← hW_, ← hq_]
  clear hq_
  have Rw1 : Hid (Loc w w1 [(q1, 26, rcells r vc)]) := k_
  clear k_ hW_ R0
  simp only [Act.put, List.setIfInBounds_toArray, List.set_cons_succ, List.set_cons_zero]
  refine wl rfl (.bool false) _ (run_asZ (.const (.bool false)) rfl (.bool false) rfl) ?_
  simp only [Act.put, List.setIfInBounds_toArray, List.set_cons_succ, List.set_cons_zero]
  refine wpList_nil ?_
  go_upto_region 1 with fail
  refine wp_region_lit ?_
  refine wpList_callW eN9 [] _ rfl rfl [] rfl ?_
  refine (shown_any w1).mono ?_
  rintro e w2 ⟨rfl, b_⟩
  refine ⟨_, rfl, ?_⟩
  have Rw2 : Hid (Loc w w2 [(q1, 26, rcells r vc)]) := Rw1.out.later b_
  clear Rw1 b_
  simp only [Act.put, List.setIfInBounds_toArray, List.set_cons_succ, List.set_cons_zero]
  refine wl rfl (.bool true) _ (run_asZ (.tmp 14) rfl (.bool true) rfl) ?_
  simp only [Act.put, List.setIfInBounds_toArray, List.set_cons_succ, List.set_cons_zero]
  refine wpList_nil ?_
  go_upto_region 2 with fail
  refine wp_region_lit ?_
  refine wl rfl (.bool true) _ (run_mvZ (.tmp 5) rfl (.bool true) rfl) ?_
  simp only [Act.put, List.setIfInBounds_toArray, List.set_cons_succ, List.set_cons_zero]
  refine wl rfl (.bool false) _ (run_not (.tmp 15) 4 rfl true rfl) ?_
  simp only [Act.put, List.setIfInBounds_toArray, List.set_cons_succ, List.set_cons_zero]
  refine wpList_nil ?_
  by_cases hg : r.gone = true
  · have HGo : Hid (r.gone = true) := hg
    clear hg
    go_upto_region 4 with fail
    refine wp_region_lit ?_
    refine wl rfl (.pointer (some ⟨q1, 0 + 37, none⟩)) _ (run_fieldOp' f26_6 (.tmp 2) rfl q1 (0) rfl) ?_
    simp only [Act.put, List.setIfInBounds_toArray, List.set_cons_succ, List.set_cons_zero]
    refine wl rfl (.bool true) _ (run_load1 o4 (.tmp 17) rfl q1 (0 + 37) rfl (.bool true) (Rw2.out.fld 0 rfl (HF.out.1.rok).root 3 _ (by rw [← HGo.out]; rfl))) ?_
    simp only [Act.put, List.setIfInBounds_toArray, List.set_cons_succ, List.set_cons_zero]
    refine wpList_nil ?_
    go_upto_region 5 with fail
    refine wp_region_lit ?_
    refine wl rfl (.bool true) _ (run_mvZ (.tmp 5) rfl (.bool true) rfl) ?_
    simp only [Act.put, List.setIfInBounds_toArray, List.set_cons_succ, List.set_cons_zero]
    refine wl rfl (.bool true) _ (run_asZ (.tmp 19) rfl (.bool true) rfl) ?_
    simp only [Act.put, List.setIfInBounds_toArray, List.set_cons_succ, List.set_cons_zero]
    refine wpList_nil ?_
    go_wp2_with fail
    first | (rw [HPQ.out]; exact ⟨rfl, Rw2.out.below⟩) | (go_ret; rw [HPQ.out]; exact ⟨rfl, Rw2.out.below⟩)
  have HGo : Hid (r.gone = false) := eq_false_of_ne_true hg
  clear hg
  go_upto_region 4 with fail
  refine wp_region_lit ?_
  refine wl rfl (.pointer (some ⟨q1, 0 + 37, none⟩)) _ (run_fieldOp' f26_6 (.tmp 2) rfl q1 (0) rfl) ?_
  simp only [Act.put, List.setIfInBounds_toArray, List.set_cons_succ, List.set_cons_zero]
  refine wl rfl (.bool false) _ (run_load1 o4 (.tmp 17) rfl q1 (0 + 37) rfl (.bool false) (Rw2.out.fld 0 rfl (HF.out.1.rok).root 3 _ (by rw [← HGo.out]; rfl))) ?_
  simp only [Act.put, List.setIfInBounds_toArray, List.set_cons_succ, List.set_cons_zero]
  refine wpList_nil ?_
  go_upto_region 6 with fail
  refine wp_region_lit ?_
  refine wl rfl (.agg (rcells r vc).toArray) _ (run_loadA ag26 (.tmp 2) rfl q1 (0) rfl (rcells r vc) (HF.out.1.rok).len (Rw2.out.rows 0 rfl)) ?_
  simp only [Act.put, List.setIfInBounds_toArray, List.set_cons_succ, List.set_cons_zero]
  refine wpList_callW eN10 [.tmp 20] _ rfl rfl [(.agg (rcells r vc).toArray)] rfl ?_
  refine (copied_any r vc w2 (HF.out.1.later Rw2.out.below) (by have := HF.out.2.2.2.2.1; omega)).mono ?_
  rintro e w3 ⟨v0, rfl, b_, o_⟩
  refine ⟨_, rfl, ?_⟩
  have K1 : Hid (POwn w3 w.heap.size v0 r.cp) := o_.weaken Rw2.out.below.size
  clear o_
  have Rw3 : Hid (Loc w w3 [(q1, 26, rcells r vc)]) := Rw2.out.later b_
  clear Rw2 b_
  simp only [Act.put, List.setIfInBounds_toArray, List.set_cons_succ, List.set_cons_zero]
  refine wl rfl (ptr w3.heap.size) _ (run_allocA (rcells rz (.slice none 0 0)) zero26 rfl) ?_
  have k_ := Rw3.out.box 26 (rcells rz (.slice none 0 0))
  have hB_ := below_alloc w3 (.cells (rcells rz (.slice none 0 0)).toArray 26)
  obtain ⟨w4, hW_⟩ : ∃ U_ : World, U_ = w3.alloc (.cells (rcells rz (.slice none 0 0)).toArray 26) := ⟨_, rfl⟩
  obtain ⟨qa, hq_⟩ : ∃ q, q = w3.heap.size := ⟨_, rfl⟩
  rw [← hW_, ← hq_] at k_
  rw [← hW_] at hB_
  rw [← hW_, ← hq_]
  clear hq_
  have K1x : Hid (POwn w4 w.heap.size v0 r.cp) := K1.out.later hB_
  clear K1
  have K1 := K1x
  clear K1x
  have Rw4 : Hid (Loc w w4 [(q1, 26, rcells r vc), (qa, 26, rcells rz (.slice none 0 0))]) := k_
  clear k_ hW_ Rw3
  clear hB_
  simp only [Act.put, List.setIfInBounds_toArray, List.set_cons_succ, List.set_cons_zero]
  obtain ⟨hst_, k_, hC_⟩ := Rw4.out.st26 1 rfl (Rok.nil).len (rcells r v0) ((show Rok r v0 from ⟨HRt.out.1, HRt.out.2, K1.out.isSl⟩)).len ((show Rok r v0 from ⟨HRt.out.1, HRt.out.2, K1.out.isSl⟩)).one
  have hR_ := Rw4.out.at 1 rfl
  refine wlS rfl rfl _ (run_stV (.tmp 6) (.tmp 21) rfl qa 0 rfl _ rfl hst_) ?_
  obtain ⟨w5, hW_⟩ : ∃ U_ : World, U_ = w4.setRow qa (rcells r v0).toArray := ⟨_, rfl⟩
  rw [← hW_] at k_ hC_ ⊢
  clear hst_
  have K1x : Hid (POwn w5 w.heap.size v0 r.cp) := K1.out.off hR_ (by decide) hC_
  clear K1
  have K1 := K1x
  clear K1x
  have Rw5 : Hid (Loc w w5 [(q1, 26, rcells r vc), (qa, 26, rcells r v0)]) := k_
  clear k_ hW_ Rw4
  clear hC_ hR_
  refine wpList_nil ?_
  go_upto_region 7 with fail
  refine wp_region_lit ?_
  refine wl rfl (.agg (rcells r vc).toArray) _ (run_loadA ag26 (.tmp 2) rfl q1 (0) rfl (rcells r vc) (HF.out.1.rok).len (Rw5.out.rows 0 rfl)) ?_
  simp only [Act.put, List.setIfInBounds_toArray, List.set_cons_succ, List.set_cons_zero]
  refine wpList_callW eN10 [.tmp 22] _ rfl rfl [(.agg (rcells r vc).toArray)] rfl ?_
  refine (copied_any r vc w5 (HF.out.1.later Rw5.out.below) (by have := HF.out.2.2.2.2.1; omega)).mono ?_
  rintro e w6 ⟨v1, rfl, b_, o_⟩
  refine ⟨_, rfl, ?_⟩
  have K1x : Hid (POwn w6 w.heap.size v0 r.cp) := K1.out.later b_
  clear K1
  have K1 := K1x
  clear K1x
  have K2 : Hid (POwn w6 w.heap.size v1 r.cp) := o_.weaken Rw5.out.below.size
  clear o_
  have Rw6 : Hid (Loc w w6 [(q1, 26, rcells r vc), (qa, 26, rcells r v0)]) := Rw5.out.later b_
  clear Rw5 b_
  simp only [Act.put, List.setIfInBounds_toArray, List.set_cons_succ, List.set_cons_zero]
  refine wl rfl (ptr w6.heap.size) _ (run_allocA (rcells rz (.slice none 0 0)) zero26 rfl) ?_
  have k_ := Rw6.out.box 26 (rcells rz (.slice none 0 0))
  have hB_ := below_alloc w6 (.cells (rcells rz (.slice none 0 0)).toArray 26)
  obtain ⟨w7, hW_⟩ : ∃ U_ : World, U_ = w6.alloc (.cells (rcells rz (.slice none 0 0)).toArray 26) := ⟨_, rfl⟩
  obtain ⟨qb, hq_⟩ : ∃ q, q = w6.heap.size := ⟨_, rfl⟩
  rw [← hW_, ← hq_] at k_
  rw [← hW_] at hB_
  rw [← hW_, ← hq_]
  clear hq_
  have K1x : Hid (POwn w7 w.heap.size v0 r.cp) := K1.out.later hB_
  clear K1
  have K1 := K1x
  clear K1x
  have K2x : Hid (POwn w7 w.heap.size v1 r.cp) := K2.out.later hB_
  clear K2
  have K2 := K2x
  clear K2x
  have Rw7 : Hid (Loc w w7 [(q1, 26, rcells r vc), (qa, 26, rcells r v0), (qb, 26, rcells rz (.slice none 0 0))]) := k_
  clear k_ hW_ Rw6
  clear hB_
  simp only [Act.put, List.setIfInBounds_toArray, List.set_cons_succ, List.set_cons_zero]
  obtain ⟨hst_, k_, hC_⟩ := Rw7.out.st26 2 rfl (Rok.nil).len (rcells r v1) ((show Rok r v1 from ⟨HRt.out.1, HRt.out.2, K2.out.isSl⟩)).len ((show Rok r v1 from ⟨HRt.out.1, HRt.out.2, K2.out.isSl⟩)).one
  have hR_ := Rw7.out.at 2 rfl
  refine wlS rfl rfl _ (run_stV (.tmp 7) (.tmp 23) rfl qb 0 rfl _ rfl hst_) ?_
  obtain ⟨w8, hW_⟩ : ∃ U_ : World, U_ = w7.setRow qb (rcells r v1).toArray := ⟨_, rfl⟩
  rw [← hW_] at k_ hC_ ⊢
  clear hst_
  have K1x : Hid (POwn w8 w.heap.size v0 r.cp) := K1.out.off hR_ (by decide) hC_
  clear K1
  have K1 := K1x
  clear K1x
  have K2x : Hid (POwn w8 w.heap.size v1 r.cp) := K2.out.off hR_ (by decide) hC_
  clear K2
  have K2 := K2x
  clear K2x
  have Rw8 : Hid (Loc w w8 [(q1, 26, rcells r vc), (qa, 26, rcells r v0), (qb, 26, rcells r v1)]) := k_
  clear k_ hW_ Rw7
  clear hC_ hR_
  refine wpList_nil ?_
  go_upto_region 8 with fail
  refine wp_region_lit ?_
  refine wl rfl (.pointer (some ⟨q1, 0 + 35, none⟩)) _ (run_fieldOp' f26_4 (.tmp 2) rfl q1 (0) rfl) ?_
  simp only [Act.put, List.setIfInBounds_toArray, List.set_cons_succ, List.set_cons_zero]
  refine wl rfl (.int .i64 r.expiry) _ (run_load1 o3 (.tmp 24) rfl q1 (0 + 35) rfl (.int .i64 r.expiry) (Rw8.out.fld 0 rfl (HF.out.1.rok).root 1 _ rfl)) ?_
  simp only [Act.put, List.setIfInBounds_toArray, List.set_cons_succ, List.set_cons_zero]
  refine wl rfl (.int .i64 r.expiry) _ (run_asZ (.tmp 25) rfl (.int .i64 r.expiry) rfl) ?_
  simp only [Act.put, List.setIfInBounds_toArray, List.set_cons_succ, List.set_cons_zero]
  refine wpList_nil ?_
  go_upto_region 9 with fail
  refine wp_region_lit ?_
  refine wl rfl (.int .i64 0) _ (run_asZ (.const (.int .i64 0)) rfl (.int .i64 0) rfl) ?_
  simp only [Act.put, List.setIfInBounds_toArray, List.set_cons_succ, List.set_cons_zero]
  refine wpList_nil ?_
  go_wp2_with fail
  go_loopw [8, 9] (fun v8 v9 W => ∃ (E : Int) (i : Nat), v8 = .int .i64 E ∧ v9 = .int .i64 (i : Nat) ∧ i ≤ m ∧ Hid (∃ F va vb, Loc w W [(q1, 26, rcells r vc), (qa, 26, rcells (aEx r E) va), (qb, 26, rcells (aEx r F) vb)] ∧ POwn W w.heap.size va r.cp ∧ POwn W w.heap.size vb r.cp ∧ E = topF r.expiry (l.take i) ∧ F = topF r.expiry (l.reverse.take i))) (fun _ v9 _ => m - (intOf v9).toNat)
  case atStart => exact ⟨r.expiry, 0, rfl, rfl, Nat.zero_le _, ⟨r.expiry, v0, v1, Rw8.out, K1.out, K2.out, rfl, rfl⟩⟩
  case round =>
    clear Rw8 K1 K2
    obtain ⟨E, i, rfl, rfl, hi, hS_⟩ := hrel
    obtain ⟨F, va, vb, h1_, h2_, h3_, h4_, h5_⟩ := hS_.out
    have RA : Hid (Loc w wr [(q1, 26, rcells r vc), (qa, 26, rcells (aEx r E) va), (qb, 26, rcells (aEx r F) vb)]) := h1_
    have K1 : Hid (POwn wr w.heap.size va r.cp) := h2_
    have K2 : Hid (POwn wr w.heap.size vb r.cp) := h3_
    have HE : Hid (E = topF r.expiry (l.take i) ∧ F = topF r.expiry (l.reverse.take i)) := ⟨h4_, h5_⟩
    clear h1_ h2_ h3_ h4_ h5_ hS_
    by_cases hlt : i < m
    · have HD : Hid (decide (i < m) = true) := decide_eq_true hlt
      go_upto_region 10 with fail
      refine wp_region_lit ?_
      refine wl rfl (.int .i64 (i : Nat)) _ (run_mvZ (.tmp 9) rfl (.int .i64 (i : Nat)) rfl) ?_
      simp only [Act.put, List.setIfInBounds_toArray, List.set_cons_succ, List.set_cons_zero]
      refine wl rfl vl _ (run_mvZ (.tmp 1) rfl vl rfl) ?_
      simp only [Act.put, List.setIfInBounds_toArray, List.set_cons_succ, List.set_cons_zero]
      refine wl rfl (.int .i64 (m : Nat)) _ ((by rw [HF.out.2.2.1]; exact run_lenN HF.out.2.1 (.tmp 27) rfl rfl)) ?_
      simp only [Act.put, List.setIfInBounds_toArray, List.set_cons_succ, List.set_cons_zero]
      refine wl rfl (.bool true) _ (run_lssN (.tmp 26) (.tmp 28) rfl i m rfl rfl true HD.out) ?_
      simp only [Act.put, List.setIfInBounds_toArray, List.set_cons_succ, List.set_cons_zero]
      refine wpList_nil ?_
      obtain ⟨u, hu⟩ : ∃ x, l[i]? = some x := ⟨_, List.getElem?_eq_getElem (by rw [← HF.out.2.2.1]; exact hlt)⟩
      have hlm : m - 1 - i < l.length := by rw [← HF.out.2.2.1]; omega
      obtain ⟨z, hz⟩ : ∃ x, l[m - 1 - i]? = some x := ⟨_, List.getElem?_eq_getElem hlm⟩
      obtain ⟨b1, o1, i1_, c1_⟩ : ∃ b off, (∀ w', (Instr.indexAt 27 vl (.int .i64 (i : Nat))).run Try.prog w' = .ok (.pointer (some ⟨b, off, none⟩)) w') ∧ w.cell? ⟨b, off, none⟩ = some (.int .i64 u) := by obtain ⟨_, _, _, _, h⟩ := HF.out.2.1; exact h i u hu
      obtain ⟨b2, o2, i2_, c2_⟩ : ∃ b off, (∀ w', (Instr.indexAt 27 vl (.int .i64 ((m - 1 - i : Nat)))).run Try.prog w' = .ok (.pointer (some ⟨b, off, none⟩)) w') ∧ w.cell? ⟨b, off, none⟩ = some (.int .i64 z) := by obtain ⟨_, _, _, _, h⟩ := HF.out.2.1; exact h (m - 1 - i) z hz
      have hrev : l.reverse[i]? = some z := by rw [List.getElem?_reverse (by rw [← HF.out.2.2.1]; exact hlt), ← HF.out.2.2.1]; exact hz
      have HU : Hid (topF r.expiry (l.take (i + 1)) = stepU E u ∧ topF r.expiry (l.reverse.take (i + 1)) = stepU F z) := ⟨by rw [topF_snoc _ _ _ _ hu, ← HE.out.1], by rw [topF_snoc _ _ _ _ hrev, ← HE.out.2]⟩
      have HX : Hid ((∀ w', (Instr.indexAt 27 vl (.int .i64 (i : Nat))).run Try.prog w' = .ok (.pointer (some ⟨b1, o1, none⟩)) w') ∧ w.cell? ⟨b1, o1, none⟩ = some (.int .i64 u) ∧ (∀ w', (Instr.indexAt 27 vl (.int .i64 ((m - 1 - i : Nat)))).run Try.prog w' = .ok (.pointer (some ⟨b2, o2, none⟩)) w') ∧ w.cell? ⟨b2, o2, none⟩ = some (.int .i64 z)) := ⟨i1_, c1_, i2_, c2_⟩
      clear hu hlm hz hrev i1_ c1_ i2_ c2_ HE HD
      by_cases hbu : badU u = true
      · have HBu : Hid (badU u = true) := hbu
        clear hbu
        have HCl : Hid (∀ U, Fits U (aEx r E) va → Calls Try.prog 6 #[.agg (rcells (aEx r E) va).toArray, .int .i64 u] U fun e w' => ∃ v', e = .returned (.tuple #[.agg (rcells rz v').toArray, .int .i64 1]) ∧ Below U.heap.size U w' ∧ POwn w' U.heap.size v' rz.cp) := fun U h => by
          have h_ := lock_any (aEx r E) va u U h (show r.cp.length * 32 ≤ 140737488355328 by have := HF.out.2.2.2.2.1; omega)
          rw [lock_bad r E u HBu.out] at h_
          exact h_
        go_upto_region 12 with fail
        refine wp_region_held (S := fun X => Loc w X [(q1, 26, rcells r vc), (qa, 26, rcells (aEx r E) va), (qb, 26, rcells (aEx r F) vb)]) (by kernel_rfl) ?_
        show wpAnyH _ _ _ _ _ 12 (Array.replicate 12 false) _ _
        obtain ⟨X, hX⟩ : ∃ X : World, X = { wr with drawn := wr.drawn + 1 } := ⟨_, rfl⟩
        rw [← hX]
        have HS_ : Loc w X [(q1, 26, rcells r vc), (qa, 26, rcells (aEx r E) va), (qb, 26, rcells (aEx r F) vb)] := by rw [hX]; exact RA.out.drew
        have K1y : POwn X w.heap.size va r.cp := by rw [hX]; exact K1.out.later (Below.drewN (Below.refl _ _) 1)
        have K2y : POwn X w.heap.size vb r.cp := by rw [hX]; exact K2.out.later (Below.drewN (Below.refl _ _) 1)
        clear hX
        apply share3 (P := fun W q v => Hid (Loc w W [(q1, 26, rcells r vc), (qa, 26, rcells (aEx r E) va), (qb, 26, rcells (aEx r F) vb), (q, 26, rcells rz v)] ∧ POwn W w.heap.size va r.cp ∧ POwn W w.heap.size vb r.cp ∧ POwn W w.heap.size v rz.cp))
        intro hG
        have hX : True := trivial
        clear hX
        refine takeH (i := 0) (some 33) rfl rfl (by kernel_rfl) (by kernel_rfl) (by kernel_rfl) (fun _ _ _ h => h) (gRun rfl (.agg (rcells (aEx r E) va).toArray) fun _ h => run_loadA ag26 (.tmp 6) rfl qa (0) rfl (rcells (aEx r E) va) ((show Rok (aEx r E) va from ⟨HRt.out.1, HRt.out.2, K1.out.isSl⟩)).len (h.rows 1 rfl)) HS_ ?_
        simp only [Act.put, List.setIfInBounds_toArray, List.set_cons_succ, List.set_cons_zero]
        refine takeH (i := 1) (some 34) rfl rfl (by kernel_rfl) (by kernel_rfl) (by kernel_rfl) (fun _ _ _ h => h) (gRun rfl vl fun _ h => run_mvZ (.tmp 1) rfl vl rfl) HS_ ?_
        simp only [Act.put, List.setIfInBounds_toArray, List.set_cons_succ, List.set_cons_zero]
        refine takeH (i := 2) (some 35) rfl rfl (by kernel_rfl) (by kernel_rfl) (by kernel_rfl) (fun _ _ _ h => h) (gRun rfl (.int .i64 (i : Nat)) fun _ h => run_mvZ (.tmp 9) rfl (.int .i64 (i : Nat)) rfl) HS_ ?_
        simp only [Act.put, List.setIfInBounds_toArray, List.set_cons_succ, List.set_cons_zero]
        refine takeH (i := 3) (some 36) rfl rfl (by kernel_rfl) (by kernel_rfl) (by kernel_rfl) (fun _ _ _ h => h) (gRun rfl (.pointer (some ⟨b1, o1, none⟩)) fun _ h => run_idx (.tmp 34) (.tmp 35) rfl vl _ _ rfl rfl HX.out.1) HS_ ?_
        simp only [Act.put, List.setIfInBounds_toArray, List.set_cons_succ, List.set_cons_zero]
        refine takeH (i := 4) (some 37) rfl rfl (by kernel_rfl) (by kernel_rfl) (by kernel_rfl) (fun _ _ _ h => h) (gRun rfl (.int .i64 u) fun _ h => run_load1 o3 (.tmp 36) rfl b1 (o1) rfl (.int .i64 u) (cell_later HX.out.2.1 h.below)) HS_ ?_
        simp only [Act.put, List.setIfInBounds_toArray, List.set_cons_succ, List.set_cons_zero]
        refine twoH (i := 5) (j := 9) (by kernel_rfl) ?_ ?_
        · refine opCallG (some 38) rfl rfl rfl 6 _ (run_call eN11 [.tmp 33, .tmp 37] _ rfl [(.agg (rcells (aEx r E) va).toArray), (.int .i64 u)] rfl) ?_
          refine (HCl.out X ((show POwn X w.heap.size va (aEx r E).cp from K1y).fitR HRt.out HF.out.2.2.2.2.2)).mono ?_
          rintro e X1 ⟨vx, rfl, b_, o_⟩
          refine ⟨_, rfl, ?_⟩
          have K3y : POwn X1 w.heap.size vx rz.cp := o_.weaken HS_.below.size
          clear o_
          replace K1y : POwn X1 w.heap.size va r.cp := K1y.later b_
          replace K2y : POwn X1 w.heap.size vb r.cp := K2y.later b_
          replace HS_ := HS_.later b_
          clear b_
          refine ⟨HS_, ?_⟩
          simp only [Act.put, List.setIfInBounds_toArray, List.set_cons_succ, List.set_cons_zero]
          refine takeH (i := 6) (some 32) rfl rfl (by kernel_rfl) (by kernel_rfl) (by kernel_rfl) (fun _ _ _ h => h) (gRun rfl (.tuple #[(.agg (rcells rz vx).toArray), (.int .i64 1)]) fun _ h => run_mvZ (.tmp 38) rfl (.tuple #[(.agg (rcells rz vx).toArray), (.int .i64 1)]) rfl) HS_ ?_
          simp only [Act.put, List.setIfInBounds_toArray, List.set_cons_succ, List.set_cons_zero]
          refine takeH (i := 7) (some 39) rfl rfl (by kernel_rfl) (by kernel_rfl) (by kernel_rfl) (fun _ _ _ h => h) (gRun rfl (.agg (rcells rz vx).toArray) fun _ h => run_extZ (.tmp 32) 0 rfl #[(.agg (rcells rz vx).toArray), (.int .i64 1)] rfl (.agg (rcells rz vx).toArray) rfl) HS_ ?_
          simp only [Act.put, List.setIfInBounds_toArray, List.set_cons_succ, List.set_cons_zero]
          refine takeH (i := 8) (some 40) rfl rfl (by kernel_rfl) (by kernel_rfl) (by kernel_rfl) (fun _ _ _ h => h) (gRun rfl (.int .i64 1) fun _ h => run_extZ (.tmp 32) 1 rfl #[(.agg (rcells rz vx).toArray), (.int .i64 1)] rfl (.int .i64 1) rfl) HS_ ?_
          simp only [Act.put, List.setIfInBounds_toArray, List.set_cons_succ, List.set_cons_zero]
          refine oneH (i := 9) (by kernel_rfl) ?_
          refine opValueG (some 10) rfl rfl rfl (ptr X1.heap.size) _ (run_allocA (rcells rz (.slice none 0 0)) zero26 rfl) ?_
          have HL_ := HS_.box 26 (rcells rz (.slice none 0 0))
          have hB_ := below_alloc X1 (.cells (rcells rz (.slice none 0 0)).toArray 26)
          obtain ⟨X2, hW_⟩ : ∃ U_ : World, U_ = X1.alloc (.cells (rcells rz (.slice none 0 0)).toArray 26) := ⟨_, rfl⟩
          obtain ⟨qx, hq_⟩ : ∃ q, q = X1.heap.size := ⟨_, rfl⟩
          rw [← hW_, ← hq_] at HL_
          rw [← hW_] at hB_
          rw [← hW_, ← hq_]
          clear hW_ hq_
          replace HS_ := HS_.later hB_
          replace K1y : POwn X2 w.heap.size va r.cp := K1y.later hB_
          replace K2y : POwn X2 w.heap.size vb r.cp := K2y.later hB_
          replace K3y := K3y.later hB_
          clear hB_
          refine ⟨HS_, ?_⟩
          simp only [Act.put, List.setIfInBounds_toArray, List.set_cons_succ, List.set_cons_zero]
          refine oneH (i := 10) (by kernel_rfl) ?_
          obtain ⟨hst_, k_, hC_⟩ := HL_.st26 3 rfl (Rok.nil).len (rcells rz vx) ((show Rok rz vx from ⟨(rz_root).1, (rz_root).2, K3y.isSl⟩)).len ((show Rok rz vx from ⟨(rz_root).1, (rz_root).2, K3y.isSl⟩)).one
          have hR_ := HL_.at 3 rfl
          refine opSkipZ rfl rfl rfl _ (run_stV (.tmp 10) (.tmp 39) rfl qx 0 rfl _ rfl hst_) ?_
          obtain ⟨X3, hW_⟩ : ∃ U_ : World, U_ = X2.setRow qx (rcells rz vx).toArray := ⟨_, rfl⟩
          rw [← hW_] at k_ hC_ ⊢
          clear hst_ hW_
          replace K1y : POwn X3 w.heap.size va r.cp := K1y.off hR_ (by decide) hC_
          replace K2y : POwn X3 w.heap.size vb r.cp := K2y.off hR_ (by decide) hC_
          replace K3y := K3y.off hR_ (by decide) hC_
          clear hR_ hC_
          replace HS_ : Loc w X3 [(q1, 26, rcells r vc), (qa, 26, rcells (aEx r E) va), (qb, 26, rcells (aEx r F) vb)] := k_.take 3
          refine ⟨HS_, ?_⟩
          refine takeH (i := 11) (some 11) rfl rfl (by kernel_rfl) (by kernel_rfl) (by kernel_rfl) (fun _ _ _ h => h) (gRun rfl (.int .i64 1) fun _ h => run_asZ (.tmp 40) rfl (.int .i64 1) rfl) HS_ ?_
          simp only [Act.put, List.setIfInBounds_toArray, List.set_cons_succ, List.set_cons_zero]
          refine wpAnyH_done (by kernel_rfl) ?_ _
          exact hG X3 qx vx ⟨k_, K1y, K2y, K3y⟩
        · refine opValueG (some 10) rfl rfl rfl (ptr X.heap.size) _ (run_allocA (rcells rz (.slice none 0 0)) zero26 rfl) ?_
          have HL_ := HS_.box 26 (rcells rz (.slice none 0 0))
          have hB_ := below_alloc X (.cells (rcells rz (.slice none 0 0)).toArray 26)
          obtain ⟨X1, hW_⟩ : ∃ U_ : World, U_ = X.alloc (.cells (rcells rz (.slice none 0 0)).toArray 26) := ⟨_, rfl⟩
          obtain ⟨qx, hq_⟩ : ∃ q, q = X.heap.size := ⟨_, rfl⟩
          rw [← hW_, ← hq_] at HL_
          rw [← hW_] at hB_
          rw [← hW_, ← hq_]
          clear hW_ hq_
          replace HS_ := HS_.later hB_
          replace K1y : POwn X1 w.heap.size va r.cp := K1y.later hB_
          replace K2y : POwn X1 w.heap.size vb r.cp := K2y.later hB_
          clear hB_
          refine ⟨HS_, ?_⟩
          simp only [Act.put, List.setIfInBounds_toArray, List.set_cons_succ, List.set_cons_zero]
          refine oneH (i := 5) (by kernel_rfl) ?_
          refine opCallG (some 38) rfl rfl rfl 6 _ (run_call eN11 [.tmp 33, .tmp 37] _ rfl [(.agg (rcells (aEx r E) va).toArray), (.int .i64 u)] rfl) ?_
          refine (HCl.out X1 ((show POwn X1 w.heap.size va (aEx r E).cp from K1y).fitR HRt.out HF.out.2.2.2.2.2)).mono ?_
          rintro e X2 ⟨vx, rfl, b_, o_⟩
          refine ⟨_, rfl, ?_⟩
          have K3y : POwn X2 w.heap.size vx rz.cp := o_.weaken HS_.below.size
          clear o_
          replace K1y : POwn X2 w.heap.size va r.cp := K1y.later b_
          replace K2y : POwn X2 w.heap.size vb r.cp := K2y.later b_
          replace HS_ := HS_.later b_
          replace HL_ := HL_.later b_
          clear b_
          refine ⟨HS_, ?_⟩
          simp only [Act.put, List.setIfInBounds_toArray, List.set_cons_succ, List.set_cons_zero]
          refine takeH (i := 6) (some 32) rfl rfl (by kernel_rfl) (by kernel_rfl) (by kernel_rfl) (fun _ _ _ h => h) (gRun rfl (.tuple #[(.agg (rcells rz vx).toArray), (.int .i64 1)]) fun _ h => run_mvZ (.tmp 38) rfl (.tuple #[(.agg (rcells rz vx).toArray), (.int .i64 1)]) rfl) HS_ ?_
          simp only [Act.put, List.setIfInBounds_toArray, List.set_cons_succ, List.set_cons_zero]
          refine takeH (i := 7) (some 39) rfl rfl (by kernel_rfl) (by kernel_rfl) (by kernel_rfl) (fun _ _ _ h => h) (gRun rfl (.agg (rcells rz vx).toArray) fun _ h => run_extZ (.tmp 32) 0 rfl #[(.agg (rcells rz vx).toArray), (.int .i64 1)] rfl (.agg (rcells rz vx).toArray) rfl) HS_ ?_
          simp only [Act.put, List.setIfInBounds_toArray, List.set_cons_succ, List.set_cons_zero]
          refine takeH (i := 8) (some 40) rfl rfl (by kernel_rfl) (by kernel_rfl) (by kernel_rfl) (fun _ _ _ h => h) (gRun rfl (.int .i64 1) fun _ h => run_extZ (.tmp 32) 1 rfl #[(.agg (rcells rz vx).toArray), (.int .i64 1)] rfl (.int .i64 1) rfl) HS_ ?_
          simp only [Act.put, List.setIfInBounds_toArray, List.set_cons_succ, List.set_cons_zero]
          refine oneH (i := 10) (by kernel_rfl) ?_
          obtain ⟨hst_, k_, hC_⟩ := HL_.st26 3 rfl (Rok.nil).len (rcells rz vx) ((show Rok rz vx from ⟨(rz_root).1, (rz_root).2, K3y.isSl⟩)).len ((show Rok rz vx from ⟨(rz_root).1, (rz_root).2, K3y.isSl⟩)).one
          have hR_ := HL_.at 3 rfl
          refine opSkipZ rfl rfl rfl _ (run_stV (.tmp 10) (.tmp 39) rfl qx 0 rfl _ rfl hst_) ?_
          obtain ⟨X3, hW_⟩ : ∃ U_ : World, U_ = X2.setRow qx (rcells rz vx).toArray := ⟨_, rfl⟩
          rw [← hW_] at k_ hC_ ⊢
          clear hst_ hW_
          replace K1y : POwn X3 w.heap.size va r.cp := K1y.off hR_ (by decide) hC_
          replace K2y : POwn X3 w.heap.size vb r.cp := K2y.off hR_ (by decide) hC_
          replace K3y := K3y.off hR_ (by decide) hC_
          clear hR_ hC_
          replace HS_ : Loc w X3 [(q1, 26, rcells r vc), (qa, 26, rcells (aEx r E) va), (qb, 26, rcells (aEx r F) vb)] := k_.take 3
          refine ⟨HS_, ?_⟩
          refine takeH (i := 11) (some 11) rfl rfl (by kernel_rfl) (by kernel_rfl) (by kernel_rfl) (fun _ _ _ h => h) (gRun rfl (.int .i64 1) fun _ h => run_asZ (.tmp 40) rfl (.int .i64 1) rfl) HS_ ?_
          simp only [Act.put, List.setIfInBounds_toArray, List.set_cons_succ, List.set_cons_zero]
          refine wpAnyH_done (by kernel_rfl) ?_ _
          exact hG X3 qx vx ⟨k_, K1y, K2y, K3y⟩
        clear RA HCl K1 K2
        intro w21 qx vx H5_
        have Rw21 : Hid (Loc w w21 [(q1, 26, rcells r vc), (qa, 26, rcells (aEx r E) va), (qb, 26, rcells (aEx r F) vb), (qx, 26, rcells rz vx)]) := H5_.out.1
        have K1 : Hid (POwn w21 w.heap.size va r.cp) := H5_.out.2.1
        have K2 : Hid (POwn w21 w.heap.size vb r.cp) := H5_.out.2.2.1
        have K3 : Hid (POwn w21 w.heap.size vx rz.cp) := H5_.out.2.2.2
        clear H5_
        go_upto_region 13 with fail
        refine wp_region_lit ?_
        refine wl rfl (.int .i64 1) _ (run_mvZ (.tmp 11) rfl (.int .i64 1) rfl) ?_
        simp only [Act.put, List.setIfInBounds_toArray, List.set_cons_succ, List.set_cons_zero]
        refine wl rfl (.bool false) _ (run_eqZ (.tmp 41) (.const (.int .i64 0)) rfl (1) (0) rfl rfl false rfl) ?_
        simp only [Act.put, List.setIfInBounds_toArray, List.set_cons_succ, List.set_cons_zero]
        refine wpList_nil ?_
        by_cases hbz : badU z = true
        · have HBz : Hid (badU z = true) := hbz
          clear hbz
          have HCl : Hid (∀ U, Fits U (aEx r F) vb → Calls Try.prog 6 #[.agg (rcells (aEx r F) vb).toArray, .int .i64 z] U fun e w' => ∃ v', e = .returned (.tuple #[.agg (rcells rz v').toArray, .int .i64 1]) ∧ Below U.heap.size U w' ∧ POwn w' U.heap.size v' rz.cp) := fun U h => by
            have h_ := lock_any (aEx r F) vb z U h (show r.cp.length * 32 ≤ 140737488355328 by have := HF.out.2.2.2.2.1; omega)
            rw [lock_bad r F z HBz.out] at h_
            exact h_
          go_upto_region 16 with fail
          refine wp_region_held (S := fun X => Loc w X [(q1, 26, rcells r vc), (qa, 26, rcells (aEx r E) va), (qb, 26, rcells (aEx r F) vb), (qx, 26, rcells rz vx)]) (by kernel_rfl) ?_
          show wpAnyH _ _ _ _ _ 16 (Array.replicate 16 false) _ _
          obtain ⟨X, hX⟩ : ∃ X : World, X = { w21 with drawn := w21.drawn + 1 } := ⟨_, rfl⟩
          rw [← hX]
          have HS_ : Loc w X [(q1, 26, rcells r vc), (qa, 26, rcells (aEx r E) va), (qb, 26, rcells (aEx r F) vb), (qx, 26, rcells rz vx)] := by rw [hX]; exact Rw21.out.drew
          have K1y : POwn X w.heap.size va r.cp := by rw [hX]; exact K1.out.later (Below.drewN (Below.refl _ _) 1)
          have K2y : POwn X w.heap.size vb r.cp := by rw [hX]; exact K2.out.later (Below.drewN (Below.refl _ _) 1)
          have K3y : POwn X w.heap.size vx rz.cp := by rw [hX]; exact K3.out.later (Below.drewN (Below.refl _ _) 1)
          clear hX
          apply share3 (P := fun W q v => Hid (Loc w W [(q1, 26, rcells r vc), (qa, 26, rcells (aEx r E) va), (qb, 26, rcells (aEx r F) vb), (qx, 26, rcells rz vx), (q, 26, rcells rz v)] ∧ POwn W w.heap.size va r.cp ∧ POwn W w.heap.size vb r.cp ∧ POwn W w.heap.size vx rz.cp ∧ POwn W w.heap.size v rz.cp))
          intro hG
          have hX : True := trivial
          clear hX
          refine takeH (i := 0) (some 51) rfl rfl (by kernel_rfl) (by kernel_rfl) (by kernel_rfl) (fun _ _ _ h => h) (gRun rfl (.agg (rcells (aEx r F) vb).toArray) fun _ h => run_loadA ag26 (.tmp 7) rfl qb (0) rfl (rcells (aEx r F) vb) ((show Rok (aEx r F) vb from ⟨HRt.out.1, HRt.out.2, K2.out.isSl⟩)).len (h.rows 2 rfl)) HS_ ?_
          simp only [Act.put, List.setIfInBounds_toArray, List.set_cons_succ, List.set_cons_zero]
          refine takeH (i := 1) (some 52) rfl rfl (by kernel_rfl) (by kernel_rfl) (by kernel_rfl) (fun _ _ _ h => h) (gRun rfl vl fun _ h => run_mvZ (.tmp 1) rfl vl rfl) HS_ ?_
          simp only [Act.put, List.setIfInBounds_toArray, List.set_cons_succ, List.set_cons_zero]
          refine takeH (i := 2) (some 53) rfl rfl (by kernel_rfl) (by kernel_rfl) (by kernel_rfl) (fun _ _ _ h => h) (gRun rfl vl fun _ h => run_mvZ (.tmp 1) rfl vl rfl) HS_ ?_
          simp only [Act.put, List.setIfInBounds_toArray, List.set_cons_succ, List.set_cons_zero]
          refine takeH (i := 3) (some 54) rfl rfl (by kernel_rfl) (by kernel_rfl) (by kernel_rfl) (fun _ _ _ h => h) (gRun rfl (.int .i64 (m : Nat)) fun _ h => (by rw [HF.out.2.2.1]; exact run_lenN HF.out.2.1 (.tmp 53) rfl rfl)) HS_ ?_
          simp only [Act.put, List.setIfInBounds_toArray, List.set_cons_succ, List.set_cons_zero]
          refine takeH (i := 4) (some 55) rfl rfl (by kernel_rfl) (by kernel_rfl) (by kernel_rfl) (fun _ _ _ h => h) (gRun rfl (.int .i64 ((m - 1 : Nat))) fun _ h => run_subN (.tmp 54) (.const (.int .i64 1)) rfl m 1 rfl rfl (by omega) HF.out.2.2.2.1) HS_ ?_
          simp only [Act.put, List.setIfInBounds_toArray, List.set_cons_succ, List.set_cons_zero]
          refine takeH (i := 5) (some 56) rfl rfl (by kernel_rfl) (by kernel_rfl) (by kernel_rfl) (fun _ _ _ h => h) (gRun rfl (.int .i64 (i : Nat)) fun _ h => run_mvZ (.tmp 9) rfl (.int .i64 (i : Nat)) rfl) HS_ ?_
          simp only [Act.put, List.setIfInBounds_toArray, List.set_cons_succ, List.set_cons_zero]
          refine takeH (i := 6) (some 57) rfl rfl (by kernel_rfl) (by kernel_rfl) (by kernel_rfl) (fun _ _ _ h => h) (gRun rfl (.int .i64 ((m - 1 - i : Nat))) fun _ h => run_subN (.tmp 55) (.tmp 56) rfl (m - 1) i rfl rfl (by omega) (by have := HF.out.2.2.2.1; omega)) HS_ ?_
          simp only [Act.put, List.setIfInBounds_toArray, List.set_cons_succ, List.set_cons_zero]
          refine takeH (i := 7) (some 58) rfl rfl (by kernel_rfl) (by kernel_rfl) (by kernel_rfl) (fun _ _ _ h => h) (gRun rfl (.pointer (some ⟨b2, o2, none⟩)) fun _ h => run_idx (.tmp 52) (.tmp 57) rfl vl _ _ rfl rfl HX.out.2.2.1) HS_ ?_
          simp only [Act.put, List.setIfInBounds_toArray, List.set_cons_succ, List.set_cons_zero]
          refine takeH (i := 8) (some 59) rfl rfl (by kernel_rfl) (by kernel_rfl) (by kernel_rfl) (fun _ _ _ h => h) (gRun rfl (.int .i64 z) fun _ h => run_load1 o3 (.tmp 58) rfl b2 (o2) rfl (.int .i64 z) (cell_later HX.out.2.2.2 h.below)) HS_ ?_
          simp only [Act.put, List.setIfInBounds_toArray, List.set_cons_succ, List.set_cons_zero]
          refine twoH (i := 9) (j := 13) (by kernel_rfl) ?_ ?_
          · refine opCallG (some 60) rfl rfl rfl 6 _ (run_call eN11 [.tmp 51, .tmp 59] _ rfl [(.agg (rcells (aEx r F) vb).toArray), (.int .i64 z)] rfl) ?_
            refine (HCl.out X ((show POwn X w.heap.size vb (aEx r F).cp from K2y).fitR HRt.out HF.out.2.2.2.2.2)).mono ?_
            rintro e X1 ⟨vy, rfl, b_, o_⟩
            refine ⟨_, rfl, ?_⟩
            have K4y : POwn X1 w.heap.size vy rz.cp := o_.weaken HS_.below.size
            clear o_
            replace K1y : POwn X1 w.heap.size va r.cp := K1y.later b_
            replace K2y : POwn X1 w.heap.size vb r.cp := K2y.later b_
            replace K3y : POwn X1 w.heap.size vx rz.cp := K3y.later b_
            replace HS_ := HS_.later b_
            clear b_
            refine ⟨HS_, ?_⟩
            simp only [Act.put, List.setIfInBounds_toArray, List.set_cons_succ, List.set_cons_zero]
            refine takeH (i := 10) (some 50) rfl rfl (by kernel_rfl) (by kernel_rfl) (by kernel_rfl) (fun _ _ _ h => h) (gRun rfl (.tuple #[(.agg (rcells rz vy).toArray), (.int .i64 1)]) fun _ h => run_mvZ (.tmp 60) rfl (.tuple #[(.agg (rcells rz vy).toArray), (.int .i64 1)]) rfl) HS_ ?_
            simp only [Act.put, List.setIfInBounds_toArray, List.set_cons_succ, List.set_cons_zero]
            refine takeH (i := 11) (some 61) rfl rfl (by kernel_rfl) (by kernel_rfl) (by kernel_rfl) (fun _ _ _ h => h) (gRun rfl (.agg (rcells rz vy).toArray) fun _ h => run_extZ (.tmp 50) 0 rfl #[(.agg (rcells rz vy).toArray), (.int .i64 1)] rfl (.agg (rcells rz vy).toArray) rfl) HS_ ?_
            simp only [Act.put, List.setIfInBounds_toArray, List.set_cons_succ, List.set_cons_zero]
            refine takeH (i := 12) (some 62) rfl rfl (by kernel_rfl) (by kernel_rfl) (by kernel_rfl) (fun _ _ _ h => h) (gRun rfl (.int .i64 1) fun _ h => run_extZ (.tmp 50) 1 rfl #[(.agg (rcells rz vy).toArray), (.int .i64 1)] rfl (.int .i64 1) rfl) HS_ ?_
            simp only [Act.put, List.setIfInBounds_toArray, List.set_cons_succ, List.set_cons_zero]
            refine oneH (i := 13) (by kernel_rfl) ?_
            refine opValueG (some 12) rfl rfl rfl (ptr X1.heap.size) _ (run_allocA (rcells rz (.slice none 0 0)) zero26 rfl) ?_
            have HL_ := HS_.box 26 (rcells rz (.slice none 0 0))
            have hB_ := below_alloc X1 (.cells (rcells rz (.slice none 0 0)).toArray 26)
            obtain ⟨X2, hW_⟩ : ∃ U_ : World, U_ = X1.alloc (.cells (rcells rz (.slice none 0 0)).toArray 26) := ⟨_, rfl⟩
            obtain ⟨qy, hq_⟩ : ∃ q, q = X1.heap.size := ⟨_, rfl⟩
            rw [← hW_, ← hq_] at HL_
            rw [← hW_] at hB_
            rw [← hW_, ← hq_]
            clear hW_ hq_
            replace HS_ := HS_.later hB_
            replace K1y : POwn X2 w.heap.size va r.cp := K1y.later hB_
            replace K2y : POwn X2 w.heap.size vb r.cp := K2y.later hB_
            replace K3y : POwn X2 w.heap.size vx rz.cp := K3y.later hB_
            replace K4y := K4y.later hB_
            clear hB_
            refine ⟨HS_, ?_⟩
            simp only [Act.put, List.setIfInBounds_toArray, List.set_cons_succ, List.set_cons_zero]
            refine oneH (i := 14) (by kernel_rfl) ?_
            obtain ⟨hst_, k_, hC_⟩ := HL_.st26 4 rfl (Rok.nil).len (rcells rz vy) ((show Rok rz vy from ⟨(rz_root).1, (rz_root).2, K4y.isSl⟩)).len ((show Rok rz vy from ⟨(rz_root).1, (rz_root).2, K4y.isSl⟩)).one
            have hR_ := HL_.at 4 rfl
            refine opSkipZ rfl rfl rfl _ (run_stV (.tmp 12) (.tmp 61) rfl qy 0 rfl _ rfl hst_) ?_
            obtain ⟨X3, hW_⟩ : ∃ U_ : World, U_ = X2.setRow qy (rcells rz vy).toArray := ⟨_, rfl⟩
            rw [← hW_] at k_ hC_ ⊢
            clear hst_ hW_
            replace K1y : POwn X3 w.heap.size va r.cp := K1y.off hR_ (by decide) hC_
            replace K2y : POwn X3 w.heap.size vb r.cp := K2y.off hR_ (by decide) hC_
            replace K3y : POwn X3 w.heap.size vx rz.cp := K3y.off hR_ (by decide) hC_
            replace K4y := K4y.off hR_ (by decide) hC_
            clear hR_ hC_
            replace HS_ : Loc w X3 [(q1, 26, rcells r vc), (qa, 26, rcells (aEx r E) va), (qb, 26, rcells (aEx r F) vb), (qx, 26, rcells rz vx)] := k_.take 4
            refine ⟨HS_, ?_⟩
            refine takeH (i := 15) (some 13) rfl rfl (by kernel_rfl) (by kernel_rfl) (by kernel_rfl) (fun _ _ _ h => h) (gRun rfl (.int .i64 1) fun _ h => run_asZ (.tmp 62) rfl (.int .i64 1) rfl) HS_ ?_
            simp only [Act.put, List.setIfInBounds_toArray, List.set_cons_succ, List.set_cons_zero]
            refine wpAnyH_done (by kernel_rfl) ?_ _
            exact hG X3 qy vy ⟨k_, K1y, K2y, K3y, K4y⟩
          · refine opValueG (some 12) rfl rfl rfl (ptr X.heap.size) _ (run_allocA (rcells rz (.slice none 0 0)) zero26 rfl) ?_
            have HL_ := HS_.box 26 (rcells rz (.slice none 0 0))
            have hB_ := below_alloc X (.cells (rcells rz (.slice none 0 0)).toArray 26)
            obtain ⟨X1, hW_⟩ : ∃ U_ : World, U_ = X.alloc (.cells (rcells rz (.slice none 0 0)).toArray 26) := ⟨_, rfl⟩
            obtain ⟨qy, hq_⟩ : ∃ q, q = X.heap.size := ⟨_, rfl⟩
            rw [← hW_, ← hq_] at HL_
            rw [← hW_] at hB_
            rw [← hW_, ← hq_]
            clear hW_ hq_
            replace HS_ := HS_.later hB_
            replace K1y : POwn X1 w.heap.size va r.cp := K1y.later hB_
            replace K2y : POwn X1 w.heap.size vb r.cp := K2y.later hB_
            replace K3y : POwn X1 w.heap.size vx rz.cp := K3y.later hB_
            clear hB_
            refine ⟨HS_, ?_⟩
            simp only [Act.put, List.setIfInBounds_toArray, List.set_cons_succ, List.set_cons_zero]
            refine oneH (i := 9) (by kernel_rfl) ?_
            refine opCallG (some 60) rfl rfl rfl 6 _ (run_call eN11 [.tmp 51, .tmp 59] _ rfl [(.agg (rcells (aEx r F) vb).toArray), (.int .i64 z)] rfl) ?_
            refine (HCl.out X1 ((show POwn X1 w.heap.size vb (aEx r F).cp from K2y).fitR HRt.out HF.out.2.2.2.2.2)).mono ?_
            rintro e X2 ⟨vy, rfl, b_, o_⟩
            refine ⟨_, rfl, ?_⟩
            have K4y : POwn X2 w.heap.size vy rz.cp := o_.weaken HS_.below.size
            clear o_
            replace K1y : POwn X2 w.heap.size va r.cp := K1y.later b_
            replace K2y : POwn X2 w.heap.size vb r.cp := K2y.later b_
            replace K3y : POwn X2 w.heap.size vx rz.cp := K3y.later b_
            replace HS_ := HS_.later b_
            replace HL_ := HL_.later b_
            clear b_
            refine ⟨HS_, ?_⟩
            simp only [Act.put, List.setIfInBounds_toArray, List.set_cons_succ, List.set_cons_zero]
            refine takeH (i := 10) (some 50) rfl rfl (by kernel_rfl) (by kernel_rfl) (by kernel_rfl) (fun _ _ _ h => h) (gRun rfl (.tuple #[(.agg (rcells rz vy).toArray), (.int .i64 1)]) fun _ h => run_mvZ (.tmp 60) rfl (.tuple #[(.agg (rcells rz vy).toArray), (.int .i64 1)]) rfl) HS_ ?_
            simp only [Act.put, List.setIfInBounds_toArray, List.set_cons_succ, List.set_cons_zero]
            refine takeH (i := 11) (some 61) rfl rfl (by kernel_rfl) (by kernel_rfl) (by kernel_rfl) (fun _ _ _ h => h) (gRun rfl (.agg (rcells rz vy).toArray) fun _ h => run_extZ (.tmp 50) 0 rfl #[(.agg (rcells rz vy).toArray), (.int .i64 1)] rfl (.agg (rcells rz vy).toArray) rfl) HS_ ?_
            simp only [Act.put, List.setIfInBounds_toArray, List.set_cons_succ, List.set_cons_zero]
            refine takeH (i := 12) (some 62) rfl rfl (by kernel_rfl) (by kernel_rfl) (by kernel_rfl) (fun _ _ _ h => h) (gRun rfl (.int .i64 1) fun _ h => run_extZ (.tmp 50) 1 rfl #[(.agg (rcells rz vy).toArray), (.int .i64 1)] rfl (.int .i64 1) rfl) HS_ ?_
            simp only [Act.put, List.setIfInBounds_toArray, List.set_cons_succ, List.set_cons_zero]
            refine oneH (i := 14) (by kernel_rfl) ?_
            obtain ⟨hst_, k_, hC_⟩ := HL_.st26 4 rfl (Rok.nil).len (rcells rz vy) ((show Rok rz vy from ⟨(rz_root).1, (rz_root).2, K4y.isSl⟩)).len ((show Rok rz vy from ⟨(rz_root).1, (rz_root).2, K4y.isSl⟩)).one
            have hR_ := HL_.at 4 rfl
            refine opSkipZ rfl rfl rfl _ (run_stV (.tmp 12) (.tmp 61) rfl qy 0 rfl _ rfl hst_) ?_
            obtain ⟨X3, hW_⟩ : ∃ U_ : World, U_ = X2.setRow qy (rcells rz vy).toArray := ⟨_, rfl⟩
            rw [← hW_] at k_ hC_ ⊢
            clear hst_ hW_
            replace K1y : POwn X3 w.heap.size va r.cp := K1y.off hR_ (by decide) hC_
            replace K2y : POwn X3 w.heap.size vb r.cp := K2y.off hR_ (by decide) hC_
            replace K3y : POwn X3 w.heap.size vx rz.cp := K3y.off hR_ (by decide) hC_
            replace K4y := K4y.off hR_ (by decide) hC_
            clear hR_ hC_
            replace HS_ : Loc w X3 [(q1, 26, rcells r vc), (qa, 26, rcells (aEx r E) va), (qb, 26, rcells (aEx r F) vb), (qx, 26, rcells rz vx)] := k_.take 4
            refine ⟨HS_, ?_⟩
            refine takeH (i := 15) (some 13) rfl rfl (by kernel_rfl) (by kernel_rfl) (by kernel_rfl) (fun _ _ _ h => h) (gRun rfl (.int .i64 1) fun _ h => run_asZ (.tmp 62) rfl (.int .i64 1) rfl) HS_ ?_
            simp only [Act.put, List.setIfInBounds_toArray, List.set_cons_succ, List.set_cons_zero]
            refine wpAnyH_done (by kernel_rfl) ?_ _
            exact hG X3 qy vy ⟨k_, K1y, K2y, K3y, K4y⟩
          clear Rw21 HCl K1 K2 K3
          intro w22 qy vy H5_
          have Rw22 : Hid (Loc w w22 [(q1, 26, rcells r vc), (qa, 26, rcells (aEx r E) va), (qb, 26, rcells (aEx r F) vb), (qx, 26, rcells rz vx), (qy, 26, rcells rz vy)]) := H5_.out.1
          have K1 : Hid (POwn w22 w.heap.size va r.cp) := H5_.out.2.1
          have K2 : Hid (POwn w22 w.heap.size vb r.cp) := H5_.out.2.2.1
          have K3 : Hid (POwn w22 w.heap.size vx rz.cp) := H5_.out.2.2.2.1
          have K4 : Hid (POwn w22 w.heap.size vy rz.cp) := H5_.out.2.2.2.2
          clear H5_
          go_upto_region 17 with fail
          refine wp_region_lit ?_
          refine wl rfl (.int .i64 1) _ (run_mvZ (.tmp 13) rfl (.int .i64 1) rfl) ?_
          simp only [Act.put, List.setIfInBounds_toArray, List.set_cons_succ, List.set_cons_zero]
          refine wl rfl (.bool false) _ (run_eqZ (.tmp 63) (.const (.int .i64 0)) rfl (1) (0) rfl rfl false rfl) ?_
          simp only [Act.put, List.setIfInBounds_toArray, List.set_cons_succ, List.set_cons_zero]
          refine wpList_nil ?_
          go_upto_region 11 with fail
          refine wp_region_lit ?_
          refine wl rfl (.int .i64 (i : Nat)) _ (run_mvZ (.tmp 9) rfl (.int .i64 (i : Nat)) rfl) ?_
          simp only [Act.put, List.setIfInBounds_toArray, List.set_cons_succ, List.set_cons_zero]
          refine wl rfl (.int .i64 ((i + 1 : Nat))) _ (run_addI (.tmp 30) rfl i m hlt HF.out.2.2.2.1 rfl) ?_
          simp only [Act.put, List.setIfInBounds_toArray, List.set_cons_succ, List.set_cons_zero]
          refine wl rfl (.int .i64 ((i + 1 : Nat))) _ (run_asZ (.tmp 31) rfl (.int .i64 ((i + 1 : Nat))) rfl) ?_
          simp only [Act.put, List.setIfInBounds_toArray, List.set_cons_succ, List.set_cons_zero]
          refine wpList_nil ?_
          go_wp2_with fail
          exact ⟨⟨E, i + 1, rfl, rfl, by omega, ⟨F, va, vb, Rw22.out.take 3, K1.out, K2.out, by rw [HU.out.1, stepU, if_pos HBu.out], by rw [HU.out.2, stepU, if_pos HBz.out]⟩⟩, by simp [intOf]; omega⟩
        have HBz : Hid (badU z = false) := eq_false_of_ne_true hbz
        clear hbz
        · have HCl : Hid (∀ U, Fits U (aEx r F) vb → Calls Try.prog 6 #[.agg (rcells (aEx r F) vb).toArray, .int .i64 z] U fun e w' => ∃ v', e = .returned (.tuple #[.agg (rcells (aEx r (max F z)) v').toArray, .int .i64 0]) ∧ Below U.heap.size U w' ∧ POwn w' U.heap.size v' (aEx r (max F z)).cp) := fun U h => by
            have h_ := lock_any (aEx r F) vb z U h (show r.cp.length * 32 ≤ 140737488355328 by have := HF.out.2.2.2.2.1; omega)
            rw [lock_good r F z HBz.out HGo.out] at h_
            exact h_
          go_upto_region 16 with fail
          refine wp_region_held (S := fun X => Loc w X [(q1, 26, rcells r vc), (qa, 26, rcells (aEx r E) va), (qb, 26, rcells (aEx r F) vb), (qx, 26, rcells rz vx)]) (by kernel_rfl) ?_
          show wpAnyH _ _ _ _ _ 16 (Array.replicate 16 false) _ _
          obtain ⟨X, hX⟩ : ∃ X : World, X = { w21 with drawn := w21.drawn + 1 } := ⟨_, rfl⟩
          rw [← hX]
          have HS_ : Loc w X [(q1, 26, rcells r vc), (qa, 26, rcells (aEx r E) va), (qb, 26, rcells (aEx r F) vb), (qx, 26, rcells rz vx)] := by rw [hX]; exact Rw21.out.drew
          have K1y : POwn X w.heap.size va r.cp := by rw [hX]; exact K1.out.later (Below.drewN (Below.refl _ _) 1)
          have K2y : POwn X w.heap.size vb r.cp := by rw [hX]; exact K2.out.later (Below.drewN (Below.refl _ _) 1)
          have K3y : POwn X w.heap.size vx rz.cp := by rw [hX]; exact K3.out.later (Below.drewN (Below.refl _ _) 1)
          clear hX
          apply share3 (P := fun W q v => Hid (Loc w W [(q1, 26, rcells r vc), (qa, 26, rcells (aEx r E) va), (qb, 26, rcells (aEx r F) vb), (qx, 26, rcells rz vx), (q, 26, rcells (aEx r (max F z)) v)] ∧ POwn W w.heap.size va r.cp ∧ POwn W w.heap.size vb r.cp ∧ POwn W w.heap.size vx rz.cp ∧ POwn W w.heap.size v (aEx r (max F z)).cp))
          intro hG
          have hX : True := trivial
          clear hX
          refine takeH (i := 0) (some 51) rfl rfl (by kernel_rfl) (by kernel_rfl) (by kernel_rfl) (fun _ _ _ h => h) (gRun rfl (.agg (rcells (aEx r F) vb).toArray) fun _ h => run_loadA ag26 (.tmp 7) rfl qb (0) rfl (rcells (aEx r F) vb) ((show Rok (aEx r F) vb from ⟨HRt.out.1, HRt.out.2, K2.out.isSl⟩)).len (h.rows 2 rfl)) HS_ ?_
          simp only [Act.put, List.setIfInBounds_toArray, List.set_cons_succ, List.set_cons_zero]
          refine takeH (i := 1) (some 52) rfl rfl (by kernel_rfl) (by kernel_rfl) (by kernel_rfl) (fun _ _ _ h => h) (gRun rfl vl fun _ h => run_mvZ (.tmp 1) rfl vl rfl) HS_ ?_
          simp only [Act.put, List.setIfInBounds_toArray, List.set_cons_succ, List.set_cons_zero]
          refine takeH (i := 2) (some 53) rfl rfl (by kernel_rfl) (by kernel_rfl) (by kernel_rfl) (fun _ _ _ h => h) (gRun rfl vl fun _ h => run_mvZ (.tmp 1) rfl vl rfl) HS_ ?_
          simp only [Act.put, List.setIfInBounds_toArray, List.set_cons_succ, List.set_cons_zero]
          refine takeH (i := 3) (some 54) rfl rfl (by kernel_rfl) (by kernel_rfl) (by kernel_rfl) (fun _ _ _ h => h) (gRun rfl (.int .i64 (m : Nat)) fun _ h => (by rw [HF.out.2.2.1]; exact run_lenN HF.out.2.1 (.tmp 53) rfl rfl)) HS_ ?_
          simp only [Act.put, List.setIfInBounds_toArray, List.set_cons_succ, List.set_cons_zero]
          refine takeH (i := 4) (some 55) rfl rfl (by kernel_rfl) (by kernel_rfl) (by kernel_rfl) (fun _ _ _ h => h) (gRun rfl (.int .i64 ((m - 1 : Nat))) fun _ h => run_subN (.tmp 54) (.const (.int .i64 1)) rfl m 1 rfl rfl (by omega) HF.out.2.2.2.1) HS_ ?_
          simp only [Act.put, List.setIfInBounds_toArray, List.set_cons_succ, List.set_cons_zero]
          refine takeH (i := 5) (some 56) rfl rfl (by kernel_rfl) (by kernel_rfl) (by kernel_rfl) (fun _ _ _ h => h) (gRun rfl (.int .i64 (i : Nat)) fun _ h => run_mvZ (.tmp 9) rfl (.int .i64 (i : Nat)) rfl) HS_ ?_
          simp only [Act.put, List.setIfInBounds_toArray, List.set_cons_succ, List.set_cons_zero]
          refine takeH (i := 6) (some 57) rfl rfl (by kernel_rfl) (by kernel_rfl) (by kernel_rfl) (fun _ _ _ h => h) (gRun rfl (.int .i64 ((m - 1 - i : Nat))) fun _ h => run_subN (.tmp 55) (.tmp 56) rfl (m - 1) i rfl rfl (by omega) (by have := HF.out.2.2.2.1; omega)) HS_ ?_
          simp only [Act.put, List.setIfInBounds_toArray, List.set_cons_succ, List.set_cons_zero]
          refine takeH (i := 7) (some 58) rfl rfl (by kernel_rfl) (by kernel_rfl) (by kernel_rfl) (fun _ _ _ h => h) (gRun rfl (.pointer (some ⟨b2, o2, none⟩)) fun _ h => run_idx (.tmp 52) (.tmp 57) rfl vl _ _ rfl rfl HX.out.2.2.1) HS_ ?_
          simp only [Act.put, List.setIfInBounds_toArray, List.set_cons_succ, List.set_cons_zero]
          refine takeH (i := 8) (some 59) rfl rfl (by kernel_rfl) (by kernel_rfl) (by kernel_rfl) (fun _ _ _ h => h) (gRun rfl (.int .i64 z) fun _ h => run_load1 o3 (.tmp 58) rfl b2 (o2) rfl (.int .i64 z) (cell_later HX.out.2.2.2 h.below)) HS_ ?_
          simp only [Act.put, List.setIfInBounds_toArray, List.set_cons_succ, List.set_cons_zero]
          refine twoH (i := 9) (j := 13) (by kernel_rfl) ?_ ?_
          · refine opCallG (some 60) rfl rfl rfl 6 _ (run_call eN11 [.tmp 51, .tmp 59] _ rfl [(.agg (rcells (aEx r F) vb).toArray), (.int .i64 z)] rfl) ?_
            refine (HCl.out X ((show POwn X w.heap.size vb (aEx r F).cp from K2y).fitR HRt.out HF.out.2.2.2.2.2)).mono ?_
            rintro e X1 ⟨vy, rfl, b_, o_⟩
            refine ⟨_, rfl, ?_⟩
            have K4y : POwn X1 w.heap.size vy (aEx r (max F z)).cp := o_.weaken HS_.below.size
            clear o_
            replace K1y : POwn X1 w.heap.size va r.cp := K1y.later b_
            replace K2y : POwn X1 w.heap.size vb r.cp := K2y.later b_
            replace K3y : POwn X1 w.heap.size vx rz.cp := K3y.later b_
            replace HS_ := HS_.later b_
            clear b_
            refine ⟨HS_, ?_⟩
            simp only [Act.put, List.setIfInBounds_toArray, List.set_cons_succ, List.set_cons_zero]
            refine takeH (i := 10) (some 50) rfl rfl (by kernel_rfl) (by kernel_rfl) (by kernel_rfl) (fun _ _ _ h => h) (gRun rfl (.tuple #[(.agg (rcells (aEx r (max F z)) vy).toArray), (.int .i64 0)]) fun _ h => run_mvZ (.tmp 60) rfl (.tuple #[(.agg (rcells (aEx r (max F z)) vy).toArray), (.int .i64 0)]) rfl) HS_ ?_
            simp only [Act.put, List.setIfInBounds_toArray, List.set_cons_succ, List.set_cons_zero]
            refine takeH (i := 11) (some 61) rfl rfl (by kernel_rfl) (by kernel_rfl) (by kernel_rfl) (fun _ _ _ h => h) (gRun rfl (.agg (rcells (aEx r (max F z)) vy).toArray) fun _ h => run_extZ (.tmp 50) 0 rfl #[(.agg (rcells (aEx r (max F z)) vy).toArray), (.int .i64 0)] rfl (.agg (rcells (aEx r (max F z)) vy).toArray) rfl) HS_ ?_
            simp only [Act.put, List.setIfInBounds_toArray, List.set_cons_succ, List.set_cons_zero]
            refine takeH (i := 12) (some 62) rfl rfl (by kernel_rfl) (by kernel_rfl) (by kernel_rfl) (fun _ _ _ h => h) (gRun rfl (.int .i64 0) fun _ h => run_extZ (.tmp 50) 1 rfl #[(.agg (rcells (aEx r (max F z)) vy).toArray), (.int .i64 0)] rfl (.int .i64 0) rfl) HS_ ?_
            simp only [Act.put, List.setIfInBounds_toArray, List.set_cons_succ, List.set_cons_zero]
            refine oneH (i := 13) (by kernel_rfl) ?_
            refine opValueG (some 12) rfl rfl rfl (ptr X1.heap.size) _ (run_allocA (rcells rz (.slice none 0 0)) zero26 rfl) ?_
            have HL_ := HS_.box 26 (rcells rz (.slice none 0 0))
            have hB_ := below_alloc X1 (.cells (rcells rz (.slice none 0 0)).toArray 26)
            obtain ⟨X2, hW_⟩ : ∃ U_ : World, U_ = X1.alloc (.cells (rcells rz (.slice none 0 0)).toArray 26) := ⟨_, rfl⟩
            obtain ⟨qy, hq_⟩ : ∃ q, q = X1.heap.size := ⟨_, rfl⟩
            rw [← hW_, ← hq_] at HL_
            rw [← hW_] at hB_
            rw [← hW_, ← hq_]
            clear hW_ hq_
            replace HS_ := HS_.later hB_
            replace K1y : POwn X2 w.heap.size va r.cp := K1y.later hB_
            replace K2y : POwn X2 w.heap.size vb r.cp := K2y.later hB_
            replace K3y : POwn X2 w.heap.size vx rz.cp := K3y.later hB_
            replace K4y := K4y.later hB_
            clear hB_
            refine ⟨HS_, ?_⟩
            simp only [Act.put, List.setIfInBounds_toArray, List.set_cons_succ, List.set_cons_zero]
            refine oneH (i := 14) (by kernel_rfl) ?_
            obtain ⟨hst_, k_, hC_⟩ := HL_.st26 4 rfl (Rok.nil).len (rcells (aEx r (max F z)) vy) ((show Rok (aEx r (max F z)) vy from ⟨(HRt.out).1, (HRt.out).2, K4y.isSl⟩)).len ((show Rok (aEx r (max F z)) vy from ⟨(HRt.out).1, (HRt.out).2, K4y.isSl⟩)).one
            have hR_ := HL_.at 4 rfl
            refine opSkipZ rfl rfl rfl _ (run_stV (.tmp 12) (.tmp 61) rfl qy 0 rfl _ rfl hst_) ?_
            obtain ⟨X3, hW_⟩ : ∃ U_ : World, U_ = X2.setRow qy (rcells (aEx r (max F z)) vy).toArray := ⟨_, rfl⟩
            rw [← hW_] at k_ hC_ ⊢
            clear hst_ hW_
            replace K1y : POwn X3 w.heap.size va r.cp := K1y.off hR_ (by decide) hC_
            replace K2y : POwn X3 w.heap.size vb r.cp := K2y.off hR_ (by decide) hC_
            replace K3y : POwn X3 w.heap.size vx rz.cp := K3y.off hR_ (by decide) hC_
            replace K4y := K4y.off hR_ (by decide) hC_
            clear hR_ hC_
            replace HS_ : Loc w X3 [(q1, 26, rcells r vc), (qa, 26, rcells (aEx r E) va), (qb, 26, rcells (aEx r F) vb), (qx, 26, rcells rz vx)] := k_.take 4
            refine ⟨HS_, ?_⟩
            refine takeH (i := 15) (some 13) rfl rfl (by kernel_rfl) (by kernel_rfl) (by kernel_rfl) (fun _ _ _ h => h) (gRun rfl (.int .i64 0) fun _ h => run_asZ (.tmp 62) rfl (.int .i64 0) rfl) HS_ ?_
            simp only [Act.put, List.setIfInBounds_toArray, List.set_cons_succ, List.set_cons_zero]
            refine wpAnyH_done (by kernel_rfl) ?_ _
            exact hG X3 qy vy ⟨k_, K1y, K2y, K3y, K4y⟩
          · refine opValueG (some 12) rfl rfl rfl (ptr X.heap.size) _ (run_allocA (rcells rz (.slice none 0 0)) zero26 rfl) ?_
            have HL_ := HS_.box 26 (rcells rz (.slice none 0 0))
            have hB_ := below_alloc X (.cells (rcells rz (.slice none 0 0)).toArray 26)
            obtain ⟨X1, hW_⟩ : ∃ U_ : World, U_ = X.alloc (.cells (rcells rz (.slice none 0 0)).toArray 26) := ⟨_, rfl⟩
            obtain ⟨qy, hq_⟩ : ∃ q, q = X.heap.size := ⟨_, rfl⟩
            rw [← hW_, ← hq_] at HL_
            rw [← hW_] at hB_
            rw [← hW_, ← hq_]
            clear hW_ hq_
            replace HS_ := HS_.later hB_
            replace K1y : POwn X1 w.heap.size va r.cp := K1y.later hB_
            replace K2y : POwn X1 w.heap.size vb r.cp := K2y.later hB_
            replace K3y : POwn X1 w.heap.size vx rz.cp := K3y.later hB_
            clear hB_
            refine ⟨HS_, ?_⟩
            simp only [Act.put, List.setIfInBounds_toArray, List.set_cons_succ, List.set_cons_zero]
            refine oneH (i := 9) (by kernel_rfl) ?_
            refine opCallG (some 60) rfl rfl rfl 6 _ (run_call eN11 [.tmp 51, .tmp 59] _ rfl [(.agg (rcells (aEx r F) vb).toArray), (.int .i64 z)] rfl) ?_
            refine (HCl.out X1 ((show POwn X1 w.heap.size vb (aEx r F).cp from K2y).fitR HRt.out HF.out.2.2.2.2.2)).mono ?_
            rintro e X2 ⟨vy, rfl, b_, o_⟩
            refine ⟨_, rfl, ?_⟩
            have K4y : POwn X2 w.heap.size vy (aEx r (max F z)).cp := o_.weaken HS_.below.size
            clear o_
            replace K1y : POwn X2 w.heap.size va r.cp := K1y.later b_
            replace K2y : POwn X2 w.heap.size vb r.cp := K2y.later b_
            replace K3y : POwn X2 w.heap.size vx rz.cp := K3y.later b_
            replace HS_ := HS_.later b_
            replace HL_ := HL_.later b_
            clear b_
            refine ⟨HS_, ?_⟩
            simp only [Act.put, List.setIfInBounds_toArray, List.set_cons_succ, List.set_cons_zero]
            refine takeH (i := 10) (some 50) rfl rfl (by kernel_rfl) (by kernel_rfl) (by kernel_rfl) (fun _ _ _ h => h) (gRun rfl (.tuple #[(.agg (rcells (aEx r (max F z)) vy).toArray), (.int .i64 0)]) fun _ h => run_mvZ (.tmp 60) rfl (.tuple #[(.agg (rcells (aEx r (max F z)) vy).toArray), (.int .i64 0)]) rfl) HS_ ?_
            simp only [Act.put, List.setIfInBounds_toArray, List.set_cons_succ, List.set_cons_zero]
            refine takeH (i := 11) (some 61) rfl rfl (by kernel_rfl) (by kernel_rfl) (by kernel_rfl) (fun _ _ _ h => h) (gRun rfl (.agg (rcells (aEx r (max F z)) vy).toArray) fun _ h => run_extZ (.tmp 50) 0 rfl #[(.agg (rcells (aEx r (max F z)) vy).toArray), (.int .i64 0)] rfl (.agg (rcells (aEx r (max F z)) vy).toArray) rfl) HS_ ?_
            simp only [Act.put, List.setIfInBounds_toArray, List.set_cons_succ, List.set_cons_zero]
            refine takeH (i := 12) (some 62) rfl rfl (by kernel_rfl) (by kernel_rfl) (by kernel_rfl) (fun _ _ _ h => h) (gRun rfl (.int .i64 0) fun _ h => run_extZ (.tmp 50) 1 rfl #[(.agg (rcells (aEx r (max F z)) vy).toArray), (.int .i64 0)] rfl (.int .i64 0) rfl) HS_ ?_
            simp only [Act.put, List.setIfInBounds_toArray, List.set_cons_succ, List.set_cons_zero]
            refine oneH (i := 14) (by kernel_rfl) ?_
            obtain ⟨hst_, k_, hC_⟩ := HL_.st26 4 rfl (Rok.nil).len (rcells (aEx r (max F z)) vy) ((show Rok (aEx r (max F z)) vy from ⟨(HRt.out).1, (HRt.out).2, K4y.isSl⟩)).len ((show Rok (aEx r (max F z)) vy from ⟨(HRt.out).1, (HRt.out).2, K4y.isSl⟩)).one
            have hR_ := HL_.at 4 rfl
            refine opSkipZ rfl rfl rfl _ (run_stV (.tmp 12) (.tmp 61) rfl qy 0 rfl _ rfl hst_) ?_
            obtain ⟨X3, hW_⟩ : ∃ U_ : World, U_ = X2.setRow qy (rcells (aEx r (max F z)) vy).toArray := ⟨_, rfl⟩
            rw [← hW_] at k_ hC_ ⊢
            clear hst_ hW_
            replace K1y : POwn X3 w.heap.size va r.cp := K1y.off hR_ (by decide) hC_
            replace K2y : POwn X3 w.heap.size vb r.cp := K2y.off hR_ (by decide) hC_
            replace K3y : POwn X3 w.heap.size vx rz.cp := K3y.off hR_ (by decide) hC_
            replace K4y := K4y.off hR_ (by decide) hC_
            clear hR_ hC_
            replace HS_ : Loc w X3 [(q1, 26, rcells r vc), (qa, 26, rcells (aEx r E) va), (qb, 26, rcells (aEx r F) vb), (qx, 26, rcells rz vx)] := k_.take 4
            refine ⟨HS_, ?_⟩
            refine takeH (i := 15) (some 13) rfl rfl (by kernel_rfl) (by kernel_rfl) (by kernel_rfl) (fun _ _ _ h => h) (gRun rfl (.int .i64 0) fun _ h => run_asZ (.tmp 62) rfl (.int .i64 0) rfl) HS_ ?_
            simp only [Act.put, List.setIfInBounds_toArray, List.set_cons_succ, List.set_cons_zero]
            refine wpAnyH_done (by kernel_rfl) ?_ _
            exact hG X3 qy vy ⟨k_, K1y, K2y, K3y, K4y⟩
          clear Rw21 HCl K1 K2 K3
          intro w22 qy vy H5_
          have Rw22 : Hid (Loc w w22 [(q1, 26, rcells r vc), (qa, 26, rcells (aEx r E) va), (qb, 26, rcells (aEx r F) vb), (qx, 26, rcells rz vx), (qy, 26, rcells (aEx r (max F z)) vy)]) := H5_.out.1
          have K1 : Hid (POwn w22 w.heap.size va r.cp) := H5_.out.2.1
          have K2 : Hid (POwn w22 w.heap.size vb r.cp) := H5_.out.2.2.1
          have K3 : Hid (POwn w22 w.heap.size vx rz.cp) := H5_.out.2.2.2.1
          have K4 : Hid (POwn w22 w.heap.size vy (aEx r (max F z)).cp) := H5_.out.2.2.2.2
          clear H5_
          go_upto_region 17 with fail
          refine wp_region_lit ?_
          refine wl rfl (.int .i64 0) _ (run_mvZ (.tmp 13) rfl (.int .i64 0) rfl) ?_
          simp only [Act.put, List.setIfInBounds_toArray, List.set_cons_succ, List.set_cons_zero]
          refine wl rfl (.bool true) _ (run_eqZ (.tmp 63) (.const (.int .i64 0)) rfl (0) (0) rfl rfl true rfl) ?_
          simp only [Act.put, List.setIfInBounds_toArray, List.set_cons_succ, List.set_cons_zero]
          refine wpList_nil ?_
          go_upto_region 18 with fail
          refine wp_region_lit ?_
          refine wl rfl (.agg (rcells (aEx r (max F z)) vy).toArray) _ (run_loadA ag26 (.tmp 12) rfl qy (0) rfl (rcells (aEx r (max F z)) vy) ((show Rok (aEx r (max F z)) vy from ⟨(HRt.out).1, (HRt.out).2, K4.out.isSl⟩)).len (Rw22.out.rows 4 rfl)) ?_
          simp only [Act.put, List.setIfInBounds_toArray, List.set_cons_succ, List.set_cons_zero]
          obtain ⟨hst_, k_, hC_⟩ := Rw22.out.st26 2 rfl ((show Rok (aEx r F) vb from ⟨HRt.out.1, HRt.out.2, K2.out.isSl⟩)).len (rcells (aEx r (max F z)) vy) ((show Rok (aEx r (max F z)) vy from ⟨HRt.out.1, HRt.out.2, K4.out.isSl⟩)).len ((show Rok (aEx r (max F z)) vy from ⟨HRt.out.1, HRt.out.2, K4.out.isSl⟩)).one
          have hR_ := Rw22.out.at 2 rfl
          refine wlS rfl rfl _ (run_stV (.tmp 7) (.tmp 65) rfl qb 0 rfl _ rfl hst_) ?_
          obtain ⟨w23, hW_⟩ : ∃ U_ : World, U_ = w22.setRow qb (rcells (aEx r (max F z)) vy).toArray := ⟨_, rfl⟩
          rw [← hW_] at k_ hC_ ⊢
          clear hst_
          have K1x : Hid (POwn w23 w.heap.size va r.cp) := K1.out.off hR_ (by decide) hC_
          clear K1
          have K1 := K1x
          clear K1x
          have K2x : Hid (POwn w23 w.heap.size vb r.cp) := K2.out.off hR_ (by decide) hC_
          clear K2
          have K2 := K2x
          clear K2x
          have K3x : Hid (POwn w23 w.heap.size vx rz.cp) := K3.out.off hR_ (by decide) hC_
          clear K3
          have K3 := K3x
          clear K3x
          have K4x : Hid (POwn w23 w.heap.size vy (aEx r (max F z)).cp) := K4.out.off hR_ (by decide) hC_
          clear K4
          have K4 := K4x
          clear K4x
          have Rw23 : Hid (Loc w w23 [(q1, 26, rcells r vc), (qa, 26, rcells (aEx r E) va), (qb, 26, rcells (aEx r (max F z)) vy), (qx, 26, rcells rz vx), (qy, 26, rcells (aEx r (max F z)) vy)]) := k_
          clear k_ hW_ Rw22
          clear hC_ hR_
          refine wpList_nil ?_
          go_upto_region 11 with fail
          refine wp_region_lit ?_
          refine wl rfl (.int .i64 (i : Nat)) _ (run_mvZ (.tmp 9) rfl (.int .i64 (i : Nat)) rfl) ?_
          simp only [Act.put, List.setIfInBounds_toArray, List.set_cons_succ, List.set_cons_zero]
          refine wl rfl (.int .i64 ((i + 1 : Nat))) _ (run_addI (.tmp 30) rfl i m hlt HF.out.2.2.2.1 rfl) ?_
          simp only [Act.put, List.setIfInBounds_toArray, List.set_cons_succ, List.set_cons_zero]
          refine wl rfl (.int .i64 ((i + 1 : Nat))) _ (run_asZ (.tmp 31) rfl (.int .i64 ((i + 1 : Nat))) rfl) ?_
          simp only [Act.put, List.setIfInBounds_toArray, List.set_cons_succ, List.set_cons_zero]
          refine wpList_nil ?_
          go_wp2_with fail
          exact ⟨⟨E, i + 1, rfl, rfl, by omega, ⟨(max F z), va, vy, Rw23.out.take 3, K1.out, K4.out, by rw [HU.out.1, stepU, if_pos HBu.out], by rw [HU.out.2, stepU, if_neg (by rw [HBz.out]; exact Bool.false_ne_true)]⟩⟩, by simp [intOf]; omega⟩
      have HBu : Hid (badU u = false) := eq_false_of_ne_true hbu
      clear hbu
      · have HCl : Hid (∀ U, Fits U (aEx r E) va → Calls Try.prog 6 #[.agg (rcells (aEx r E) va).toArray, .int .i64 u] U fun e w' => ∃ v', e = .returned (.tuple #[.agg (rcells (aEx r (max E u)) v').toArray, .int .i64 0]) ∧ Below U.heap.size U w' ∧ POwn w' U.heap.size v' (aEx r (max E u)).cp) := fun U h => by
          have h_ := lock_any (aEx r E) va u U h (show r.cp.length * 32 ≤ 140737488355328 by have := HF.out.2.2.2.2.1; omega)
          rw [lock_good r E u HBu.out HGo.out] at h_
          exact h_
        go_upto_region 12 with fail
        refine wp_region_held (S := fun X => Loc w X [(q1, 26, rcells r vc), (qa, 26, rcells (aEx r E) va), (qb, 26, rcells (aEx r F) vb)]) (by kernel_rfl) ?_
        show wpAnyH _ _ _ _ _ 12 (Array.replicate 12 false) _ _
        obtain ⟨X, hX⟩ : ∃ X : World, X = { wr with drawn := wr.drawn + 1 } := ⟨_, rfl⟩
        rw [← hX]
        have HS_ : Loc w X [(q1, 26, rcells r vc), (qa, 26, rcells (aEx r E) va), (qb, 26, rcells (aEx r F) vb)] := by rw [hX]; exact RA.out.drew
        have K1y : POwn X w.heap.size va r.cp := by rw [hX]; exact K1.out.later (Below.drewN (Below.refl _ _) 1)
        have K2y : POwn X w.heap.size vb r.cp := by rw [hX]; exact K2.out.later (Below.drewN (Below.refl _ _) 1)
        clear hX
        apply share3 (P := fun W q v => Hid (Loc w W [(q1, 26, rcells r vc), (qa, 26, rcells (aEx r E) va), (qb, 26, rcells (aEx r F) vb), (q, 26, rcells (aEx r (max E u)) v)] ∧ POwn W w.heap.size va r.cp ∧ POwn W w.heap.size vb r.cp ∧ POwn W w.heap.size v (aEx r (max E u)).cp))
        intro hG
        have hX : True := trivial
        clear hX
        refine takeH (i := 0) (some 33) rfl rfl (by kernel_rfl) (by kernel_rfl) (by kernel_rfl) (fun _ _ _ h => h) (gRun rfl (.agg (rcells (aEx r E) va).toArray) fun _ h => run_loadA ag26 (.tmp 6) rfl qa (0) rfl (rcells (aEx r E) va) ((show Rok (aEx r E) va from ⟨HRt.out.1, HRt.out.2, K1.out.isSl⟩)).len (h.rows 1 rfl)) HS_ ?_
        simp only [Act.put, List.setIfInBounds_toArray, List.set_cons_succ, List.set_cons_zero]
        refine takeH (i := 1) (some 34) rfl rfl (by kernel_rfl) (by kernel_rfl) (by kernel_rfl) (fun _ _ _ h => h) (gRun rfl vl fun _ h => run_mvZ (.tmp 1) rfl vl rfl) HS_ ?_
        simp only [Act.put, List.setIfInBounds_toArray, List.set_cons_succ, List.set_cons_zero]
        refine takeH (i := 2) (some 35) rfl rfl (by kernel_rfl) (by kernel_rfl) (by kernel_rfl) (fun _ _ _ h => h) (gRun rfl (.int .i64 (i : Nat)) fun _ h => run_mvZ (.tmp 9) rfl (.int .i64 (i : Nat)) rfl) HS_ ?_
        simp only [Act.put, List.setIfInBounds_toArray, List.set_cons_succ, List.set_cons_zero]
        refine takeH (i := 3) (some 36) rfl rfl (by kernel_rfl) (by kernel_rfl) (by kernel_rfl) (fun _ _ _ h => h) (gRun rfl (.pointer (some ⟨b1, o1, none⟩)) fun _ h => run_idx (.tmp 34) (.tmp 35) rfl vl _ _ rfl rfl HX.out.1) HS_ ?_
        simp only [Act.put, List.setIfInBounds_toArray, List.set_cons_succ, List.set_cons_zero]
        refine takeH (i := 4) (some 37) rfl rfl (by kernel_rfl) (by kernel_rfl) (by kernel_rfl) (fun _ _ _ h => h) (gRun rfl (.int .i64 u) fun _ h => run_load1 o3 (.tmp 36) rfl b1 (o1) rfl (.int .i64 u) (cell_later HX.out.2.1 h.below)) HS_ ?_
        simp only [Act.put, List.setIfInBounds_toArray, List.set_cons_succ, List.set_cons_zero]
        refine twoH (i := 5) (j := 9) (by kernel_rfl) ?_ ?_
        · refine opCallG (some 38) rfl rfl rfl 6 _ (run_call eN11 [.tmp 33, .tmp 37] _ rfl [(.agg (rcells (aEx r E) va).toArray), (.int .i64 u)] rfl) ?_
          refine (HCl.out X ((show POwn X w.heap.size va (aEx r E).cp from K1y).fitR HRt.out HF.out.2.2.2.2.2)).mono ?_
          rintro e X1 ⟨vx, rfl, b_, o_⟩
          refine ⟨_, rfl, ?_⟩
          have K3y : POwn X1 w.heap.size vx (aEx r (max E u)).cp := o_.weaken HS_.below.size
          clear o_
          replace K1y : POwn X1 w.heap.size va r.cp := K1y.later b_
          replace K2y : POwn X1 w.heap.size vb r.cp := K2y.later b_
          replace HS_ := HS_.later b_
          clear b_
          refine ⟨HS_, ?_⟩
          simp only [Act.put, List.setIfInBounds_toArray, List.set_cons_succ, List.set_cons_zero]
          refine takeH (i := 6) (some 32) rfl rfl (by kernel_rfl) (by kernel_rfl) (by kernel_rfl) (fun _ _ _ h => h) (gRun rfl (.tuple #[(.agg (rcells (aEx r (max E u)) vx).toArray), (.int .i64 0)]) fun _ h => run_mvZ (.tmp 38) rfl (.tuple #[(.agg (rcells (aEx r (max E u)) vx).toArray), (.int .i64 0)]) rfl) HS_ ?_
          simp only [Act.put, List.setIfInBounds_toArray, List.set_cons_succ, List.set_cons_zero]
          refine takeH (i := 7) (some 39) rfl rfl (by kernel_rfl) (by kernel_rfl) (by kernel_rfl) (fun _ _ _ h => h) (gRun rfl (.agg (rcells (aEx r (max E u)) vx).toArray) fun _ h => run_extZ (.tmp 32) 0 rfl #[(.agg (rcells (aEx r (max E u)) vx).toArray), (.int .i64 0)] rfl (.agg (rcells (aEx r (max E u)) vx).toArray) rfl) HS_ ?_
          simp only [Act.put, List.setIfInBounds_toArray, List.set_cons_succ, List.set_cons_zero]
          refine takeH (i := 8) (some 40) rfl rfl (by kernel_rfl) (by kernel_rfl) (by kernel_rfl) (fun _ _ _ h => h) (gRun rfl (.int .i64 0) fun _ h => run_extZ (.tmp 32) 1 rfl #[(.agg (rcells (aEx r (max E u)) vx).toArray), (.int .i64 0)] rfl (.int .i64 0) rfl) HS_ ?_
          simp only [Act.put, List.setIfInBounds_toArray, List.set_cons_succ, List.set_cons_zero]
          refine oneH (i := 9) (by kernel_rfl) ?_
          refine opValueG (some 10) rfl rfl rfl (ptr X1.heap.size) _ (run_allocA (rcells rz (.slice none 0 0)) zero26 rfl) ?_
          have HL_ := HS_.box 26 (rcells rz (.slice none 0 0))
          have hB_ := below_alloc X1 (.cells (rcells rz (.slice none 0 0)).toArray 26)
          obtain ⟨X2, hW_⟩ : ∃ U_ : World, U_ = X1.alloc (.cells (rcells rz (.slice none 0 0)).toArray 26) := ⟨_, rfl⟩
          obtain ⟨qx, hq_⟩ : ∃ q, q = X1.heap.size := ⟨_, rfl⟩
          rw [← hW_, ← hq_] at HL_
          rw [← hW_] at hB_
          rw [← hW_, ← hq_]
          clear hW_ hq_
          replace HS_ := HS_.later hB_
          replace K1y : POwn X2 w.heap.size va r.cp := K1y.later hB_
          replace K2y : POwn X2 w.heap.size vb r.cp := K2y.later hB_
          replace K3y := K3y.later hB_
          clear hB_
          refine ⟨HS_, ?_⟩
          simp only [Act.put, List.setIfInBounds_toArray, List.set_cons_succ, List.set_cons_zero]
          refine oneH (i := 10) (by kernel_rfl) ?_
          obtain ⟨hst_, k_, hC_⟩ := HL_.st26 3 rfl (Rok.nil).len (rcells (aEx r (max E u)) vx) ((show Rok (aEx r (max E u)) vx from ⟨(HRt.out).1, (HRt.out).2, K3y.isSl⟩)).len ((show Rok (aEx r (max E u)) vx from ⟨(HRt.out).1, (HRt.out).2, K3y.isSl⟩)).one
          have hR_ := HL_.at 3 rfl
          refine opSkipZ rfl rfl rfl _ (run_stV (.tmp 10) (.tmp 39) rfl qx 0 rfl _ rfl hst_) ?_
          obtain ⟨X3, hW_⟩ : ∃ U_ : World, U_ = X2.setRow qx (rcells (aEx r (max E u)) vx).toArray := ⟨_, rfl⟩
          rw [← hW_] at k_ hC_ ⊢
          clear hst_ hW_
          replace K1y : POwn X3 w.heap.size va r.cp := K1y.off hR_ (by decide) hC_
          replace K2y : POwn X3 w.heap.size vb r.cp := K2y.off hR_ (by decide) hC_
          replace K3y := K3y.off hR_ (by decide) hC_
          clear hR_ hC_
          replace HS_ : Loc w X3 [(q1, 26, rcells r vc), (qa, 26, rcells (aEx r E) va), (qb, 26, rcells (aEx r F) vb)] := k_.take 3
          refine ⟨HS_, ?_⟩
          refine takeH (i := 11) (some 11) rfl rfl (by kernel_rfl) (by kernel_rfl) (by kernel_rfl) (fun _ _ _ h => h) (gRun rfl (.int .i64 0) fun _ h => run_asZ (.tmp 40) rfl (.int .i64 0) rfl) HS_ ?_
          simp only [Act.put, List.setIfInBounds_toArray, List.set_cons_succ, List.set_cons_zero]
          refine wpAnyH_done (by kernel_rfl) ?_ _
          exact hG X3 qx vx ⟨k_, K1y, K2y, K3y⟩
        · refine opValueG (some 10) rfl rfl rfl (ptr X.heap.size) _ (run_allocA (rcells rz (.slice none 0 0)) zero26 rfl) ?_
          have HL_ := HS_.box 26 (rcells rz (.slice none 0 0))
          have hB_ := below_alloc X (.cells (rcells rz (.slice none 0 0)).toArray 26)
          obtain ⟨X1, hW_⟩ : ∃ U_ : World, U_ = X.alloc (.cells (rcells rz (.slice none 0 0)).toArray 26) := ⟨_, rfl⟩
          obtain ⟨qx, hq_⟩ : ∃ q, q = X.heap.size := ⟨_, rfl⟩
          rw [← hW_, ← hq_] at HL_
          rw [← hW_] at hB_
          rw [← hW_, ← hq_]
          clear hW_ hq_
          replace HS_ := HS_.later hB_
          replace K1y : POwn X1 w.heap.size va r.cp := K1y.later hB_
          replace K2y : POwn X1 w.heap.size vb r.cp := K2y.later hB_
          clear hB_
          refine ⟨HS_, ?_⟩
          simp only [Act.put, List.setIfInBounds_toArray, List.set_cons_succ, List.set_cons_zero]
          refine oneH (i := 5) (by kernel_rfl) ?_
          refine opCallG (some 38) rfl rfl rfl 6 _ (run_call eN11 [.tmp 33, .tmp 37] _ rfl [(.agg (rcells (aEx r E) va).toArray), (.int .i64 u)] rfl) ?_
          refine (HCl.out X1 ((show POwn X1 w.heap.size va (aEx r E).cp from K1y).fitR HRt.out HF.out.2.2.2.2.2)).mono ?_
          rintro e X2 ⟨vx, rfl, b_, o_⟩
          refine ⟨_, rfl, ?_⟩
          have K3y : POwn X2 w.heap.size vx (aEx r (max E u)).cp := o_.weaken HS_.below.size
          clear o_
          replace K1y : POwn X2 w.heap.size va r.cp := K1y.later b_
          replace K2y : POwn X2 w.heap.size vb r.cp := K2y.later b_
          replace HS_ := HS_.later b_
          replace HL_ := HL_.later b_
          clear b_
          refine ⟨HS_, ?_⟩
          simp only [Act.put, List.setIfInBounds_toArray, List.set_cons_succ, List.set_cons_zero]
          refine takeH (i := 6) (some 32) rfl rfl (by kernel_rfl) (by kernel_rfl) (by kernel_rfl) (fun _ _ _ h => h) (gRun rfl (.tuple #[(.agg (rcells (aEx r (max E u)) vx).toArray), (.int .i64 0)]) fun _ h => run_mvZ (.tmp 38) rfl (.tuple #[(.agg (rcells (aEx r (max E u)) vx).toArray), (.int .i64 0)]) rfl) HS_ ?_
          simp only [Act.put, List.setIfInBounds_toArray, List.set_cons_succ, List.set_cons_zero]
          refine takeH (i := 7) (some 39) rfl rfl (by kernel_rfl) (by kernel_rfl) (by kernel_rfl) (fun _ _ _ h => h) (gRun rfl (.agg (rcells (aEx r (max E u)) vx).toArray) fun _ h => run_extZ (.tmp 32) 0 rfl #[(.agg (rcells (aEx r (max E u)) vx).toArray), (.int .i64 0)] rfl (.agg (rcells (aEx r (max E u)) vx).toArray) rfl) HS_ ?_
          simp only [Act.put, List.setIfInBounds_toArray, List.set_cons_succ, List.set_cons_zero]
          refine takeH (i := 8) (some 40) rfl rfl (by kernel_rfl) (by kernel_rfl) (by kernel_rfl) (fun _ _ _ h => h) (gRun rfl (.int .i64 0) fun _ h => run_extZ (.tmp 32) 1 rfl #[(.agg (rcells (aEx r (max E u)) vx).toArray), (.int .i64 0)] rfl (.int .i64 0) rfl) HS_ ?_
          simp only [Act.put, List.setIfInBounds_toArray, List.set_cons_succ, List.set_cons_zero]
          refine oneH (i := 10) (by kernel_rfl) ?_
          obtain ⟨hst_, k_, hC_⟩ := HL_.st26 3 rfl (Rok.nil).len (rcells (aEx r (max E u)) vx) ((show Rok (aEx r (max E u)) vx from ⟨(HRt.out).1, (HRt.out).2, K3y.isSl⟩)).len ((show Rok (aEx r (max E u)) vx from ⟨(HRt.out).1, (HRt.out).2, K3y.isSl⟩)).one
          have hR_ := HL_.at 3 rfl
          refine opSkipZ rfl rfl rfl _ (run_stV (.tmp 10) (.tmp 39) rfl qx 0 rfl _ rfl hst_) ?_
          obtain ⟨X3, hW_⟩ : ∃ U_ : World, U_ = X2.setRow qx (rcells (aEx r (max E u)) vx).toArray := ⟨_, rfl⟩
          rw [← hW_] at k_ hC_ ⊢
          clear hst_ hW_
          replace K1y : POwn X3 w.heap.size va r.cp := K1y.off hR_ (by decide) hC_
          replace K2y : POwn X3 w.heap.size vb r.cp := K2y.off hR_ (by decide) hC_
          replace K3y := K3y.off hR_ (by decide) hC_
          clear hR_ hC_
          replace HS_ : Loc w X3 [(q1, 26, rcells r vc), (qa, 26, rcells (aEx r E) va), (qb, 26, rcells (aEx r F) vb)] := k_.take 3
          refine ⟨HS_, ?_⟩
          refine takeH (i := 11) (some 11) rfl rfl (by kernel_rfl) (by kernel_rfl) (by kernel_rfl) (fun _ _ _ h => h) (gRun rfl (.int .i64 0) fun _ h => run_asZ (.tmp 40) rfl (.int .i64 0) rfl) HS_ ?_
          simp only [Act.put, List.setIfInBounds_toArray, List.set_cons_succ, List.set_cons_zero]
          refine wpAnyH_done (by kernel_rfl) ?_ _
          exact hG X3 qx vx ⟨k_, K1y, K2y, K3y⟩
        clear RA HCl K1 K2
        intro w21 qx vx H5_
        have Rw21 : Hid (Loc w w21 [(q1, 26, rcells r vc), (qa, 26, rcells (aEx r E) va), (qb, 26, rcells (aEx r F) vb), (qx, 26, rcells (aEx r (max E u)) vx)]) := H5_.out.1
        have K1 : Hid (POwn w21 w.heap.size va r.cp) := H5_.out.2.1
        have K2 : Hid (POwn w21 w.heap.size vb r.cp) := H5_.out.2.2.1
        have K3 : Hid (POwn w21 w.heap.size vx (aEx r (max E u)).cp) := H5_.out.2.2.2
        clear H5_
        go_upto_region 13 with fail
        refine wp_region_lit ?_
        refine wl rfl (.int .i64 0) _ (run_mvZ (.tmp 11) rfl (.int .i64 0) rfl) ?_
        simp only [Act.put, List.setIfInBounds_toArray, List.set_cons_succ, List.set_cons_zero]
        refine wl rfl (.bool true) _ (run_eqZ (.tmp 41) (.const (.int .i64 0)) rfl (0) (0) rfl rfl true rfl) ?_
        simp only [Act.put, List.setIfInBounds_toArray, List.set_cons_succ, List.set_cons_zero]
        refine wpList_nil ?_
        go_upto_region 14 with fail
        refine wp_region_lit ?_
        refine wl rfl (.agg (rcells (aEx r (max E u)) vx).toArray) _ (run_loadA ag26 (.tmp 10) rfl qx (0) rfl (rcells (aEx r (max E u)) vx) ((show Rok (aEx r (max E u)) vx from ⟨(HRt.out).1, (HRt.out).2, K3.out.isSl⟩)).len (Rw21.out.rows 3 rfl)) ?_
        simp only [Act.put, List.setIfInBounds_toArray, List.set_cons_succ, List.set_cons_zero]
        obtain ⟨hst_, k_, hC_⟩ := Rw21.out.st26 1 rfl ((show Rok (aEx r E) va from ⟨HRt.out.1, HRt.out.2, K1.out.isSl⟩)).len (rcells (aEx r (max E u)) vx) ((show Rok (aEx r (max E u)) vx from ⟨HRt.out.1, HRt.out.2, K3.out.isSl⟩)).len ((show Rok (aEx r (max E u)) vx from ⟨HRt.out.1, HRt.out.2, K3.out.isSl⟩)).one
        have hR_ := Rw21.out.at 1 rfl
        refine wlS rfl rfl _ (run_stV (.tmp 6) (.tmp 43) rfl qa 0 rfl _ rfl hst_) ?_
        obtain ⟨w22, hW_⟩ : ∃ U_ : World, U_ = w21.setRow qa (rcells (aEx r (max E u)) vx).toArray := ⟨_, rfl⟩
        rw [← hW_] at k_ hC_ ⊢
        clear hst_
        have K1x : Hid (POwn w22 w.heap.size va r.cp) := K1.out.off hR_ (by decide) hC_
        clear K1
        have K1 := K1x
        clear K1x
        have K2x : Hid (POwn w22 w.heap.size vb r.cp) := K2.out.off hR_ (by decide) hC_
        clear K2
        have K2 := K2x
        clear K2x
        have K3x : Hid (POwn w22 w.heap.size vx (aEx r (max E u)).cp) := K3.out.off hR_ (by decide) hC_
        clear K3
        have K3 := K3x
        clear K3x
        have Rw22 : Hid (Loc w w22 [(q1, 26, rcells r vc), (qa, 26, rcells (aEx r (max E u)) vx), (qb, 26, rcells (aEx r F) vb), (qx, 26, rcells (aEx r (max E u)) vx)]) := k_
        clear k_ hW_ Rw21
        clear hC_ hR_
        refine wpList_nil ?_
        go_upto_region 15 with fail
        refine wp_region_lit ?_
        refine wl rfl (.int .i64 E) _ (run_mvZ (.tmp 8) rfl (.int .i64 E) rfl) ?_
        simp only [Act.put, List.setIfInBounds_toArray, List.set_cons_succ, List.set_cons_zero]
        refine wl rfl vl _ (run_mvZ (.tmp 1) rfl vl rfl) ?_
        simp only [Act.put, List.setIfInBounds_toArray, List.set_cons_succ, List.set_cons_zero]
        refine wl rfl (.int .i64 (i : Nat)) _ (run_mvZ (.tmp 9) rfl (.int .i64 (i : Nat)) rfl) ?_
        simp only [Act.put, List.setIfInBounds_toArray, List.set_cons_succ, List.set_cons_zero]
        refine wl rfl (.pointer (some ⟨b1, o1, none⟩)) _ (run_idx (.tmp 45) (.tmp 46) rfl vl _ _ rfl rfl HX.out.1) ?_
        simp only [Act.put, List.setIfInBounds_toArray, List.set_cons_succ, List.set_cons_zero]
        refine wl rfl (.int .i64 u) _ (run_load1 o3 (.tmp 47) rfl b1 (o1) rfl (.int .i64 u) (cell_later HX.out.2.1 Rw22.out.below)) ?_
        simp only [Act.put, List.setIfInBounds_toArray, List.set_cons_succ, List.set_cons_zero]
        refine wl rfl (.int .i64 (max E u)) _ (run_maxZ (.tmp 44) (.tmp 48) rfl E u rfl rfl) ?_
        simp only [Act.put, List.setIfInBounds_toArray, List.set_cons_succ, List.set_cons_zero]
        refine wl rfl (.int .i64 (max E u)) _ (run_asZ (.tmp 49) rfl (.int .i64 (max E u)) rfl) ?_
        simp only [Act.put, List.setIfInBounds_toArray, List.set_cons_succ, List.set_cons_zero]
        refine wpList_nil ?_
        by_cases hbz : badU z = true
        · have HBz : Hid (badU z = true) := hbz
          clear hbz
          have HCl : Hid (∀ U, Fits U (aEx r F) vb → Calls Try.prog 6 #[.agg (rcells (aEx r F) vb).toArray, .int .i64 z] U fun e w' => ∃ v', e = .returned (.tuple #[.agg (rcells rz v').toArray, .int .i64 1]) ∧ Below U.heap.size U w' ∧ POwn w' U.heap.size v' rz.cp) := fun U h => by
            have h_ := lock_any (aEx r F) vb z U h (show r.cp.length * 32 ≤ 140737488355328 by have := HF.out.2.2.2.2.1; omega)
            rw [lock_bad r F z HBz.out] at h_
            exact h_
          go_upto_region 16 with fail
          refine wp_region_held (S := fun X => Loc w X [(q1, 26, rcells r vc), (qa, 26, rcells (aEx r (max E u)) vx), (qb, 26, rcells (aEx r F) vb), (qx, 26, rcells (aEx r (max E u)) vx)]) (by kernel_rfl) ?_
          show wpAnyH _ _ _ _ _ 16 (Array.replicate 16 false) _ _
          obtain ⟨X, hX⟩ : ∃ X : World, X = { w22 with drawn := w22.drawn + 1 } := ⟨_, rfl⟩
          rw [← hX]
          have HS_ : Loc w X [(q1, 26, rcells r vc), (qa, 26, rcells (aEx r (max E u)) vx), (qb, 26, rcells (aEx r F) vb), (qx, 26, rcells (aEx r (max E u)) vx)] := by rw [hX]; exact Rw22.out.drew
          have K1y : POwn X w.heap.size va r.cp := by rw [hX]; exact K1.out.later (Below.drewN (Below.refl _ _) 1)
          have K2y : POwn X w.heap.size vb r.cp := by rw [hX]; exact K2.out.later (Below.drewN (Below.refl _ _) 1)
          have K3y : POwn X w.heap.size vx (aEx r (max E u)).cp := by rw [hX]; exact K3.out.later (Below.drewN (Below.refl _ _) 1)
          clear hX
          apply share3 (P := fun W q v => Hid (Loc w W [(q1, 26, rcells r vc), (qa, 26, rcells (aEx r (max E u)) vx), (qb, 26, rcells (aEx r F) vb), (qx, 26, rcells (aEx r (max E u)) vx), (q, 26, rcells rz v)] ∧ POwn W w.heap.size va r.cp ∧ POwn W w.heap.size vb r.cp ∧ POwn W w.heap.size vx (aEx r (max E u)).cp ∧ POwn W w.heap.size v rz.cp))
          intro hG
          have hX : True := trivial
          clear hX
          refine takeH (i := 0) (some 51) rfl rfl (by kernel_rfl) (by kernel_rfl) (by kernel_rfl) (fun _ _ _ h => h) (gRun rfl (.agg (rcells (aEx r F) vb).toArray) fun _ h => run_loadA ag26 (.tmp 7) rfl qb (0) rfl (rcells (aEx r F) vb) ((show Rok (aEx r F) vb from ⟨HRt.out.1, HRt.out.2, K2.out.isSl⟩)).len (h.rows 2 rfl)) HS_ ?_
          simp only [Act.put, List.setIfInBounds_toArray, List.set_cons_succ, List.set_cons_zero]
          refine takeH (i := 1) (some 52) rfl rfl (by kernel_rfl) (by kernel_rfl) (by kernel_rfl) (fun _ _ _ h => h) (gRun rfl vl fun _ h => run_mvZ (.tmp 1) rfl vl rfl) HS_ ?_
          simp only [Act.put, List.setIfInBounds_toArray, List.set_cons_succ, List.set_cons_zero]
          refine takeH (i := 2) (some 53) rfl rfl (by kernel_rfl) (by kernel_rfl) (by kernel_rfl) (fun _ _ _ h => h) (gRun rfl vl fun _ h => run_mvZ (.tmp 1) rfl vl rfl) HS_ ?_
          simp only [Act.put, List.setIfInBounds_toArray, List.set_cons_succ, List.set_cons_zero]
          refine takeH (i := 3) (some 54) rfl rfl (by kernel_rfl) (by kernel_rfl) (by kernel_rfl) (fun _ _ _ h => h) (gRun rfl (.int .i64 (m : Nat)) fun _ h => (by rw [HF.out.2.2.1]; exact run_lenN HF.out.2.1 (.tmp 53) rfl rfl)) HS_ ?_
          simp only [Act.put, List.setIfInBounds_toArray, List.set_cons_succ, List.set_cons_zero]
          refine takeH (i := 4) (some 55) rfl rfl (by kernel_rfl) (by kernel_rfl) (by kernel_rfl) (fun _ _ _ h => h) (gRun rfl (.int .i64 ((m - 1 : Nat))) fun _ h => run_subN (.tmp 54) (.const (.int .i64 1)) rfl m 1 rfl rfl (by omega) HF.out.2.2.2.1) HS_ ?_
          simp only [Act.put, List.setIfInBounds_toArray, List.set_cons_succ, List.set_cons_zero]
          refine takeH (i := 5) (some 56) rfl rfl (by kernel_rfl) (by kernel_rfl) (by kernel_rfl) (fun _ _ _ h => h) (gRun rfl (.int .i64 (i : Nat)) fun _ h => run_mvZ (.tmp 9) rfl (.int .i64 (i : Nat)) rfl) HS_ ?_
          simp only [Act.put, List.setIfInBounds_toArray, List.set_cons_succ, List.set_cons_zero]
          refine takeH (i := 6) (some 57) rfl rfl (by kernel_rfl) (by kernel_rfl) (by kernel_rfl) (fun _ _ _ h => h) (gRun rfl (.int .i64 ((m - 1 - i : Nat))) fun _ h => run_subN (.tmp 55) (.tmp 56) rfl (m - 1) i rfl rfl (by omega) (by have := HF.out.2.2.2.1; omega)) HS_ ?_
          simp only [Act.put, List.setIfInBounds_toArray, List.set_cons_succ, List.set_cons_zero]
          refine takeH (i := 7) (some 58) rfl rfl (by kernel_rfl) (by kernel_rfl) (by kernel_rfl) (fun _ _ _ h => h) (gRun rfl (.pointer (some ⟨b2, o2, none⟩)) fun _ h => run_idx (.tmp 52) (.tmp 57) rfl vl _ _ rfl rfl HX.out.2.2.1) HS_ ?_
          simp only [Act.put, List.setIfInBounds_toArray, List.set_cons_succ, List.set_cons_zero]
          refine takeH (i := 8) (some 59) rfl rfl (by kernel_rfl) (by kernel_rfl) (by kernel_rfl) (fun _ _ _ h => h) (gRun rfl (.int .i64 z) fun _ h => run_load1 o3 (.tmp 58) rfl b2 (o2) rfl (.int .i64 z) (cell_later HX.out.2.2.2 h.below)) HS_ ?_
          simp only [Act.put, List.setIfInBounds_toArray, List.set_cons_succ, List.set_cons_zero]
          refine twoH (i := 9) (j := 13) (by kernel_rfl) ?_ ?_
          · refine opCallG (some 60) rfl rfl rfl 6 _ (run_call eN11 [.tmp 51, .tmp 59] _ rfl [(.agg (rcells (aEx r F) vb).toArray), (.int .i64 z)] rfl) ?_
            refine (HCl.out X ((show POwn X w.heap.size vb (aEx r F).cp from K2y).fitR HRt.out HF.out.2.2.2.2.2)).mono ?_
            rintro e X1 ⟨vy, rfl, b_, o_⟩
            refine ⟨_, rfl, ?_⟩
            have K4y : POwn X1 w.heap.size vy rz.cp := o_.weaken HS_.below.size
            clear o_
            replace K1y : POwn X1 w.heap.size va r.cp := K1y.later b_
            replace K2y : POwn X1 w.heap.size vb r.cp := K2y.later b_
            replace K3y : POwn X1 w.heap.size vx (aEx r (max E u)).cp := K3y.later b_
            replace HS_ := HS_.later b_
            clear b_
            refine ⟨HS_, ?_⟩
            simp only [Act.put, List.setIfInBounds_toArray, List.set_cons_succ, List.set_cons_zero]
            refine takeH (i := 10) (some 50) rfl rfl (by kernel_rfl) (by kernel_rfl) (by kernel_rfl) (fun _ _ _ h => h) (gRun rfl (.tuple #[(.agg (rcells rz vy).toArray), (.int .i64 1)]) fun _ h => run_mvZ (.tmp 60) rfl (.tuple #[(.agg (rcells rz vy).toArray), (.int .i64 1)]) rfl) HS_ ?_
            simp only [Act.put, List.setIfInBounds_toArray, List.set_cons_succ, List.set_cons_zero]
            refine takeH (i := 11) (some 61) rfl rfl (by kernel_rfl) (by kernel_rfl) (by kernel_rfl) (fun _ _ _ h => h) (gRun rfl (.agg (rcells rz vy).toArray) fun _ h => run_extZ (.tmp 50) 0 rfl #[(.agg (rcells rz vy).toArray), (.int .i64 1)] rfl (.agg (rcells rz vy).toArray) rfl) HS_ ?_
            simp only [Act.put, List.setIfInBounds_toArray, List.set_cons_succ, List.set_cons_zero]
            refine takeH (i := 12) (some 62) rfl rfl (by kernel_rfl) (by kernel_rfl) (by kernel_rfl) (fun _ _ _ h => h) (gRun rfl (.int .i64 1) fun _ h => run_extZ (.tmp 50) 1 rfl #[(.agg (rcells rz vy).toArray), (.int .i64 1)] rfl (.int .i64 1) rfl) HS_ ?_
            simp only [Act.put, List.setIfInBounds_toArray, List.set_cons_succ, List.set_cons_zero]
            refine oneH (i := 13) (by kernel_rfl) ?_
            refine opValueG (some 12) rfl rfl rfl (ptr X1.heap.size) _ (run_allocA (rcells rz (.slice none 0 0)) zero26 rfl) ?_
            have HL_ := HS_.box 26 (rcells rz (.slice none 0 0))
            have hB_ := below_alloc X1 (.cells (rcells rz (.slice none 0 0)).toArray 26)
            obtain ⟨X2, hW_⟩ : ∃ U_ : World, U_ = X1.alloc (.cells (rcells rz (.slice none 0 0)).toArray 26) := ⟨_, rfl⟩
            obtain ⟨qy, hq_⟩ : ∃ q, q = X1.heap.size := ⟨_, rfl⟩
            rw [← hW_, ← hq_] at HL_
            rw [← hW_] at hB_
            rw [← hW_, ← hq_]
            clear hW_ hq_
            replace HS_ := HS_.later hB_
            replace K1y : POwn X2 w.heap.size va r.cp := K1y.later hB_
            replace K2y : POwn X2 w.heap.size vb r.cp := K2y.later hB_
            replace K3y : POwn X2 w.heap.size vx (aEx r (max E u)).cp := K3y.later hB_
            replace K4y := K4y.later hB_
            clear hB_
            refine ⟨HS_, ?_⟩
            simp only [Act.put, List.setIfInBounds_toArray, List.set_cons_succ, List.set_cons_zero]
            refine oneH (i := 14) (by kernel_rfl) ?_
            obtain ⟨hst_, k_, hC_⟩ := HL_.st26 4 rfl (Rok.nil).len (rcells rz vy) ((show Rok rz vy from ⟨(rz_root).1, (rz_root).2, K4y.isSl⟩)).len ((show Rok rz vy from ⟨(rz_root).1, (rz_root).2, K4y.isSl⟩)).one
            have hR_ := HL_.at 4 rfl
            refine opSkipZ rfl rfl rfl _ (run_stV (.tmp 12) (.tmp 61) rfl qy 0 rfl _ rfl hst_) ?_
            obtain ⟨X3, hW_⟩ : ∃ U_ : World, U_ = X2.setRow qy (rcells rz vy).toArray := ⟨_, rfl⟩
            rw [← hW_] at k_ hC_ ⊢
            clear hst_ hW_
            replace K1y : POwn X3 w.heap.size va r.cp := K1y.off hR_ (by decide) hC_
            replace K2y : POwn X3 w.heap.size vb r.cp := K2y.off hR_ (by decide) hC_
            replace K3y : POwn X3 w.heap.size vx (aEx r (max E u)).cp := K3y.off hR_ (by decide) hC_
            replace K4y := K4y.off hR_ (by decide) hC_
            clear hR_ hC_
            replace HS_ : Loc w X3 [(q1, 26, rcells r vc), (qa, 26, rcells (aEx r (max E u)) vx), (qb, 26, rcells (aEx r F) vb), (qx, 26, rcells (aEx r (max E u)) vx)] := k_.take 4
            refine ⟨HS_, ?_⟩
            refine takeH (i := 15) (some 13) rfl rfl (by kernel_rfl) (by kernel_rfl) (by kernel_rfl) (fun _ _ _ h => h) (gRun rfl (.int .i64 1) fun _ h => run_asZ (.tmp 62) rfl (.int .i64 1) rfl) HS_ ?_
            simp only [Act.put, List.setIfInBounds_toArray, List.set_cons_succ, List.set_cons_zero]
            refine wpAnyH_done (by kernel_rfl) ?_ _
            exact hG X3 qy vy ⟨k_, K1y, K2y, K3y, K4y⟩
          · refine opValueG (some 12) rfl rfl rfl (ptr X.heap.size) _ (run_allocA (rcells rz (.slice none 0 0)) zero26 rfl) ?_
            have HL_ := HS_.box 26 (rcells rz (.slice none 0 0))
            have hB_ := below_alloc X (.cells (rcells rz (.slice none 0 0)).toArray 26)
            obtain ⟨X1, hW_⟩ : ∃ U_ : World, U_ = X.alloc (.cells (rcells rz (.slice none 0 0)).toArray 26) := ⟨_, rfl⟩
            obtain ⟨qy, hq_⟩ : ∃ q, q = X.heap.size := ⟨_, rfl⟩
            rw [← hW_, ← hq_] at HL_
            rw [← hW_] at hB_
            rw [← hW_, ← hq_]
            clear hW_ hq_
            replace HS_ := HS_.later hB_
            replace K1y : POwn X1 w.heap.size va r.cp := K1y.later hB_
            replace K2y : POwn X1 w.heap.size vb r.cp := K2y.later hB_
            replace K3y : POwn X1 w.heap.size vx (aEx r (max E u)).cp := K3y.later hB_
            clear hB_
            refine ⟨HS_, ?_⟩
            simp only [Act.put, List.setIfInBounds_toArray, List.set_cons_succ, List.set_cons_zero]
            refine oneH (i := 9) (by kernel_rfl) ?_
            refine opCallG (some 60) rfl rfl rfl 6 _ (run_call eN11 [.tmp 51, .tmp 59] _ rfl [(.agg (rcells (aEx r F) vb).toArray), (.int .i64 z)] rfl) ?_
            refine (HCl.out X1 ((show POwn X1 w.heap.size vb (aEx r F).cp from K2y).fitR HRt.out HF.out.2.2.2.2.2)).mono ?_
            rintro e X2 ⟨vy, rfl, b_, o_⟩
            refine ⟨_, rfl, ?_⟩
            have K4y : POwn X2 w.heap.size vy rz.cp := o_.weaken HS_.below.size
            clear o_
            replace K1y : POwn X2 w.heap.size va r.cp := K1y.later b_
            replace K2y : POwn X2 w.heap.size vb r.cp := K2y.later b_
            replace K3y : POwn X2 w.heap.size vx (aEx r (max E u)).cp := K3y.later b_
            replace HS_ := HS_.later b_
            replace HL_ := HL_.later b_
            clear b_
            refine ⟨HS_, ?_⟩
            simp only [Act.put, List.setIfInBounds_toArray, List.set_cons_succ, List.set_cons_zero]
            refine takeH (i := 10) (some 50) rfl rfl (by kernel_rfl) (by kernel_rfl) (by kernel_rfl) (fun _ _ _ h => h) (gRun rfl (.tuple #[(.agg (rcells rz vy).toArray), (.int .i64 1)]) fun _ h => run_mvZ (.tmp 60) rfl (.tuple #[(.agg (rcells rz vy).toArray), (.int .i64 1)]) rfl) HS_ ?_
            simp only [Act.put, List.setIfInBounds_toArray, List.set_cons_succ, List.set_cons_zero]
            refine takeH (i := 11) (some 61) rfl rfl (by kernel_rfl) (by kernel_rfl) (by kernel_rfl) (fun _ _ _ h => h) (gRun rfl (.agg (rcells rz vy).toArray) fun _ h => run_extZ (.tmp 50) 0 rfl #[(.agg (rcells rz vy).toArray), (.int .i64 1)] rfl (.agg (rcells rz vy).toArray) rfl) HS_ ?_
            simp only [Act.put, List.setIfInBounds_toArray, List.set_cons_succ, List.set_cons_zero]
            refine takeH (i := 12) (some 62) rfl rfl (by kernel_rfl) (by kernel_rfl) (by kernel_rfl) (fun _ _ _ h => h) (gRun rfl (.int .i64 1) fun _ h => run_extZ (.tmp 50) 1 rfl #[(.agg (rcells rz vy).toArray), (.int .i64 1)] rfl (.int .i64 1) rfl) HS_ ?_
            simp only [Act.put, List.setIfInBounds_toArray, List.set_cons_succ, List.set_cons_zero]
            refine oneH (i := 14) (by kernel_rfl) ?_
            obtain ⟨hst_, k_, hC_⟩ := HL_.st26 4 rfl (Rok.nil).len (rcells rz vy) ((show Rok rz vy from ⟨(rz_root).1, (rz_root).2, K4y.isSl⟩)).len ((show Rok rz vy from ⟨(rz_root).1, (rz_root).2, K4y.isSl⟩)).one
            have hR_ := HL_.at 4 rfl
            refine opSkipZ rfl rfl rfl _ (run_stV (.tmp 12) (.tmp 61) rfl qy 0 rfl _ rfl hst_) ?_
            obtain ⟨X3, hW_⟩ : ∃ U_ : World, U_ = X2.setRow qy (rcells rz vy).toArray := ⟨_, rfl⟩
            rw [← hW_] at k_ hC_ ⊢
            clear hst_ hW_
            replace K1y : POwn X3 w.heap.size va r.cp := K1y.off hR_ (by decide) hC_
            replace K2y : POwn X3 w.heap.size vb r.cp := K2y.off hR_ (by decide) hC_
            replace K3y : POwn X3 w.heap.size vx (aEx r (max E u)).cp := K3y.off hR_ (by decide) hC_
            replace K4y := K4y.off hR_ (by decide) hC_
            clear hR_ hC_
            replace HS_ : Loc w X3 [(q1, 26, rcells r vc), (qa, 26, rcells (aEx r (max E u)) vx), (qb, 26, rcells (aEx r F) vb), (qx, 26, rcells (aEx r (max E u)) vx)] := k_.take 4
            refine ⟨HS_, ?_⟩
            refine takeH (i := 15) (some 13) rfl rfl (by kernel_rfl) (by kernel_rfl) (by kernel_rfl) (fun _ _ _ h => h) (gRun rfl (.int .i64 1) fun _ h => run_asZ (.tmp 62) rfl (.int .i64 1) rfl) HS_ ?_
            simp only [Act.put, List.setIfInBounds_toArray, List.set_cons_succ, List.set_cons_zero]
            refine wpAnyH_done (by kernel_rfl) ?_ _
            exact hG X3 qy vy ⟨k_, K1y, K2y, K3y, K4y⟩
          clear Rw22 HCl K1 K2 K3
          intro w23 qy vy H5_
          have Rw23 : Hid (Loc w w23 [(q1, 26, rcells r vc), (qa, 26, rcells (aEx r (max E u)) vx), (qb, 26, rcells (aEx r F) vb), (qx, 26, rcells (aEx r (max E u)) vx), (qy, 26, rcells rz vy)]) := H5_.out.1
          have K1 : Hid (POwn w23 w.heap.size va r.cp) := H5_.out.2.1
          have K2 : Hid (POwn w23 w.heap.size vb r.cp) := H5_.out.2.2.1
          have K3 : Hid (POwn w23 w.heap.size vx (aEx r (max E u)).cp) := H5_.out.2.2.2.1
          have K4 : Hid (POwn w23 w.heap.size vy rz.cp) := H5_.out.2.2.2.2
          clear H5_
          go_upto_region 17 with fail
          refine wp_region_lit ?_
          refine wl rfl (.int .i64 1) _ (run_mvZ (.tmp 13) rfl (.int .i64 1) rfl) ?_
          simp only [Act.put, List.setIfInBounds_toArray, List.set_cons_succ, List.set_cons_zero]
          refine wl rfl (.bool false) _ (run_eqZ (.tmp 63) (.const (.int .i64 0)) rfl (1) (0) rfl rfl false rfl) ?_
          simp only [Act.put, List.setIfInBounds_toArray, List.set_cons_succ, List.set_cons_zero]
          refine wpList_nil ?_
          go_upto_region 11 with fail
          refine wp_region_lit ?_
          refine wl rfl (.int .i64 (i : Nat)) _ (run_mvZ (.tmp 9) rfl (.int .i64 (i : Nat)) rfl) ?_
          simp only [Act.put, List.setIfInBounds_toArray, List.set_cons_succ, List.set_cons_zero]
          refine wl rfl (.int .i64 ((i + 1 : Nat))) _ (run_addI (.tmp 30) rfl i m hlt HF.out.2.2.2.1 rfl) ?_
          simp only [Act.put, List.setIfInBounds_toArray, List.set_cons_succ, List.set_cons_zero]
          refine wl rfl (.int .i64 ((i + 1 : Nat))) _ (run_asZ (.tmp 31) rfl (.int .i64 ((i + 1 : Nat))) rfl) ?_
          simp only [Act.put, List.setIfInBounds_toArray, List.set_cons_succ, List.set_cons_zero]
          refine wpList_nil ?_
          go_wp2_with fail
          exact ⟨⟨(max E u), i + 1, rfl, rfl, by omega, ⟨F, vx, vb, Rw23.out.take 3, K3.out, K2.out, by rw [HU.out.1, stepU, if_neg (by rw [HBu.out]; exact Bool.false_ne_true)], by rw [HU.out.2, stepU, if_pos HBz.out]⟩⟩, by simp [intOf]; omega⟩
        have HBz : Hid (badU z = false) := eq_false_of_ne_true hbz
        clear hbz
        · have HCl : Hid (∀ U, Fits U (aEx r F) vb → Calls Try.prog 6 #[.agg (rcells (aEx r F) vb).toArray, .int .i64 z] U fun e w' => ∃ v', e = .returned (.tuple #[.agg (rcells (aEx r (max F z)) v').toArray, .int .i64 0]) ∧ Below U.heap.size U w' ∧ POwn w' U.heap.size v' (aEx r (max F z)).cp) := fun U h => by
            have h_ := lock_any (aEx r F) vb z U h (show r.cp.length * 32 ≤ 140737488355328 by have := HF.out.2.2.2.2.1; omega)
            rw [lock_good r F z HBz.out HGo.out] at h_
            exact h_
          go_upto_region 16 with fail
          refine wp_region_held (S := fun X => Loc w X [(q1, 26, rcells r vc), (qa, 26, rcells (aEx r (max E u)) vx), (qb, 26, rcells (aEx r F) vb), (qx, 26, rcells (aEx r (max E u)) vx)]) (by kernel_rfl) ?_
          show wpAnyH _ _ _ _ _ 16 (Array.replicate 16 false) _ _
          obtain ⟨X, hX⟩ : ∃ X : World, X = { w22 with drawn := w22.drawn + 1 } := ⟨_, rfl⟩
          rw [← hX]
          have HS_ : Loc w X [(q1, 26, rcells r vc), (qa, 26, rcells (aEx r (max E u)) vx), (qb, 26, rcells (aEx r F) vb), (qx, 26, rcells (aEx r (max E u)) vx)] := by rw [hX]; exact Rw22.out.drew
          have K1y : POwn X w.heap.size va r.cp := by rw [hX]; exact K1.out.later (Below.drewN (Below.refl _ _) 1)
          have K2y : POwn X w.heap.size vb r.cp := by rw [hX]; exact K2.out.later (Below.drewN (Below.refl _ _) 1)
          have K3y : POwn X w.heap.size vx (aEx r (max E u)).cp := by rw [hX]; exact K3.out.later (Below.drewN (Below.refl _ _) 1)
          clear hX
          apply share3 (P := fun W q v => Hid (Loc w W [(q1, 26, rcells r vc), (qa, 26, rcells (aEx r (max E u)) vx), (qb, 26, rcells (aEx r F) vb), (qx, 26, rcells (aEx r (max E u)) vx), (q, 26, rcells (aEx r (max F z)) v)] ∧ POwn W w.heap.size va r.cp ∧ POwn W w.heap.size vb r.cp ∧ POwn W w.heap.size vx (aEx r (max E u)).cp ∧ POwn W w.heap.size v (aEx r (max F z)).cp))
          intro hG
          have hX : True := trivial
          clear hX
          refine takeH (i := 0) (some 51) rfl rfl (by kernel_rfl) (by kernel_rfl) (by kernel_rfl) (fun _ _ _ h => h) (gRun rfl (.agg (rcells (aEx r F) vb).toArray) fun _ h => run_loadA ag26 (.tmp 7) rfl qb (0) rfl (rcells (aEx r F) vb) ((show Rok (aEx r F) vb from ⟨HRt.out.1, HRt.out.2, K2.out.isSl⟩)).len (h.rows 2 rfl)) HS_ ?_
          simp only [Act.put, List.setIfInBounds_toArray, List.set_cons_succ, List.set_cons_zero]
          refine takeH (i := 1) (some 52) rfl rfl (by kernel_rfl) (by kernel_rfl) (by kernel_rfl) (fun _ _ _ h => h) (gRun rfl vl fun _ h => run_mvZ (.tmp 1) rfl vl rfl) HS_ ?_
          simp only [Act.put, List.setIfInBounds_toArray, List.set_cons_succ, List.set_cons_zero]
          refine takeH (i := 2) (some 53) rfl rfl (by kernel_rfl) (by kernel_rfl) (by kernel_rfl) (fun _ _ _ h => h) (gRun rfl vl fun _ h => run_mvZ (.tmp 1) rfl vl rfl) HS_ ?_
          simp only [Act.put, List.setIfInBounds_toArray, List.set_cons_succ, List.set_cons_zero]
          refine takeH (i := 3) (some 54) rfl rfl (by kernel_rfl) (by kernel_rfl) (by kernel_rfl) (fun _ _ _ h => h) (gRun rfl (.int .i64 (m : Nat)) fun _ h => (by rw [HF.out.2.2.1]; exact run_lenN HF.out.2.1 (.tmp 53) rfl rfl)) HS_ ?_
          simp only [Act.put, List.setIfInBounds_toArray, List.set_cons_succ, List.set_cons_zero]
          refine takeH (i := 4) (some 55) rfl rfl (by kernel_rfl) (by kernel_rfl) (by kernel_rfl) (fun _ _ _ h => h) (gRun rfl (.int .i64 ((m - 1 : Nat))) fun _ h => run_subN (.tmp 54) (.const (.int .i64 1)) rfl m 1 rfl rfl (by omega) HF.out.2.2.2.1) HS_ ?_
          simp only [Act.put, List.setIfInBounds_toArray, List.set_cons_succ, List.set_cons_zero]
          refine takeH (i := 5) (some 56) rfl rfl (by kernel_rfl) (by kernel_rfl) (by kernel_rfl) (fun _ _ _ h => h) (gRun rfl (.int .i64 (i : Nat)) fun _ h => run_mvZ (.tmp 9) rfl (.int .i64 (i : Nat)) rfl) HS_ ?_
          simp only [Act.put, List.setIfInBounds_toArray, List.set_cons_succ, List.set_cons_zero]
          refine takeH (i := 6) (some 57) rfl rfl (by kernel_rfl) (by kernel_rfl) (by kernel_rfl) (fun _ _ _ h => h) (gRun rfl (.int .i64 ((m - 1 - i : Nat))) fun _ h => run_subN (.tmp 55) (.tmp 56) rfl (m - 1) i rfl rfl (by omega) (by have := HF.out.2.2.2.1; omega)) HS_ ?_
          simp only [Act.put, List.setIfInBounds_toArray, List.set_cons_succ, List.set_cons_zero]
          refine takeH (i := 7) (some 58) rfl rfl (by kernel_rfl) (by kernel_rfl) (by kernel_rfl) (fun _ _ _ h => h) (gRun rfl (.pointer (some ⟨b2, o2, none⟩)) fun _ h => run_idx (.tmp 52) (.tmp 57) rfl vl _ _ rfl rfl HX.out.2.2.1) HS_ ?_
          simp only [Act.put, List.setIfInBounds_toArray, List.set_cons_succ, List.set_cons_zero]
          refine takeH (i := 8) (some 59) rfl rfl (by kernel_rfl) (by kernel_rfl) (by kernel_rfl) (fun _ _ _ h => h) (gRun rfl (.int .i64 z) fun _ h => run_load1 o3 (.tmp 58) rfl b2 (o2) rfl (.int .i64 z) (cell_later HX.out.2.2.2 h.below)) HS_ ?_
          simp only [Act.put, List.setIfInBounds_toArray, List.set_cons_succ, List.set_cons_zero]
          refine twoH (i := 9) (j := 13) (by kernel_rfl) ?_ ?_
          · refine opCallG (some 60) rfl rfl rfl 6 _ (run_call eN11 [.tmp 51, .tmp 59] _ rfl [(.agg (rcells (aEx r F) vb).toArray), (.int .i64 z)] rfl) ?_
            refine (HCl.out X ((show POwn X w.heap.size vb (aEx r F).cp from K2y).fitR HRt.out HF.out.2.2.2.2.2)).mono ?_
            rintro e X1 ⟨vy, rfl, b_, o_⟩
            refine ⟨_, rfl, ?_⟩
            have K4y : POwn X1 w.heap.size vy (aEx r (max F z)).cp := o_.weaken HS_.below.size
            clear o_
            replace K1y : POwn X1 w.heap.size va r.cp := K1y.later b_
            replace K2y : POwn X1 w.heap.size vb r.cp := K2y.later b_
            replace K3y : POwn X1 w.heap.size vx (aEx r (max E u)).cp := K3y.later b_
            replace HS_ := HS_.later b_
            clear b_
            refine ⟨HS_, ?_⟩
            simp only [Act.put, List.setIfInBounds_toArray, List.set_cons_succ, List.set_cons_zero]
            refine takeH (i := 10) (some 50) rfl rfl (by kernel_rfl) (by kernel_rfl) (by kernel_rfl) (fun _ _ _ h => h) (gRun rfl (.tuple #[(.agg (rcells (aEx r (max F z)) vy).toArray), (.int .i64 0)]) fun _ h => run_mvZ (.tmp 60) rfl (.tuple #[(.agg (rcells (aEx r (max F z)) vy).toArray), (.int .i64 0)]) rfl) HS_ ?_
            simp only [Act.put, List.setIfInBounds_toArray, List.set_cons_succ, List.set_cons_zero]
            refine takeH (i := 11) (some 61) rfl rfl (by kernel_rfl) (by kernel_rfl) (by kernel_rfl) (fun _ _ _ h => h) (gRun rfl (.agg (rcells (aEx r (max F z)) vy).toArray) fun _ h => run_extZ (.tmp 50) 0 rfl #[(.agg (rcells (aEx r (max F z)) vy).toArray), (.int .i64 0)] rfl (.agg (rcells (aEx r (max F z)) vy).toArray) rfl) HS_ ?_
            simp only [Act.put, List.setIfInBounds_toArray, List.set_cons_succ, List.set_cons_zero]
            refine takeH (i := 12) (some 62) rfl rfl (by kernel_rfl) (by kernel_rfl) (by kernel_rfl) (fun _ _ _ h => h) (gRun rfl (.int .i64 0) fun _ h => run_extZ (.tmp 50) 1 rfl #[(.agg (rcells (aEx r (max F z)) vy).toArray), (.int .i64 0)] rfl (.int .i64 0) rfl) HS_ ?_
            simp only [Act.put, List.setIfInBounds_toArray, List.set_cons_succ, List.set_cons_zero]
            refine oneH (i := 13) (by kernel_rfl) ?_
            refine opValueG (some 12) rfl rfl rfl (ptr X1.heap.size) _ (run_allocA (rcells rz (.slice none 0 0)) zero26 rfl) ?_
            have HL_ := HS_.box 26 (rcells rz (.slice none 0 0))
            have hB_ := below_alloc X1 (.cells (rcells rz (.slice none 0 0)).toArray 26)
            obtain ⟨X2, hW_⟩ : ∃ U_ : World, U_ = X1.alloc (.cells (rcells rz (.slice none 0 0)).toArray 26) := ⟨_, rfl⟩
            obtain ⟨qy, hq_⟩ : ∃ q, q = X1.heap.size := ⟨_, rfl⟩
            rw [← hW_, ← hq_] at HL_
            rw [← hW_] at hB_
            rw [← hW_, ← hq_]
            clear hW_ hq_
            replace HS_ := HS_.later hB_
            replace K1y : POwn X2 w.heap.size va r.cp := K1y.later hB_
            replace K2y : POwn X2 w.heap.size vb r.cp := K2y.later hB_
            replace K3y : POwn X2 w.heap.size vx (aEx r (max E u)).cp := K3y.later hB_
            replace K4y := K4y.later hB_
            clear hB_
            refine ⟨HS_, ?_⟩
            simp only [Act.put, List.setIfInBounds_toArray, List.set_cons_succ, List.set_cons_zero]
            refine oneH (i := 14) (by kernel_rfl) ?_
            obtain ⟨hst_, k_, hC_⟩ := HL_.st26 4 rfl (Rok.nil).len (rcells (aEx r (max F z)) vy) ((show Rok (aEx r (max F z)) vy from ⟨(HRt.out).1, (HRt.out).2, K4y.isSl⟩)).len ((show Rok (aEx r (max F z)) vy from ⟨(HRt.out).1, (HRt.out).2, K4y.isSl⟩)).one
            have hR_ := HL_.at 4 rfl
            refine opSkipZ rfl rfl rfl _ (run_stV (.tmp 12) (.tmp 61) rfl qy 0 rfl _ rfl hst_) ?_
            obtain ⟨X3, hW_⟩ : ∃ U_ : World, U_ = X2.setRow qy (rcells (aEx r (max F z)) vy).toArray := ⟨_, rfl⟩
            rw [← hW_] at k_ hC_ ⊢
            clear hst_ hW_
            replace K1y : POwn X3 w.heap.size va r.cp := K1y.off hR_ (by decide) hC_
            replace K2y : POwn X3 w.heap.size vb r.cp := K2y.off hR_ (by decide) hC_
            replace K3y : POwn X3 w.heap.size vx (aEx r (max E u)).cp := K3y.off hR_ (by decide) hC_
            replace K4y := K4y.off hR_ (by decide) hC_
            clear hR_ hC_
            replace HS_ : Loc w X3 [(q1, 26, rcells r vc), (qa, 26, rcells (aEx r (max E u)) vx), (qb, 26, rcells (aEx r F) vb), (qx, 26, rcells (aEx r (max E u)) vx)] := k_.take 4
            refine ⟨HS_, ?_⟩
            refine takeH (i := 15) (some 13) rfl rfl (by kernel_rfl) (by kernel_rfl) (by kernel_rfl) (fun _ _ _ h => h) (gRun rfl (.int .i64 0) fun _ h => run_asZ (.tmp 62) rfl (.int .i64 0) rfl) HS_ ?_
            simp only [Act.put, List.setIfInBounds_toArray, List.set_cons_succ, List.set_cons_zero]
            refine wpAnyH_done (by kernel_rfl) ?_ _
            exact hG X3 qy vy ⟨k_, K1y, K2y, K3y, K4y⟩
          · refine opValueG (some 12) rfl rfl rfl (ptr X.heap.size) _ (run_allocA (rcells rz (.slice none 0 0)) zero26 rfl) ?_
            have HL_ := HS_.box 26 (rcells rz (.slice none 0 0))
            have hB_ := below_alloc X (.cells (rcells rz (.slice none 0 0)).toArray 26)
            obtain ⟨X1, hW_⟩ : ∃ U_ : World, U_ = X.alloc (.cells (rcells rz (.slice none 0 0)).toArray 26) := ⟨_, rfl⟩
            obtain ⟨qy, hq_⟩ : ∃ q, q = X.heap.size := ⟨_, rfl⟩
            rw [← hW_, ← hq_] at HL_
            rw [← hW_] at hB_
            rw [← hW_, ← hq_]
            clear hW_ hq_
            replace HS_ := HS_.later hB_
            replace K1y : POwn X1 w.heap.size va r.cp := K1y.later hB_
            replace K2y : POwn X1 w.heap.size vb r.cp := K2y.later hB_
            replace K3y : POwn X1 w.heap.size vx (aEx r (max E u)).cp := K3y.later hB_
            clear hB_
            refine ⟨HS_, ?_⟩
            simp only [Act.put, List.setIfInBounds_toArray, List.set_cons_succ, List.set_cons_zero]
            refine oneH (i := 9) (by kernel_rfl) ?_
            refine opCallG (some 60) rfl rfl rfl 6 _ (run_call eN11 [.tmp 51, .tmp 59] _ rfl [(.agg (rcells (aEx r F) vb).toArray), (.int .i64 z)] rfl) ?_
            refine (HCl.out X1 ((show POwn X1 w.heap.size vb (aEx r F).cp from K2y).fitR HRt.out HF.out.2.2.2.2.2)).mono ?_
            rintro e X2 ⟨vy, rfl, b_, o_⟩
            refine ⟨_, rfl, ?_⟩
            have K4y : POwn X2 w.heap.size vy (aEx r (max F z)).cp := o_.weaken HS_.below.size
            clear o_
            replace K1y : POwn X2 w.heap.size va r.cp := K1y.later b_
            replace K2y : POwn X2 w.heap.size vb r.cp := K2y.later b_
            replace K3y : POwn X2 w.heap.size vx (aEx r (max E u)).cp := K3y.later b_
            replace HS_ := HS_.later b_
            replace HL_ := HL_.later b_
            clear b_
            refine ⟨HS_, ?_⟩
            simp only [Act.put, List.setIfInBounds_toArray, List.set_cons_succ, List.set_cons_zero]
            refine takeH (i := 10) (some 50) rfl rfl (by kernel_rfl) (by kernel_rfl) (by kernel_rfl) (fun _ _ _ h => h) (gRun rfl (.tuple #[(.agg (rcells (aEx r (max F z)) vy).toArray), (.int .i64 0)]) fun _ h => run_mvZ (.tmp 60) rfl (.tuple #[(.agg (rcells (aEx r (max F z)) vy).toArray), (.int .i64 0)]) rfl) HS_ ?_
            simp only [Act.put, List.setIfInBounds_toArray, List.set_cons_succ, List.set_cons_zero]
            refine takeH (i := 11) (some 61) rfl rfl (by kernel_rfl) (by kernel_rfl) (by kernel_rfl) (fun _ _ _ h => h) (gRun rfl (.agg (rcells (aEx r (max F z)) vy).toArray) fun _ h => run_extZ (.tmp 50) 0 rfl #[(.agg (rcells (aEx r (max F z)) vy).toArray), (.int .i64 0)] rfl (.agg (rcells (aEx r (max F z)) vy).toArray) rfl) HS_ ?_
            simp only [Act.put, List.setIfInBounds_toArray, List.set_cons_succ, List.set_cons_zero]
            refine takeH (i := 12) (some 62) rfl rfl (by kernel_rfl) (by kernel_rfl) (by kernel_rfl) (fun _ _ _ h => h) (gRun rfl (.int .i64 0) fun _ h => run_extZ (.tmp 50) 1 rfl #[(.agg (rcells (aEx r (max F z)) vy).toArray), (.int .i64 0)] rfl (.int .i64 0) rfl) HS_ ?_
            simp only [Act.put, List.setIfInBounds_toArray, List.set_cons_succ, List.set_cons_zero]
            refine oneH (i := 14) (by kernel_rfl) ?_
            obtain ⟨hst_, k_, hC_⟩ := HL_.st26 4 rfl (Rok.nil).len (rcells (aEx r (max F z)) vy) ((show Rok (aEx r (max F z)) vy from ⟨(HRt.out).1, (HRt.out).2, K4y.isSl⟩)).len ((show Rok (aEx r (max F z)) vy from ⟨(HRt.out).1, (HRt.out).2, K4y.isSl⟩)).one
            have hR_ := HL_.at 4 rfl
            refine opSkipZ rfl rfl rfl _ (run_stV (.tmp 12) (.tmp 61) rfl qy 0 rfl _ rfl hst_) ?_
            obtain ⟨X3, hW_⟩ : ∃ U_ : World, U_ = X2.setRow qy (rcells (aEx r (max F z)) vy).toArray := ⟨_, rfl⟩
            rw [← hW_] at k_ hC_ ⊢
            clear hst_ hW_
            replace K1y : POwn X3 w.heap.size va r.cp := K1y.off hR_ (by decide) hC_
            replace K2y : POwn X3 w.heap.size vb r.cp := K2y.off hR_ (by decide) hC_
            replace K3y : POwn X3 w.heap.size vx (aEx r (max E u)).cp := K3y.off hR_ (by decide) hC_
            replace K4y := K4y.off hR_ (by decide) hC_
            clear hR_ hC_
            replace HS_ : Loc w X3 [(q1, 26, rcells r vc), (qa, 26, rcells (aEx r (max E u)) vx), (qb, 26, rcells (aEx r F) vb), (qx, 26, rcells (aEx r (max E u)) vx)] := k_.take 4
            refine ⟨HS_, ?_⟩
            refine takeH (i := 15) (some 13) rfl rfl (by kernel_rfl) (by kernel_rfl) (by kernel_rfl) (fun _ _ _ h => h) (gRun rfl (.int .i64 0) fun _ h => run_asZ (.tmp 62) rfl (.int .i64 0) rfl) HS_ ?_
            simp only [Act.put, List.setIfInBounds_toArray, List.set_cons_succ, List.set_cons_zero]
            refine wpAnyH_done (by kernel_rfl) ?_ _
            exact hG X3 qy vy ⟨k_, K1y, K2y, K3y, K4y⟩
          clear Rw22 HCl K1 K2 K3
          intro w23 qy vy H5_
          have Rw23 : Hid (Loc w w23 [(q1, 26, rcells r vc), (qa, 26, rcells (aEx r (max E u)) vx), (qb, 26, rcells (aEx r F) vb), (qx, 26, rcells (aEx r (max E u)) vx), (qy, 26, rcells (aEx r (max F z)) vy)]) := H5_.out.1
          have K1 : Hid (POwn w23 w.heap.size va r.cp) := H5_.out.2.1
          have K2 : Hid (POwn w23 w.heap.size vb r.cp) := H5_.out.2.2.1
          have K3 : Hid (POwn w23 w.heap.size vx (aEx r (max E u)).cp) := H5_.out.2.2.2.1
          have K4 : Hid (POwn w23 w.heap.size vy (aEx r (max F z)).cp) := H5_.out.2.2.2.2
          clear H5_
          go_upto_region 17 with fail
          refine wp_region_lit ?_
          refine wl rfl (.int .i64 0) _ (run_mvZ (.tmp 13) rfl (.int .i64 0) rfl) ?_
          simp only [Act.put, List.setIfInBounds_toArray, List.set_cons_succ, List.set_cons_zero]
          refine wl rfl (.bool true) _ (run_eqZ (.tmp 63) (.const (.int .i64 0)) rfl (0) (0) rfl rfl true rfl) ?_
          simp only [Act.put, List.setIfInBounds_toArray, List.set_cons_succ, List.set_cons_zero]
          refine wpList_nil ?_
          go_upto_region 18 with fail
          refine wp_region_lit ?_
          refine wl rfl (.agg (rcells (aEx r (max F z)) vy).toArray) _ (run_loadA ag26 (.tmp 12) rfl qy (0) rfl (rcells (aEx r (max F z)) vy) ((show Rok (aEx r (max F z)) vy from ⟨(HRt.out).1, (HRt.out).2, K4.out.isSl⟩)).len (Rw23.out.rows 4 rfl)) ?_
          simp only [Act.put, List.setIfInBounds_toArray, List.set_cons_succ, List.set_cons_zero]
          obtain ⟨hst_, k_, hC_⟩ := Rw23.out.st26 2 rfl ((show Rok (aEx r F) vb from ⟨HRt.out.1, HRt.out.2, K2.out.isSl⟩)).len (rcells (aEx r (max F z)) vy) ((show Rok (aEx r (max F z)) vy from ⟨HRt.out.1, HRt.out.2, K4.out.isSl⟩)).len ((show Rok (aEx r (max F z)) vy from ⟨HRt.out.1, HRt.out.2, K4.out.isSl⟩)).one
          have hR_ := Rw23.out.at 2 rfl
          refine wlS rfl rfl _ (run_stV (.tmp 7) (.tmp 65) rfl qb 0 rfl _ rfl hst_) ?_
          obtain ⟨w24, hW_⟩ : ∃ U_ : World, U_ = w23.setRow qb (rcells (aEx r (max F z)) vy).toArray := ⟨_, rfl⟩
          rw [← hW_] at k_ hC_ ⊢
          clear hst_
          have K1x : Hid (POwn w24 w.heap.size va r.cp) := K1.out.off hR_ (by decide) hC_
          clear K1
          have K1 := K1x
          clear K1x
          have K2x : Hid (POwn w24 w.heap.size vb r.cp) := K2.out.off hR_ (by decide) hC_
          clear K2
          have K2 := K2x
          clear K2x
          have K3x : Hid (POwn w24 w.heap.size vx (aEx r (max E u)).cp) := K3.out.off hR_ (by decide) hC_
          clear K3
          have K3 := K3x
          clear K3x
          have K4x : Hid (POwn w24 w.heap.size vy (aEx r (max F z)).cp) := K4.out.off hR_ (by decide) hC_
          clear K4
          have K4 := K4x
          clear K4x
          have Rw24 : Hid (Loc w w24 [(q1, 26, rcells r vc), (qa, 26, rcells (aEx r (max E u)) vx), (qb, 26, rcells (aEx r (max F z)) vy), (qx, 26, rcells (aEx r (max E u)) vx), (qy, 26, rcells (aEx r (max F z)) vy)]) := k_
          clear k_ hW_ Rw23
          clear hC_ hR_
          refine wpList_nil ?_
          go_upto_region 11 with fail
          refine wp_region_lit ?_
          refine wl rfl (.int .i64 (i : Nat)) _ (run_mvZ (.tmp 9) rfl (.int .i64 (i : Nat)) rfl) ?_
          simp only [Act.put, List.setIfInBounds_toArray, List.set_cons_succ, List.set_cons_zero]
          refine wl rfl (.int .i64 ((i + 1 : Nat))) _ (run_addI (.tmp 30) rfl i m hlt HF.out.2.2.2.1 rfl) ?_
          simp only [Act.put, List.setIfInBounds_toArray, List.set_cons_succ, List.set_cons_zero]
          refine wl rfl (.int .i64 ((i + 1 : Nat))) _ (run_asZ (.tmp 31) rfl (.int .i64 ((i + 1 : Nat))) rfl) ?_
          simp only [Act.put, List.setIfInBounds_toArray, List.set_cons_succ, List.set_cons_zero]
          refine wpList_nil ?_
          go_wp2_with fail
          exact ⟨⟨(max E u), i + 1, rfl, rfl, by omega, ⟨(max F z), vx, vy, Rw24.out.take 3, K3.out, K4.out, by rw [HU.out.1, stepU, if_neg (by rw [HBu.out]; exact Bool.false_ne_true)], by rw [HU.out.2, stepU, if_neg (by rw [HBz.out]; exact Bool.false_ne_true)]⟩⟩, by simp [intOf]; omega⟩
    · have HD : Hid (decide (i < m) = false) := decide_eq_false hlt
      go_upto_region 10 with fail
      refine wp_region_lit ?_
      refine wl rfl (.int .i64 (i : Nat)) _ (run_mvZ (.tmp 9) rfl (.int .i64 (i : Nat)) rfl) ?_
      simp only [Act.put, List.setIfInBounds_toArray, List.set_cons_succ, List.set_cons_zero]
      refine wl rfl vl _ (run_mvZ (.tmp 1) rfl vl rfl) ?_
      simp only [Act.put, List.setIfInBounds_toArray, List.set_cons_succ, List.set_cons_zero]
      refine wl rfl (.int .i64 (m : Nat)) _ ((by rw [HF.out.2.2.1]; exact run_lenN HF.out.2.1 (.tmp 27) rfl rfl)) ?_
      simp only [Act.put, List.setIfInBounds_toArray, List.set_cons_succ, List.set_cons_zero]
      refine wl rfl (.bool false) _ (run_lssN (.tmp 26) (.tmp 28) rfl i m rfl rfl false HD.out) ?_
      simp only [Act.put, List.setIfInBounds_toArray, List.set_cons_succ, List.set_cons_zero]
      refine wpList_nil ?_
      have him : i = l.length := by rw [← HF.out.2.2.1]; omega
      have hEF : F = E := by rw [HE.out.1, HE.out.2, him, List.take_of_length_le (by rw [List.length_reverse]; exact Nat.le_refl _), List.take_of_length_le (Nat.le_refl _)]; exact topF_same _ _ _ fun u => List.mem_reverse
      subst hEF
      go_upto_region 19 with fail
      refine wp_region_lit ?_
      refine wl rfl (.bool true) _ (run_mvZ (.tmp 5) rfl (.bool true) rfl) ?_
      simp only [Act.put, List.setIfInBounds_toArray, List.set_cons_succ, List.set_cons_zero]
      refine wl rfl (.bool true) _ (run_mvZ (.tmp 66) rfl (.bool true) rfl) ?_
      simp only [Act.put, List.setIfInBounds_toArray, List.set_cons_succ, List.set_cons_zero]
      refine wl (by kernel_rfl) (.agg (rcells (aEx r F) va).toArray) _ (run_loadA ag26 (.tmp 6) rfl qa (0) rfl (rcells (aEx r F) va) ((show Rok (aEx r F) va from ⟨HRt.out.1, HRt.out.2, K1.out.isSl⟩)).len (RA.out.rows 1 rfl)) ?_
      simp only [Act.put, List.setIfInBounds_toArray, List.set_cons_succ, List.set_cons_zero]
      refine wl (by kernel_rfl) (.agg (rcells (aEx r F) vb).toArray) _ (run_loadA ag26 (.tmp 7) rfl qb (0) rfl (rcells (aEx r F) vb) ((show Rok (aEx r F) vb from ⟨HRt.out.1, HRt.out.2, K2.out.isSl⟩)).len (RA.out.rows 2 rfl)) ?_
      simp only [Act.put, List.setIfInBounds_toArray, List.set_cons_succ, List.set_cons_zero]
      refine wpList_callW eN13 [.tmp 68, .tmp 69] _ (by kernel_rfl) rfl [(.agg (rcells (aEx r F) va).toArray), (.agg (rcells (aEx r F) vb).toArray)] rfl ?_
      refine (same_yes (aEx r F) va vb wr ((show POwn wr w.heap.size va (aEx r F).cp from K1.out).fitR HRt.out HF.out.2.2.2.2.2) ((show POwn wr w.heap.size vb (aEx r F).cp from K2.out).fitR HRt.out HF.out.2.2.2.2.2)).mono ?_
      rintro e w21 ⟨rfl, b_⟩
      refine ⟨_, rfl, ?_⟩
      have K1x : Hid (POwn w21 w.heap.size va r.cp) := K1.out.later b_
      clear K1
      have K1 := K1x
      clear K1x
      have K2x : Hid (POwn w21 w.heap.size vb r.cp) := K2.out.later b_
      clear K2
      have K2 := K2x
      clear K2x
      have Rw21 : Hid (Loc w w21 [(q1, 26, rcells r vc), (qa, 26, rcells (aEx r F) va), (qb, 26, rcells (aEx r F) vb)]) := RA.out.later b_
      clear RA b_
      simp only [Act.put, List.setIfInBounds_toArray, List.set_cons_succ, List.set_cons_zero]
      refine wl rfl (.bool true) _ (run_pickZ (.tmp 67) (.tmp 70) (.const (.bool false)) rfl true (.bool true) rfl rfl) ?_
      simp only [Act.put, List.setIfInBounds_toArray, List.set_cons_succ, List.set_cons_zero]
      refine wl rfl (.bool true) _ (run_mvZ (.tmp 71) rfl (.bool true) rfl) ?_
      simp only [Act.put, List.setIfInBounds_toArray, List.set_cons_succ, List.set_cons_zero]
      refine wl (by kernel_rfl) (.pointer (some ⟨qa, 0 + 35, none⟩)) _ (run_fieldOp' f26_4 (.tmp 6) rfl qa (0) rfl) ?_
      simp only [Act.put, List.setIfInBounds_toArray, List.set_cons_succ, List.set_cons_zero]
      refine wl (by kernel_rfl) (.int .i64 F) _ (run_load1 o3 (.tmp 73) rfl qa (0 + 35) rfl (.int .i64 F) (Rw21.out.fld 1 rfl ((show Rok (aEx r F) va from ⟨HRt.out.1, HRt.out.2, K1.out.isSl⟩)).root 1 _ rfl)) ?_
      simp only [Act.put, List.setIfInBounds_toArray, List.set_cons_succ, List.set_cons_zero]
      refine wl (by kernel_rfl) (.int .i64 F) _ (run_mvZ (.tmp 8) rfl (.int .i64 F) rfl) ?_
      simp only [Act.put, List.setIfInBounds_toArray, List.set_cons_succ, List.set_cons_zero]
      refine wl (by kernel_rfl) (.bool true) _ (run_eqZ (.tmp 74) (.tmp 75) rfl F F rfl rfl true (by simp)) ?_
      simp only [Act.put, List.setIfInBounds_toArray, List.set_cons_succ, List.set_cons_zero]
      refine wl rfl (.bool true) _ (run_pickZ (.tmp 72) (.tmp 76) (.const (.bool false)) rfl true (.bool true) rfl rfl) ?_
      simp only [Act.put, List.setIfInBounds_toArray, List.set_cons_succ, List.set_cons_zero]
      refine wl rfl (.bool true) _ (run_asZ (.tmp 77) rfl (.bool true) rfl) ?_
      simp only [Act.put, List.setIfInBounds_toArray, List.set_cons_succ, List.set_cons_zero]
      refine wpList_nil ?_
      go_wp2_with fail
      first | (rw [HPQ.out]; exact ⟨rfl, Rw21.out.below⟩) | (go_ret; rw [HPQ.out]; exact ⟨rfl, Rw21.out.below⟩)

end Go.Proofs.Ytobolkllplmmcab

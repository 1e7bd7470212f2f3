/- What is due. -/
import Derived.Test.YtobolkllplmmcabT9
import Derived.Test.YtobolkllplmmcabT10
namespace Go.Proofs.Ytobolkllplmmcab
open Go.RowKit

section
variable {w : World} {a : Act} {o : Oper}
theorem run_boxV {t : Nat} (x : Operand) (ho : o.op = .box t x) (v : Value) (hx : a.eval x = v) (hv : v.cells = #[v]) : (execOp a.eval o).run Try.prog w = .ok (.value (ptr w.heap.size)) (w.alloc (.cells [v].toArray t)) := by
  simp [execOp, ho, hx, Instr.box, newVar, newRow, hv]
theorem run_mkf (x : Operand) (f : Fn) (ho : o.op = .makeFunc f #[] #[x]) (v : Value) (hx : a.eval x = v) : (execOp a.eval o).run Try.prog w = .ok (.value (.func f #[] #[v])) w := by
  simp [execOp, ho, hx, Instr.makeFunc]
end
theorem Loc.grownO {w W W' : World} {l : List (Nat × TypeId × List Value)} (h : Loc w W l) {base e sz n : Nat} {v : Value} {xs : List Value} (ho : W.ownsRow base e sz v n xs) (hg : W.grownBy W' v.ownBlock) (hb : w.heap.size ≤ base) (hT : l.all (fun x => x.2.1 != e) = true) : Loc w W' l := by
  refine h.keep ((Below.refl _ W).grown hg h.below.size fun k hk => Nat.le_trans hb (ho.lt k hk).1) fun i g T cs e => ?_
  have hr := h.at i e
  have hne := List.all_eq_true.1 hT _ (List.mem_of_getElem? e)
  exact hg.block g hr.lt fun e2 => own_ne ho hr (by simpa using hne) e2.symm
theorem RsIn.blk {w : World} {v : Value} {l : List Rv} (h : RsIn w v l) (hl : l ≠ []) : ∀ b, v.ownBlock = some b → b < w.heap.size := by
  obtain ⟨p, cap, rfl, _, hk, h⟩ := h
  rcases h with h | ⟨b, off, rfl, h1⟩
  · exact absurd h hl
  · intro b' hb'
    have e : b = b' := Option.some.inj hb'
    subst e
    have h0 : 0 < (rvs l).length := by
      rw [rvs_length l hk]
      have := List.length_pos_iff.2 hl
      omega
    have hj : 0 < l.length * 39 := by
      have := List.length_pos_iff.2 hl
      omega
    exact block_lt_of_cell ((h1 0 hj).trans (List.getElem?_eq_getElem h0))
/-- the numbers of what is due -/
def dueI (now : Int) (rs : List Rc) (k : Nat) : List Nat := (List.range k).filter fun i => dueB now (rs.getD i rz)
theorem dueI_succ (now : Int) (rs : List Rc) (k : Nat) : dueI now rs (k + 1) = dueI now rs k ++ if dueB now (rs.getD k rz) then [k] else [] := by
  unfold dueI
  rw [List.range_succ, List.filter_append]
  by_cases hb : dueB now (rs.getD k rz) = true
  · rw [if_pos hb, List.filter_cons_of_pos (by exact hb)]
    rfl
  · rw [if_neg hb, List.filter_cons_of_neg (by exact hb)]
    rfl
theorem dueI_len (now : Int) (rs : List Rc) (k : Nat) : (dueI now rs k).length ≤ k := by
  have := List.length_filter_le (fun i => dueB now (rs.getD i rz)) (List.range k)
  rwa [List.length_range] at this
theorem dueI_lt (now : Int) (rs : List Rc) (k : Nat) : ∀ i ∈ dueI now rs k, i < k := fun _ hi => List.mem_range.1 (List.mem_filter.1 hi).1
theorem range_getD (rs : List Rc) : (List.range rs.length).map (fun i => rs.getD i rz) = rs := by
  apply List.ext_getElem?
  intro i
  by_cases h : i < rs.length
  · simp [h]
  · simp [h]
theorem dueI_keys (now : Int) (rs : List Rc) : (dueI now rs rs.length).map (fun i => keyOf (rs.getD i rz)) = keys now rs := by
  unfold keys dueI
  have e := range_getD rs
  have : rs.filter (dueB now) = ((List.range rs.length).filter fun i => dueB now (rs.getD i rz)).map (fun i => rs.getD i rz) := by
    conv => lhs; rw [← e]
    rw [List.filter_map]
    rfl
  rw [this, List.map_map]
  rfl
theorem due_final (now : Int) (rs : List Rc) (D : List Nat) (hp : D.Perm (dueI now rs rs.length)) (hpw : D.Pairwise fun i j => ¬ RI rs j i) : IsDue now rs (D.map fun i => (rs.getD i rz).id) := by
  refine ⟨D.map fun i => keyOf (rs.getD i rz), ?_, ?_, ?_⟩
  · rw [← dueI_keys]
    exact hp.map _
  · unfold Up
    rw [List.pairwise_map]
    exact hpw.imp fun h k => h (Or.inl k)
  · rw [List.map_map]
    rfl
theorem getD_r (l : List Rv) (k : Nat) (x : Rv) (h : l[k]? = some x) : (l.map (·.r)).getD k rz = x.r := by
  rw [List.getD_eq_getElem?_getD, List.getElem?_map, h]
  rfl
set_option maxHeartbeats 4000000 in
set_option maxRecDepth 100000 in
theorem due_any (l : List Rv) (vl : Value) (now : Int) (w : World) (hin : RsIn w vl l) (hz : (l.length + 1) * 104 ≤ 140737488355328) : Calls Try.prog 10 #[vl, .int .i64 now] w fun e w' => ∃ v' out, e = .returned v' ∧ SOwn w' w.heap.size v' out ∧ IsDue now (l.map (·.r)) out ∧ Below w.heap.size w w' := by
  obtain ⟨n, hn⟩ : ∃ n, n = l.length := ⟨_, rfl⟩
  obtain ⟨rs, hrs⟩ : ∃ rs, rs = l.map (·.r) := ⟨_, rfl⟩
  rw [← hrs]
  have HF : Hid (RsIn w vl l ∧ n = l.length ∧ (n + 1) * 104 ≤ 140737488355328 ∧ n ≤ 9223372036854775807 ∧ rs = l.map (·.r) ∧ rs.length = n) := ⟨hin, hn, by rw [hn]; exact hz, by omega, hrs, by rw [hrs, List.length_map, hn]⟩
  have hv1 : vl.cells = #[vl] := by
    obtain ⟨p, cap, rfl, _⟩ := hin
    exact rfl
  have HV : Hid (vl.cells = #[vl]) := hv1
  clear hin hz hn hrs hv1
  obtain ⟨PQ, hPQ⟩ : ∃ PQ : Ending → World → Prop, PQ = fun (e : Ending) (w' : World) => ∃ v' out, e = .returned v' ∧ SOwn w' w.heap.size v' out ∧ IsDue now rs out ∧ Below w.heap.size w w' := ⟨_, rfl⟩
  have HPQ : Hid (PQ = fun (e : Ending) (w' : World) => ∃ v' out, e = .returned v' ∧ SOwn w' w.heap.size v' out ∧ IsDue now rs out ∧ Below w.heap.size w w') := hPQ
  rw [← hPQ]
  clear hPQ
  have R0 : Hid (Loc w w []) := Loc.nil (Below.refl _ w)
  go_enter Try.func10, Try.ntmps10
  go_upto_region 0 with fail
  refine wp_region_lit ?_
  refine wl rfl (ptr w.heap.size) _ (run_boxV (.tmp 0) rfl vl rfl HV.out) ?_
  have k_ := R0.out.box 40 [vl]
  obtain ⟨w1, hW_⟩ : ∃ W, W = w.alloc (.cells [vl].toArray 40) := ⟨_, rfl⟩
  obtain ⟨q1, hq_⟩ : ∃ q, q = w.heap.size := ⟨_, rfl⟩
  rw [← hW_, ← hq_] at k_
  rw [← hW_, ← hq_]
  clear hq_
  have R1 : Hid (Loc w w1 [(q1, 40, [vl])]) := k_
  clear k_ hW_ R0
  simp only [Act.put, List.setIfInBounds_toArray, List.set_cons_succ, List.set_cons_zero]
  refine wl rfl (.slice none 0 0) _ (run_asZ (.const (.slice none 0 0)) rfl (.slice none 0 0) rfl) ?_
  simp only [Act.put, List.setIfInBounds_toArray, List.set_cons_succ, List.set_cons_zero]
  refine wpList_nil ?_
  go_upto_region 1 with fail
  refine wp_region_lit ?_
  refine wl rfl (.slice none 0 0) _ (run_asZ (.const (.slice none 0 0)) rfl (.slice none 0 0) rfl) ?_
  simp only [Act.put, List.setIfInBounds_toArray, List.set_cons_succ, List.set_cons_zero]
  refine wpList_nil ?_
  have HC : Hid (w1.cell? ⟨q1, 0, none⟩ = some vl) := (R1.out.at 0 rfl).at 0 _ rfl
  go_upto_region 2 with fail
  refine wp_region_lit ?_
  refine wl rfl vl _ (run_load1 o37 (.tmp 2) rfl q1 (0) rfl vl HC.out) ?_
  simp only [Act.put, List.setIfInBounds_toArray, List.set_cons_succ, List.set_cons_zero]
  refine wl rfl (.int .i64 (n : Nat)) _ ((by rw [HF.out.2.1]; exact run_lenR HF.out.1 (.tmp 11) rfl rfl)) ?_
  simp only [Act.put, List.setIfInBounds_toArray, List.set_cons_succ, List.set_cons_zero]
  refine wl rfl (.int .i64 0) _ (run_mvZ (.const (.int .i64 0)) rfl (.int .i64 0) rfl) ?_
  simp only [Act.put, List.setIfInBounds_toArray, List.set_cons_succ, List.set_cons_zero]
  refine wpList_nil ?_
  clear HC
  go_wp2_with fail
  go_loopw [13, 5] (fun v13 v5 W => ∃ k : Nat, v13 = .int .i64 (k : Nat) ∧ k ≤ n ∧ Hid (IOwn W w.heap.size v5 (dueI now rs k) ∧ Loc w W [(q1, 40, [vl])])) (fun v13 _ _ => n - (intOf v13).toNat)
  case atStart => exact ⟨0, rfl, Nat.zero_le _, IOwn.nil _ _, R1.out⟩
  case round =>
    clear R1
    obtain ⟨k, rfl, hk, HS⟩ := hrel
    have HI : Hid (RsIn wr vl l) := HF.out.1.later HS.out.2.below
    by_cases hlt : k < n
    · have HD : Hid (decide (k < n) = true) := decide_eq_true hlt
      go_upto_region 3 with fail
      refine wp_region_lit ?_
      refine wl rfl (.bool true) _ (run_lssN (.tmp 13) (.tmp 12) rfl k n rfl rfl true HD.out) ?_
      simp only [Act.put, List.setIfInBounds_toArray, List.set_cons_succ, List.set_cons_zero]
      refine wpList_nil ?_
      obtain ⟨x, hx⟩ : ∃ x, l[k]? = some x := ⟨_, List.getElem?_eq_getElem (by rw [← HF.out.2.1]; exact hlt)⟩
      have HR : Hid (Rok x.r x.v) := HI.out.ok x (List.mem_of_getElem? hx)
      obtain ⟨b, o, hx1, hx2, _⟩ := ix_rec HI.out k x hx
      have HX : Hid (∀ w', (Instr.indexAt 40 vl (.int .i64 (k : Nat))).run Try.prog w' = .ok (.pointer (some ⟨b, o, none⟩)) w') := hx1
      have HY : Hid (∀ j u, (rcells x.r x.v)[j]? = some u → wr.cell? ⟨b, o + j, none⟩ = some u) := hx2
      obtain ⟨p1, hp1⟩ : ∃ z, decide (0 < x.r.expiry) = z := ⟨_, rfl⟩
      obtain ⟨p2, hp2⟩ : ∃ z, decide (refS x.r now = 0) = z := ⟨_, rfl⟩
      obtain ⟨rf, hrf⟩ : ∃ z, z = refS x.r now := ⟨_, rfl⟩
      have HN := dueI_succ now rs k
      rw [HF.out.2.2.2.2.1, getD_r l k x hx, dueB, hp1, hp2, ← HF.out.2.2.2.2.1] at HN
      have HE : Hid (dueI now rs (k + 1) = dueI now rs k ++ if (p1 && p2) = true then [k] else []) := HN
      rw [← hrf] at hp2
      have HP : Hid (decide (0 < x.r.expiry) = p1 ∧ decide (rf = 0) = p2) := ⟨hp1, hp2⟩
      have HCall : Hid (∀ U, Calls Try.prog 12 #[.agg (rcells x.r x.v).toArray, .int .i64 now] U fun e w' => e = .returned (.int .i64 rf) ∧ Below U.heap.size U w') := fun U => hrf ▸ refusal_any x.r x.v now U HR.out
      clear HN hp1 hp2 hrf hx1 hx2 hx
      have RS : Hid (Loc w wr [(q1, 40, [vl])]) := HS.out.2
      have HO : Hid (IOwn wr w.heap.size u5 (dueI now rs k)) := HS.out.1
      clear HS
      go_upto_region 4 with fail
      refine wp_region_lit ?_
      refine wl rfl (.int .i64 (k : Nat)) _ (run_mvZ (.tmp 13) rfl (.int .i64 (k : Nat)) rfl) ?_
      simp only [Act.put, List.setIfInBounds_toArray, List.set_cons_succ, List.set_cons_zero]
      refine wl rfl (.pointer (some ⟨b, o, none⟩)) _ (run_idx (.tmp 11) (.tmp 13) rfl vl _ _ rfl rfl HX.out) ?_
      simp only [Act.put, List.setIfInBounds_toArray, List.set_cons_succ, List.set_cons_zero]
      refine wl rfl (.agg (rcells x.r x.v).toArray) _ (run_loadA ag26 (.tmp 16) rfl b (o) rfl (rcells x.r x.v) HR.out.len HY.out) ?_
      simp only [Act.put, List.setIfInBounds_toArray, List.set_cons_succ, List.set_cons_zero]
      refine wl rfl (ptr wr.heap.size) _ (run_allocA (rcells rz (.slice none 0 0)) zero26 rfl) ?_
      have k_ := RS.out.box 26 (rcells rz (.slice none 0 0))
      have hB_ := below_alloc wr (.cells (rcells rz (.slice none 0 0)).toArray 26)
      obtain ⟨w2, hW_⟩ : ∃ U_ : World, U_ = wr.alloc (.cells (rcells rz (.slice none 0 0)).toArray 26) := ⟨_, rfl⟩
      obtain ⟨q2, hq_⟩ : ∃ q, q = wr.heap.size := ⟨_, rfl⟩
      rw [← hW_, ← hq_] at k_
      rw [← hW_] at hB_
      rw [← hW_, ← hq_]
      clear hq_
      have HOx : Hid (IOwn w2 w.heap.size u5 (dueI now rs k)) := own_later HO.out hB_
      clear HO
      have HO := HOx
      clear HOx
      have Rw2 : Hid (Loc w w2 [(q1, 40, [vl]), (q2, 26, rcells rz (.slice none 0 0))]) := k_
      clear k_ hW_ RS
      clear hB_
      simp only [Act.put, List.setIfInBounds_toArray, List.set_cons_succ, List.set_cons_zero]
      refine wl rfl (.int .i64 (k : Nat)) _ (run_asZ (.tmp 15) rfl (.int .i64 (k : Nat)) rfl) ?_
      simp only [Act.put, List.setIfInBounds_toArray, List.set_cons_succ, List.set_cons_zero]
      obtain ⟨hst_, k_, hC_⟩ := Rw2.out.st26 1 rfl (Rok.nil).len (rcells x.r x.v) (HR.out).len (HR.out).one
      have hR_ := Rw2.out.at 1 rfl
      refine wlS rfl rfl _ (run_stV (.tmp 7) (.tmp 17) rfl q2 0 rfl _ rfl hst_) ?_
      obtain ⟨w3, hW_⟩ : ∃ U_ : World, U_ = w2.setRow q2 (rcells x.r x.v).toArray := ⟨_, rfl⟩
      rw [← hW_] at k_ hC_ ⊢
      clear hst_
      have HOx : Hid (IOwn w3 w.heap.size u5 (dueI now rs k)) := own_kept HO.out fun b_ hb_ => hC_.one b_ (HO.out.lt b_ hb_).2 fun e_ => own_ne HO.out hR_ (by decide) (e_ ▸ hb_)
      clear HO
      have HO := HOx
      clear HOx
      have Rw3 : Hid (Loc w w3 [(q1, 40, [vl]), (q2, 26, rcells x.r x.v)]) := k_
      clear k_ hW_ Rw2
      clear hC_ hR_
      refine wpList_nil ?_
      by_cases h_ : p1 = false
      · subst h_
        go_upto_region 5 with fail
        refine wp_region_lit ?_
        refine wl rfl (.pointer (some ⟨q2, 0 + 35, none⟩)) _ (run_fieldOp' f26_4 (.tmp 7) rfl q2 (0) rfl) ?_
        simp only [Act.put, List.setIfInBounds_toArray, List.set_cons_succ, List.set_cons_zero]
        refine wl rfl (.int .i64 x.r.expiry) _ (run_load1 o3 (.tmp 18) rfl q2 (0 + 35) rfl (.int .i64 x.r.expiry) (Rw3.out.fld 1 rfl (HR.out).root 1 _ rfl)) ?_
        simp only [Act.put, List.setIfInBounds_toArray, List.set_cons_succ, List.set_cons_zero]
        refine wl rfl (.bool false) _ (run_gtrZ (.tmp 19) (.const (.int .i64 0)) rfl x.r.expiry 0 rfl rfl false HP.out.1) ?_
        simp only [Act.put, List.setIfInBounds_toArray, List.set_cons_succ, List.set_cons_zero]
        refine wl rfl (.bool false) _ (run_mvZ (.tmp 20) rfl (.bool false) rfl) ?_
        simp only [Act.put, List.setIfInBounds_toArray, List.set_cons_succ, List.set_cons_zero]
        with_reducible refine wpList_skip (by kernel_rfl) ?_
        simp only [Act.put, List.setIfInBounds_toArray, List.set_cons_succ, List.set_cons_zero]
        with_reducible refine wpList_skip (by kernel_rfl) ?_
        simp only [Act.put, List.setIfInBounds_toArray, List.set_cons_succ, List.set_cons_zero]
        with_reducible refine wpList_skip (by kernel_rfl) ?_
        simp only [Act.put, List.setIfInBounds_toArray, List.set_cons_succ, List.set_cons_zero]
        with_reducible refine wpList_skip (by kernel_rfl) ?_
        simp only [Act.put, List.setIfInBounds_toArray, List.set_cons_succ, List.set_cons_zero]
        refine wl rfl (.bool false) _ (run_pickZ (.tmp 21) (.tmp 25) (.const (.bool false)) rfl false (.bool false) rfl rfl) ?_
        simp only [Act.put, List.setIfInBounds_toArray, List.set_cons_succ, List.set_cons_zero]
        refine wpList_nil ?_
        have HT : Hid (IOwn w3 w.heap.size u5 (dueI now rs (k + 1)) ∧ Loc w w3 [(q1, 40, [vl])]) := ⟨by rw [HE.out]; simpa using HO.out, Rw3.out.take 1⟩
        go_upto_region 7 with fail
        refine wp_region_lit ?_
        refine wl rfl (.int .i64 ((k + 1 : Nat))) _ (run_addI (.tmp 13) rfl k n hlt HF.out.2.2.2.1 rfl) ?_
        simp only [Act.put, List.setIfInBounds_toArray, List.set_cons_succ, List.set_cons_zero]
        refine wl rfl (.int .i64 ((k + 1 : Nat))) _ (run_mvZ (.tmp 31) rfl (.int .i64 ((k + 1 : Nat))) rfl) ?_
        simp only [Act.put, List.setIfInBounds_toArray, List.set_cons_succ, List.set_cons_zero]
        refine wpList_nil ?_
        go_wp2_with fail
        exact ⟨⟨k + 1, rfl, by omega, HT⟩, by simp [intOf]; omega⟩
      have e_ : p1 = true := by cases p1 <;> first | rfl | exact absurd rfl h_
      subst e_
      clear h_
      by_cases h_ : p2 = false
      · subst h_
        go_upto_region 5 with fail
        refine wp_region_lit ?_
        refine wl rfl (.pointer (some ⟨q2, 0 + 35, none⟩)) _ (run_fieldOp' f26_4 (.tmp 7) rfl q2 (0) rfl) ?_
        simp only [Act.put, List.setIfInBounds_toArray, List.set_cons_succ, List.set_cons_zero]
        refine wl rfl (.int .i64 x.r.expiry) _ (run_load1 o3 (.tmp 18) rfl q2 (0 + 35) rfl (.int .i64 x.r.expiry) (Rw3.out.fld 1 rfl (HR.out).root 1 _ rfl)) ?_
        simp only [Act.put, List.setIfInBounds_toArray, List.set_cons_succ, List.set_cons_zero]
        refine wl rfl (.bool true) _ (run_gtrZ (.tmp 19) (.const (.int .i64 0)) rfl x.r.expiry 0 rfl rfl true HP.out.1) ?_
        simp only [Act.put, List.setIfInBounds_toArray, List.set_cons_succ, List.set_cons_zero]
        refine wl rfl (.bool true) _ (run_mvZ (.tmp 20) rfl (.bool true) rfl) ?_
        simp only [Act.put, List.setIfInBounds_toArray, List.set_cons_succ, List.set_cons_zero]
        refine wl (by kernel_rfl) (.agg (rcells x.r x.v).toArray) _ (run_loadA ag26 (.tmp 7) rfl q2 (0) rfl (rcells x.r x.v) (HR.out).len (Rw3.out.rows 1 rfl)) ?_
        simp only [Act.put, List.setIfInBounds_toArray, List.set_cons_succ, List.set_cons_zero]
        refine wl (by kernel_rfl) (.int .i64 now) _ (run_mvZ (.tmp 1) rfl (.int .i64 now) rfl) ?_
        simp only [Act.put, List.setIfInBounds_toArray, List.set_cons_succ, List.set_cons_zero]
        refine wpList_callW eN24 [.tmp 22, .tmp 23] _ (by kernel_rfl) rfl [(.agg (rcells x.r x.v).toArray), (.int .i64 now)] rfl ?_
        refine (HCall.out w3).mono ?_
        rintro e w4 ⟨rfl, b_⟩
        refine ⟨_, rfl, ?_⟩
        have HOx : Hid (IOwn w4 w.heap.size u5 (dueI now rs k)) := own_later HO.out b_
        clear HO
        have HO := HOx
        clear HOx
        have Rw4 : Hid (Loc w w4 [(q1, 40, [vl]), (q2, 26, rcells x.r x.v)]) := Rw3.out.later b_
        clear Rw3 b_
        simp only [Act.put, List.setIfInBounds_toArray, List.set_cons_succ, List.set_cons_zero]
        refine wl (by kernel_rfl) (.bool false) _ (run_eqZ (.tmp 24) (.const (.int .i64 0)) rfl rf 0 rfl rfl false HP.out.2) ?_
        simp only [Act.put, List.setIfInBounds_toArray, List.set_cons_succ, List.set_cons_zero]
        refine wl rfl (.bool false) _ (run_pickZ (.tmp 21) (.tmp 25) (.const (.bool false)) rfl true (.bool false) rfl rfl) ?_
        simp only [Act.put, List.setIfInBounds_toArray, List.set_cons_succ, List.set_cons_zero]
        refine wpList_nil ?_
        have HT : Hid (IOwn w4 w.heap.size u5 (dueI now rs (k + 1)) ∧ Loc w w4 [(q1, 40, [vl])]) := ⟨by rw [HE.out]; simpa using HO.out, Rw4.out.take 1⟩
        go_upto_region 7 with fail
        refine wp_region_lit ?_
        refine wl rfl (.int .i64 ((k + 1 : Nat))) _ (run_addI (.tmp 13) rfl k n hlt HF.out.2.2.2.1 rfl) ?_
        simp only [Act.put, List.setIfInBounds_toArray, List.set_cons_succ, List.set_cons_zero]
        refine wl rfl (.int .i64 ((k + 1 : Nat))) _ (run_mvZ (.tmp 31) rfl (.int .i64 ((k + 1 : Nat))) rfl) ?_
        simp only [Act.put, List.setIfInBounds_toArray, List.set_cons_succ, List.set_cons_zero]
        refine wpList_nil ?_
        go_wp2_with fail
        exact ⟨⟨k + 1, rfl, by omega, HT⟩, by simp [intOf]; omega⟩
      have e_ : p2 = true := by cases p2 <;> first | rfl | exact absurd rfl h_
      subst e_
      clear h_
      go_upto_region 5 with fail
      refine wp_region_lit ?_
      refine wl rfl (.pointer (some ⟨q2, 0 + 35, none⟩)) _ (run_fieldOp' f26_4 (.tmp 7) rfl q2 (0) rfl) ?_
      simp only [Act.put, List.setIfInBounds_toArray, List.set_cons_succ, List.set_cons_zero]
      refine wl rfl (.int .i64 x.r.expiry) _ (run_load1 o3 (.tmp 18) rfl q2 (0 + 35) rfl (.int .i64 x.r.expiry) (Rw3.out.fld 1 rfl (HR.out).root 1 _ rfl)) ?_
      simp only [Act.put, List.setIfInBounds_toArray, List.set_cons_succ, List.set_cons_zero]
      refine wl rfl (.bool true) _ (run_gtrZ (.tmp 19) (.const (.int .i64 0)) rfl x.r.expiry 0 rfl rfl true HP.out.1) ?_
      simp only [Act.put, List.setIfInBounds_toArray, List.set_cons_succ, List.set_cons_zero]
      refine wl rfl (.bool true) _ (run_mvZ (.tmp 20) rfl (.bool true) rfl) ?_
      simp only [Act.put, List.setIfInBounds_toArray, List.set_cons_succ, List.set_cons_zero]
      refine wl (by kernel_rfl) (.agg (rcells x.r x.v).toArray) _ (run_loadA ag26 (.tmp 7) rfl q2 (0) rfl (rcells x.r x.v) (HR.out).len (Rw3.out.rows 1 rfl)) ?_
      simp only [Act.put, List.setIfInBounds_toArray, List.set_cons_succ, List.set_cons_zero]
      refine wl (by kernel_rfl) (.int .i64 now) _ (run_mvZ (.tmp 1) rfl (.int .i64 now) rfl) ?_
      simp only [Act.put, List.setIfInBounds_toArray, List.set_cons_succ, List.set_cons_zero]
      refine wpList_callW eN24 [.tmp 22, .tmp 23] _ (by kernel_rfl) rfl [(.agg (rcells x.r x.v).toArray), (.int .i64 now)] rfl ?_
      refine (HCall.out w3).mono ?_
      rintro e w4 ⟨rfl, b_⟩
      refine ⟨_, rfl, ?_⟩
      have HOx : Hid (IOwn w4 w.heap.size u5 (dueI now rs k)) := own_later HO.out b_
      clear HO
      have HO := HOx
      clear HOx
      have Rw4 : Hid (Loc w w4 [(q1, 40, [vl]), (q2, 26, rcells x.r x.v)]) := Rw3.out.later b_
      clear Rw3 b_
      simp only [Act.put, List.setIfInBounds_toArray, List.set_cons_succ, List.set_cons_zero]
      refine wl (by kernel_rfl) (.bool true) _ (run_eqZ (.tmp 24) (.const (.int .i64 0)) rfl rf 0 rfl rfl true HP.out.2) ?_
      simp only [Act.put, List.setIfInBounds_toArray, List.set_cons_succ, List.set_cons_zero]
      refine wl rfl (.bool true) _ (run_pickZ (.tmp 21) (.tmp 25) (.const (.bool false)) rfl true (.bool true) rfl rfl) ?_
      simp only [Act.put, List.setIfInBounds_toArray, List.set_cons_succ, List.set_cons_zero]
      refine wpList_nil ?_
      go_upto_region 6 with fail
      refine wp_region_lit ?_
      refine wl rfl u5 _ (run_mvZ (.tmp 5) rfl u5 rfl) ?_
      simp only [Act.put, List.setIfInBounds_toArray, List.set_cons_succ, List.set_cons_zero]
      refine wl rfl (.int .i64 (k : Nat)) _ (run_mvZ (.tmp 6) rfl (.int .i64 (k : Nat)) rfl) ?_
      simp only [Act.put, List.setIfInBounds_toArray, List.set_cons_succ, List.set_cons_zero]
      refine wl rfl (.slice (some ⟨w4.heap.size, 0, none⟩) 1 1) _ (run_lit1I (.tmp 28) rfl (k : Nat) rfl) ?_
      simp only [Act.put, List.setIfInBounds_toArray, List.set_cons_succ, List.set_cons_zero]
      obtain ⟨v2, w5, hr_, o_, g_⟩ := HO.out.plit 27 k (by have := dueI_len now rs k; have := HF.out.2.2.1; omega) Rw4.out.below.size
      refine wl rfl v2 _ (run_append (.tmp 27) (.tmp 29) rfl u5 _ v2 rfl rfl hr_) ?_
      have HT : Hid (IOwn w5 w.heap.size v2 (dueI now rs (k + 1)) ∧ Loc w w5 [(q1, 40, [vl])]) := ⟨by rw [HE.out]; exact o_, (Rw4.out.grownO HO.out g_ (Nat.le_refl _) rfl).take 1⟩
      clear hr_ o_ g_
      simp only [Act.put, List.setIfInBounds_toArray, List.set_cons_succ, List.set_cons_zero]
      refine wl rfl v2 _ (run_asZ (.tmp 30) rfl v2 rfl) ?_
      simp only [Act.put, List.setIfInBounds_toArray, List.set_cons_succ, List.set_cons_zero]
      refine wpList_nil ?_
      go_upto_region 7 with fail
      refine wp_region_lit ?_
      refine wl rfl (.int .i64 ((k + 1 : Nat))) _ (run_addI (.tmp 13) rfl k n hlt HF.out.2.2.2.1 rfl) ?_
      simp only [Act.put, List.setIfInBounds_toArray, List.set_cons_succ, List.set_cons_zero]
      refine wl rfl (.int .i64 ((k + 1 : Nat))) _ (run_mvZ (.tmp 31) rfl (.int .i64 ((k + 1 : Nat))) rfl) ?_
      simp only [Act.put, List.setIfInBounds_toArray, List.set_cons_succ, List.set_cons_zero]
      refine wpList_nil ?_
      go_wp2_with fail
      exact ⟨⟨k + 1, rfl, by omega, HT⟩, by simp [intOf]; omega⟩
    · have HD : Hid (decide (k < n) = false) := decide_eq_false hlt
      go_upto_region 3 with fail
      refine wp_region_lit ?_
      refine wl rfl (.bool false) _ (run_lssN (.tmp 13) (.tmp 12) rfl k n rfl rfl false HD.out) ?_
      simp only [Act.put, List.setIfInBounds_toArray, List.set_cons_succ, List.set_cons_zero]
      refine wpList_nil ?_
      have hkn : k = n := by omega
      subst hkn
      go_upto_region 8 with fail
      refine wp_region_lit ?_
      refine wl rfl u5 _ (run_mvZ (.tmp 5) rfl u5 rfl) ?_
      simp only [Act.put, List.setIfInBounds_toArray, List.set_cons_succ, List.set_cons_zero]
      refine wl rfl (.func (.func 14) #[] #[ptr q1]) _ (run_mkf (.tmp 2) (.func 14) rfl (ptr q1) rfl) ?_
      simp only [Act.put, List.setIfInBounds_toArray, List.set_cons_succ, List.set_cons_zero]
      refine wpList_callW eN25 [.tmp 32, .tmp 33] _ rfl rfl [u5, (.func (.func 14) #[] #[ptr q1])] rfl ?_
      refine (sort_any l vl q1 wr w.heap.size u5 (dueI now rs k) ((HS.out.2.at 0 rfl).at 0 _ rfl) HI.out HS.out.1 (fun i hi => by have := dueI_lt now rs k i hi; have := HF.out.2.1; omega) (own_ne HS.out.1 (HS.out.2.at 0 rfl) (by decide)) (fun hl b hb hb2 => by have h1 := HF.out.1.blk hl b hb; have h2 := (HS.out.1.lt b hb2).1; omega) (by have := dueI_len now rs k; have := HF.out.2.2.1; omega)).mono ?_
      rintro e w4 ⟨rfl, ⟨D, p_, u_, o_⟩, g_⟩
      refine ⟨_, rfl, ?_⟩
      have hDl : D.length ≤ k := by rw [p_.length_eq]; exact dueI_len now rs k
      have hDm : ∀ i ∈ D, i < k := fun i hi => dueI_lt now rs k i (p_.subset hi)
      have HG : Hid (IOwn w4 w.heap.size u5 D ∧ Loc w w4 [(q1, 40, [vl])] ∧ D.length ≤ k ∧ (∀ i ∈ D, i < k) ∧ IsDue now rs (D.map fun i => (rs.getD i rz).id)) := ⟨o_, HS.out.2.grownO HS.out.1 g_ (Nat.le_refl _) rfl, hDl, hDm, due_final now rs D (by rw [HF.out.2.2.2.2.2]; exact p_) (by rw [HF.out.2.2.2.2.1]; exact u_)⟩
      clear p_ u_ o_ g_ hDl hDm HS HI
      simp only [Act.put, List.setIfInBounds_toArray, List.set_cons_succ, List.set_cons_zero]
      refine wpList_nil ?_
      go_upto_region 9 with fail
      refine wp_region_lit ?_
      refine wl rfl (.slice none 0 0) _ (run_asZ (.const (.slice none 0 0)) rfl (.slice none 0 0) rfl) ?_
      simp only [Act.put, List.setIfInBounds_toArray, List.set_cons_succ, List.set_cons_zero]
      refine wpList_nil ?_
      obtain ⟨m, hm⟩ : ∃ m, m = D.length := ⟨_, rfl⟩
      have HM : Hid (m = D.length) := hm
      clear hm
      go_upto_region 10 with fail
      refine wp_region_lit ?_
      refine wl rfl u5 _ (run_mvZ (.tmp 5) rfl u5 rfl) ?_
      simp only [Act.put, List.setIfInBounds_toArray, List.set_cons_succ, List.set_cons_zero]
      refine wl rfl (.int .i64 (m : Nat)) _ ((by rw [HM.out]; exact run_lenO HG.out.1 sl49 (.tmp 35) rfl rfl)) ?_
      simp only [Act.put, List.setIfInBounds_toArray, List.set_cons_succ, List.set_cons_zero]
      refine wl rfl (.int .i64 0) _ (run_mvZ (.const (.int .i64 0)) rfl (.int .i64 0) rfl) ?_
      simp only [Act.put, List.setIfInBounds_toArray, List.set_cons_succ, List.set_cons_zero]
      refine wpList_nil ?_
      clear HD hlt hk
      go_wp2_with fail
      go_loopw [37, 8] (fun v37 v8 W => ∃ j : Nat, v37 = .int .i64 (j : Nat) ∧ j ≤ m ∧ Hid (SOwn W w.heap.size v8 ((D.take j).map fun i => (rs.getD i rz).id) ∧ IOwn W w.heap.size u5 D ∧ Loc w W [(q1, 40, [vl])])) (fun v37 _ _ => m - (intOf v37).toNat)
      case atStart => exact ⟨0, rfl, Nat.zero_le _, SOwn.nil _ _, HG.out.1, HG.out.2.1⟩
      case round =>
        rename World => ws
        obtain ⟨j, rfl, hj, HS⟩ := hrel
        have HI : Hid (RsIn ws vl l) := HF.out.1.later HS.out.2.2.below
        by_cases hlt : j < m
        · have HD : Hid (decide (j < m) = true) := decide_eq_true hlt
          go_upto_region 11 with fail
          refine wp_region_lit ?_
          refine wl rfl (.bool true) _ (run_lssN (.tmp 37) (.tmp 36) rfl j m rfl rfl true HD.out) ?_
          simp only [Act.put, List.setIfInBounds_toArray, List.set_cons_succ, List.set_cons_zero]
          refine wpList_nil ?_
          have hjD : j < D.length := by rw [← HM.out]; exact hlt
          obtain ⟨b1, hi1, hi2⟩ := HS.out.2.1.ix j hjD
          obtain ⟨i, hi⟩ : ∃ i, i = D[j] := ⟨_, rfl⟩
          have hDj : D[j]? = some i := by rw [hi]; exact List.getElem?_eq_getElem hjD
          have hik := HG.out.2.2.2.1 i (by rw [hi]; exact List.getElem_mem hjD)
          rw [← hi] at hi2
          obtain ⟨x, hx⟩ : ∃ x, l[i]? = some x := ⟨_, List.getElem?_eq_getElem (by rw [← HF.out.2.1]; exact hik)⟩
          obtain ⟨b, o, hx1, hx2, _⟩ := ix_rec HI.out i x hx
          have HN := congrArg (List.map fun i => (rs.getD i rz).id) (take_succ D j i hDj)
          rw [List.map_append, List.map_cons, List.map_nil, show (rs.getD i rz).id = x.r.id by rw [HF.out.2.2.2.2.1, getD_r l i x hx]] at HN
          have HE : Hid ((D.take (j + 1)).map (fun i => (rs.getD i rz).id) = (D.take j).map (fun i => (rs.getD i rz).id) ++ [x.r.id]) := HN
          have HX : Hid ((∀ w', (Instr.indexAt 40 vl (.int .i64 (i : Nat))).run Try.prog w' = .ok (.pointer (some ⟨b, o, none⟩)) w') ∧ ws.cell? ⟨b, o + 0, none⟩ = some (.string x.r.id) ∧ ws.cell? ⟨q1, 0, none⟩ = some vl ∧ (∀ w', (Instr.indexAt 27 u5 (.int .i64 (j : Nat))).run Try.prog w' = .ok (.pointer (some ⟨b1, j, none⟩)) w') ∧ ws.cell? ⟨b1, j, none⟩ = some (.int .i64 (i : Nat))) := ⟨hx1, hx2 0 _ (rc0 _ _), (HS.out.2.2.at 0 rfl).at 0 _ rfl, hi1, hi2⟩
          clear HN hx hx1 hx2 hi1 hi2 hi hDj hik hjD
          go_upto_region 12 with fail
          refine wp_region_lit ?_
          refine wl rfl (.pointer (some ⟨b1, j, none⟩)) _ (run_idx (.tmp 35) (.tmp 37) rfl u5 _ _ rfl rfl HX.out.2.2.2.1) ?_
          simp only [Act.put, List.setIfInBounds_toArray, List.set_cons_succ, List.set_cons_zero]
          refine wl rfl (.int .i64 (i : Nat)) _ (run_load1 o3 (.tmp 39) rfl b1 (j) rfl (.int .i64 (i : Nat)) HX.out.2.2.2.2) ?_
          simp only [Act.put, List.setIfInBounds_toArray, List.set_cons_succ, List.set_cons_zero]
          refine wl rfl (.int .i64 (i : Nat)) _ (run_asZ (.tmp 40) rfl (.int .i64 (i : Nat)) rfl) ?_
          simp only [Act.put, List.setIfInBounds_toArray, List.set_cons_succ, List.set_cons_zero]
          refine wpList_nil ?_
          go_upto_region 13 with fail
          refine wp_region_lit ?_
          refine wl rfl u8 _ (run_mvZ (.tmp 8) rfl u8 rfl) ?_
          simp only [Act.put, List.setIfInBounds_toArray, List.set_cons_succ, List.set_cons_zero]
          refine wl rfl vl _ (run_load1 o37 (.tmp 2) rfl q1 (0) rfl vl HX.out.2.2.1) ?_
          simp only [Act.put, List.setIfInBounds_toArray, List.set_cons_succ, List.set_cons_zero]
          refine wl rfl (.int .i64 (i : Nat)) _ (run_mvZ (.tmp 10) rfl (.int .i64 (i : Nat)) rfl) ?_
          simp only [Act.put, List.setIfInBounds_toArray, List.set_cons_succ, List.set_cons_zero]
          refine wl rfl (.pointer (some ⟨b, o, none⟩)) _ (run_idx (.tmp 42) (.tmp 43) rfl vl _ _ rfl rfl HX.out.1) ?_
          simp only [Act.put, List.setIfInBounds_toArray, List.set_cons_succ, List.set_cons_zero]
          refine wl rfl (.pointer (some ⟨b, o + 0, none⟩)) _ (run_fieldOp' f26_0 (.tmp 44) rfl b (o) rfl) ?_
          simp only [Act.put, List.setIfInBounds_toArray, List.set_cons_succ, List.set_cons_zero]
          refine wl rfl (.string x.r.id) _ (run_load1 o9 (.tmp 45) rfl b (o + 0) rfl (.string x.r.id) HX.out.2.1) ?_
          simp only [Act.put, List.setIfInBounds_toArray, List.set_cons_succ, List.set_cons_zero]
          refine wl rfl (.slice (some ⟨ws.heap.size, 0, none⟩) 1 1) _ (run_lit1S (.tmp 46) rfl x.r.id rfl) ?_
          simp only [Act.put, List.setIfInBounds_toArray, List.set_cons_succ, List.set_cons_zero]
          obtain ⟨v2, w5, hr_, o_, g_⟩ := HS.out.1.plit 38 x.r.id (by have h1 : ((D.take j).map fun i => (rs.getD i rz).id).length ≤ j := (by rw [List.length_map]; exact List.length_take_le _ _); have := HM.out; have := HG.out.2.2.1; have := HF.out.2.2.1; omega) HS.out.2.2.below.size
          refine wl rfl v2 _ (run_append (.tmp 41) (.tmp 47) rfl u8 _ v2 rfl rfl hr_) ?_
          have HT : Hid (SOwn w5 w.heap.size v2 ((D.take (j + 1)).map fun i => (rs.getD i rz).id) ∧ IOwn w5 w.heap.size u5 D ∧ Loc w w5 [(q1, 40, [vl])]) := ⟨by rw [HE.out]; exact o_, own_hold HS.out.2.1 g_ (own_two HS.out.2.1 HS.out.1 (by decide)), HS.out.2.2.grownO HS.out.1 g_ (Nat.le_refl _) rfl⟩
          clear hr_ o_ g_
          simp only [Act.put, List.setIfInBounds_toArray, List.set_cons_succ, List.set_cons_zero]
          refine wl rfl v2 _ (run_asZ (.tmp 48) rfl v2 rfl) ?_
          simp only [Act.put, List.setIfInBounds_toArray, List.set_cons_succ, List.set_cons_zero]
          refine wpList_nil ?_
          go_upto_region 14 with fail
          refine wp_region_lit ?_
          refine wl rfl (.int .i64 ((j + 1 : Nat))) _ (run_addI (.tmp 37) rfl j m hlt (by have := HM.out; have := HG.out.2.2.1; have := HF.out.2.2.2.1; omega) rfl) ?_
          simp only [Act.put, List.setIfInBounds_toArray, List.set_cons_succ, List.set_cons_zero]
          refine wl rfl (.int .i64 ((j + 1 : Nat))) _ (run_mvZ (.tmp 49) rfl (.int .i64 ((j + 1 : Nat))) rfl) ?_
          simp only [Act.put, List.setIfInBounds_toArray, List.set_cons_succ, List.set_cons_zero]
          refine wpList_nil ?_
          go_wp2_with fail
          exact ⟨⟨j + 1, rfl, by omega, HT⟩, by simp [intOf]; omega⟩
        · have HD : Hid (decide (j < m) = false) := decide_eq_false hlt
          go_upto_region 11 with fail
          refine wp_region_lit ?_
          refine wl rfl (.bool false) _ (run_lssN (.tmp 37) (.tmp 36) rfl j m rfl rfl false HD.out) ?_
          simp only [Act.put, List.setIfInBounds_toArray, List.set_cons_succ, List.set_cons_zero]
          refine wpList_nil ?_
          go_upto_region 15 with fail
          refine wp_region_lit ?_
          refine wl rfl u8 _ (run_mvZ (.tmp 8) rfl u8 rfl) ?_
          simp only [Act.put, List.setIfInBounds_toArray, List.set_cons_succ, List.set_cons_zero]
          refine wl rfl u8 _ (run_asZ (.tmp 50) rfl u8 rfl) ?_
          simp only [Act.put, List.setIfInBounds_toArray, List.set_cons_succ, List.set_cons_zero]
          refine wpList_nil ?_
          have hall : D.take j = D := List.take_of_length_le (by have := HM.out; omega)
          have hso := HS.out.1
          rw [hall] at hso
          go_wp2_with fail
          first | (rw [HPQ.out]; exact ⟨u8, _, rfl, hso, HG.out.2.2.2.2, HS.out.2.2.below⟩) | (go_end0; rw [HPQ.out]; exact ⟨u8, _, rfl, hso, HG.out.2.2.2.2, HS.out.2.2.below⟩)

end Go.Proofs.Ytobolkllplmmcab

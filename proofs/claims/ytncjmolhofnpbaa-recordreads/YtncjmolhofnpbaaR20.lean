/- The examples. -/
import Derived.Test.YtncjmolhofnpbaaR19
namespace Go.Proofs.Ytncjmolhofnpbaa
open Go.RowKit

def pE : Pc := ⟨3, 9, 2, true⟩
def rE : Rc := ⟨[97], 3, List.replicate 32 0, 0, 7, true, false, [pE]⟩
theorem rE_may : mayB rE = true := by decide
theorem rE_fine : Fine rE := ⟨rfl, (by intro c hc; rw [List.mem_singleton.1 hc]; decide), (by intro c hc; rw [List.eq_of_mem_replicate hc]; decide)⟩
theorem rE_back : decR (enc rE) = some rE := decR_enc rE rE_may rfl
theorem rE_more : decR (enc rE ++ [0]) = none := by
  unfold decR
  rw [rdR_app rE [0] rE_may rfl]
  rfl
theorem enc_lt {w : World} {r : Rc} {vc : Value} (h : MayS w r vc) : ∀ c ∈ enc r, c < 256 := by rw [← encH_all]; exact app_lt (encH_lt h) (encPs_lt _)
theorem enc_len {w : World} {r : Rc} {vc : Value} (h : MayS w r vc) : (enc r).length ≤ 103 := by
  have h1 := h.id
  have h2 := h.fits.root
  have h3 := h.few
  rw [enc_length]
  omega
theorem fits_E {w : World} {b : Nat} (h : Row w b 43 (pcells pE)) : Fits w rE (.slice (some ⟨b, 0, none⟩) 1 1) :=
  ⟨rfl, rE_fine.2.1, rE_fine.2.2, ⟨_, _, rfl, ⟨Nat.le_refl _, by decide⟩, Or.inr ⟨b, 0, rfl, fun j hj => by
    rw [Nat.zero_add, h.cell]
    simp [rE, pcs]⟩⟩⟩
theorem encode_yes (r : Rc) (vc : Value) (w : World) (hf : Fits w r vc) (hm : mayB r = true) : Calls Try.prog 9 #[.agg (rcells r vc).toArray] w fun e w' => ∃ v, e = .returned (.tuple #[v, .int .i64 0]) ∧ Below w.heap.size w w' ∧ BOwn w' w.heap.size v (enc r) ∧ SliceIn w' v (enc r) :=
  (encode_any r vc w hf).mono fun e w' ⟨v, er, h1, h2, h3⟩ => by
    rcases h3 with ⟨h4, _⟩ | ⟨_, h4, rfl⟩
    · rw [hm] at h4; cases h4
    · exact ⟨v, h1, h2, h4, h4.sliceB (enc_lt (may_s hf hm)) (by have := enc_len (may_s hf hm); omega)⟩
theorem decode_yes (v : Value) (b : List Nat) (w : World) (hin : SliceIn w v b) (r : Rc) (hd : decR b = some r) : Calls Try.prog 15 #[v] w fun e w' => ∃ vc, e = .returned (.tuple #[.agg (rcells r vc).toArray, .int .i64 0]) ∧ Below w.heap.size w w' ∧ Fine r ∧ POwn w' w.heap.size vc r.cp ∧ r.cp.length ≤ 255 :=
  (decode_any v b w hin).mono fun e w' ⟨r', vc, er, h1, h2, h3, h4, h5, h6⟩ => by
    rcases h6 with ⟨h7, _⟩ | ⟨h7, rfl⟩
    · rw [hd] at h7; cases h7
    · rw [hd] at h7
      cases h7
      exact ⟨vc, h1, h5, h2, h3, h4⟩
theorem decode_no (v : Value) (b : List Nat) (w : World) (hin : SliceIn w v b) (hd : decR b = none) : Calls Try.prog 15 #[v] w fun e w' => ∃ vc, e = .returned (.tuple #[.agg (rcells rz vc).toArray, .int .i64 110]) ∧ Below w.heap.size w w' ∧ POwn w' w.heap.size vc [] :=
  (decode_any v b w hin).mono fun e w' ⟨r', vc, er, h1, h2, h3, h4, h5, h6⟩ => by
    rcases h6 with ⟨_, rfl, rfl⟩ | ⟨h7, _⟩
    · exact ⟨vc, h1, h5, h3⟩
    · rw [hd] at h7; cases h7
theorem same_yes (x : Rc) (vx vy : Value) (w : World) (hfx : Fits w x vx) (hfy : Fits w x vy) : Calls Try.prog 17 #[.agg (rcells x vx).toArray, .agg (rcells x vy).toArray] w fun e w' => e = .returned (.bool true) ∧ Below w.heap.size w w' :=
  (same_any x x vx vy w hfx hfy).mono fun e w' ⟨s, h1, h2, h3⟩ => by
    have := h2.2 rfl
    subst this
    exact ⟨h1, h3⟩
theorem run_bldE {w : World} {a : Act} {o : Oper} (x : Operand) (ho : o.op = .build 26 #[(0, .const (.string { data := #[97] })), (1, .const (.int .i64 3)), (4, .const (.int .i64 7)), (5, .const (.bool true)), (7, x)]) (b : Nat) (hx : a.eval x = .slice (some ⟨b, 0, none⟩) 1 1) : (execOp a.eval o).run Try.prog w = .ok (.value (.agg (rcells rE (.slice (some ⟨b, 0, none⟩) 1 1)).toArray)) w := by
  have hr : (Instr.build 26 #[(0, .string { data := #[97] }), (1, .int .i64 3), (4, .int .i64 7), (5, .bool true), (7, .slice (some ⟨b, 0, none⟩) 1 1)]).run Try.prog w = .ok (.agg (rcells rE (.slice (some ⟨b, 0, none⟩) 1 1)).toArray) w := by kernel_rfl
  have e1 : a.eval (.const (.string { data := #[97] })) = .string { data := #[97] } := rfl
  have e2 : a.eval (.const (.int .i64 3)) = .int .i64 3 := rfl
  have e3 : a.eval (.const (.int .i64 7)) = .int .i64 7 := rfl
  have e4 : a.eval (.const (.bool true)) = .bool true := rfl
  simp only [execOp, ho, List.map_toArray, List.map_cons, List.map_nil, hx, e1, e2, e3, e4, hr, Sem.run_bind, Sem.run_pure, Result.andThen_ok]
theorem ix_byte {w : World} {v : Value} {cs : List Nat} (hin : SliceIn w v cs) (k : Nat) (hk : k < cs.length) : ∃ b j, (∀ w', (Instr.indexAt 28 v (.int .i64 (k : Nat))).run Try.prog w' = .ok (.pointer (some ⟨b, j, none⟩)) w') ∧ w.cell? ⟨b, j, none⟩ = some (.int .u8 (cs.getD k 0 : Nat)) := by
  obtain ⟨i5, hi5, hsz⟩ := Option.map_eq_some_iff.1 info5
  obtain ⟨p, cap, rfl, hl, h⟩ := hin
  rcases h with rfl | ⟨b, off, rfl, hc, _⟩
  · simp at hk
  · exact ⟨b, off + k, fun w' => by simp [Instr.indexAt, asIntOf, run_underlying Try.underlying28, hk, sizeOf, typeInfo, hi5, hsz, add_none], hc k hk⟩
theorem BOwn.off {w w' : World} {base : Nat} {v : Value} {cs : List Nat} (h : BOwn w base v cs) {q T : Nat} {rs : List Value} (hr : Row w q T rs) (hT : T ≠ 5) (hc : Ch (· = q) w w') : BOwn w' base v cs := ownK h fun b hb => hc.one b (h.lt b hb).2 fun e => h.neRow hr hT (e ▸ hb)
theorem POwn.off {w w' : World} {base : Nat} {v : Value} {cs : List Pc} (h : POwn w base v cs) {q T : Nat} {rs : List Value} (hr : Row w q T rs) (hT : T ≠ 43) (hc : Ch (· = q) w w') : POwn w' base v cs := h.keep fun b hb _ hlt => hc.one b hlt fun e => h.ne hr hT (e ▸ hb)
theorem bE_lt : ∀ c ∈ encE [97] 3 (List.replicate 32 0), c < 256 := encE_lt (by decide) (by intro c hc; rw [List.eq_of_mem_replicate hc]; decide) (by decide)
def bE : List Nat := encE [97] 3 (List.replicate 32 0)
theorem encrE_lt : ∀ c ∈ enc rE, c < 256 := by
  rw [← encH_all]
  exact app_lt (app_lt (app_lt (app_lt (encE_lt (by decide) (by intro c hc; rw [List.eq_of_mem_replicate hc]; decide) (by decide)) (Fr.Frame.be_lt 4 _)) (Fr.Frame.be_lt 6 _)) (by decide)) (encPs_lt _)
theorem run_eqU8 {w : World} {a : Act} {o : Oper} (x : Operand) (c : Nat) (ho : o.op = .binOp .eql 5 x (.const (.int .u8 (c : Nat))) 5) (hx : a.eval x = .int .u8 (c : Nat)) : (execOp a.eval o).run Try.prog w = .ok (.value (.bool true)) w := by
  have e : a.eval (.const (.int .u8 (c : Nat))) = .int .u8 (c : Nat) := rfl
  simp only [execOp, ho, hx, e]
  simp [go_sem]
set_option maxHeartbeats 4000000 in
theorem shown_any (w : World) : Calls Try.prog 8 #[] w fun e w' => e = .returned (.bool true) ∧ Below w.heap.size w w' := by
  obtain ⟨PQ, HPQ⟩ : ∃ PQ : Ending → World → Prop, Hid (PQ = fun e w' => e = .returned (.bool true) ∧ Below w.heap.size w w') := ⟨_, rfl⟩
  rw [← HPQ.out]
  go_enter Try.func8, Try.ntmps8
  go_upto_region 1 with fail
  refine wp_region_lit ?_
  refine wl rfl (.agg (bcells (List.replicate 32 0)).toArray) _ (run_bld23 rfl) ?_
  simp only [Act.put, List.setIfInBounds_toArray, List.set_cons_succ, List.set_cons_zero]
  refine wpList_callW eN11 [.const (.string { data := #[97] }), .const (.int .i64 3), .tmp 12] _ rfl rfl [str [97], .int .i64 3, .agg (bcells (List.replicate 32 0)).toArray] rfl ?_
  refine (entry11_yes [97] (List.replicate 32 0) 3 w (by decide) (by simp) (by intro c hc; rw [List.eq_of_mem_replicate hc]; decide) (by decide)).mono ?_
  rintro e w1 ⟨v1, rfl, b1, o1⟩
  refine ⟨_, rfl, ?_⟩
  have R1 : Hid (Loc w w1 []) := Loc.nil b1
  have S1 : Hid (BOwn w1 w.heap.size v1 bE) := o1
  clear b1 o1
  simp only [Act.put, List.setIfInBounds_toArray, List.set_cons_succ, List.set_cons_zero]
  refine wl rfl (.tuple #[v1, (.int .i64 0)]) _ (run_mvZ (.tmp 13) rfl (.tuple #[v1, (.int .i64 0)]) rfl) ?_
  simp only [Act.put, List.setIfInBounds_toArray, List.set_cons_succ, List.set_cons_zero]
  refine wl rfl v1 _ (run_extZ (.tmp 11) 0 rfl #[v1, (.int .i64 0)] rfl v1 rfl) ?_
  simp only [Act.put, List.setIfInBounds_toArray, List.set_cons_succ, List.set_cons_zero]
  refine wl rfl (.int .i64 0) _ (run_extZ (.tmp 11) 1 rfl #[v1, (.int .i64 0)] rfl (.int .i64 0) rfl) ?_
  simp only [Act.put, List.setIfInBounds_toArray, List.set_cons_succ, List.set_cons_zero]
  refine wl rfl v1 _ (run_asZ (.tmp 14) rfl v1 rfl) ?_
  simp only [Act.put, List.setIfInBounds_toArray, List.set_cons_succ, List.set_cons_zero]
  refine wl rfl (.int .i64 0) _ (run_asZ (.tmp 15) rfl (.int .i64 0) rfl) ?_
  simp only [Act.put, List.setIfInBounds_toArray, List.set_cons_succ, List.set_cons_zero]
  refine wpList_nil ?_
  go_upto_region 2 with fail
  refine wp_region_lit ?_
  refine wl rfl (.agg (pcells pE).toArray) _ (run_build43 (.const (.int .i64 3)) (.const (.int .i64 9)) (.const (.int .i64 2)) (.const (.bool true)) rfl 3 9 2 true rfl rfl rfl rfl) ?_
  simp only [Act.put, List.setIfInBounds_toArray, List.set_cons_succ, List.set_cons_zero]
  refine wl rfl (.slice (some ⟨w1.heap.size, 0, none⟩) 1 1) _ (run_litP (.tmp 16) rfl pE rfl) ?_
  have k_ := R1.out.box 43 (pcells pE)
  have k2_ := S1.out.laterB (below_alloc w1 (.cells (pcells pE).toArray 43))
  obtain ⟨w2, hW_⟩ : ∃ W, W = w1.alloc (.cells (pcells pE).toArray 43) := ⟨_, rfl⟩
  obtain ⟨b, hq_⟩ : ∃ q, q = w1.heap.size := ⟨_, rfl⟩
  rw [← hW_, ← hq_] at k_
  rw [← hW_] at k2_
  rw [← hW_, ← hq_]
  have S2 : Hid (BOwn w2 w.heap.size v1 bE) := k2_
  clear hq_ k2_ S1
  have Rw2 : Hid (Loc w w2 [(b, 43, pcells pE)]) := k_
  clear k_ hW_ R1
  simp only [Act.put, List.setIfInBounds_toArray, List.set_cons_succ, List.set_cons_zero]
  refine wl rfl (.agg (rcells rE (.slice (some ⟨b, 0, none⟩) 1 1)).toArray) _ (run_bldE (.tmp 17) rfl b rfl) ?_
  simp only [Act.put, List.setIfInBounds_toArray, List.set_cons_succ, List.set_cons_zero]
  refine wl rfl (ptr w2.heap.size) _ (run_allocA (rcells rz (.slice none 0 0)) zero26 rfl) ?_
  have k_ := Rw2.out.box 26 (rcells rz (.slice none 0 0))
  obtain ⟨w3, hW_⟩ : ∃ W, W = w2.alloc (.cells (rcells rz (.slice none 0 0)).toArray 26) := ⟨_, rfl⟩
  have hB_ : Below w2.heap.size w2 w3 := hW_ ▸ below_alloc w2 _
  obtain ⟨q3, hq_⟩ : ∃ q, q = w2.heap.size := ⟨_, rfl⟩
  rw [← hW_, ← hq_] at k_
  rw [← hW_, ← hq_]
  clear hq_
  have S3 : Hid (BOwn w3 w.heap.size v1 bE) := S2.out.laterB hB_
  clear S2
  have Rw3 : Hid (Loc w w3 [(b, 43, pcells pE), (q3, 26, rcells rz (.slice none 0 0))]) := k_
  clear k_ hW_ Rw2
  clear hB_
  simp only [Act.put, List.setIfInBounds_toArray, List.set_cons_succ, List.set_cons_zero]
  have hl39 : (rcells rE (.slice (some ⟨b, 0, none⟩) 1 1)).length = 39 := rcells_length _ (fits_E (Rw3.out.at 0 rfl)).root
  have hst := run_storeVar ag26 w3 q3 0 26 (rcells rz (.slice none 0 0)) (rcells rE (.slice (some ⟨b, 0, none⟩) 1 1)) hl39 (Rw3.out.at 1 rfl) (by rw [hl39, rcells_length _ rz_fine.1]; decide) (rcells_one (fits_E (Rw3.out.at 0 rfl)))
  rw [splice_all _ _ (by rw [hl39, rcells_length _ rz_fine.1])] at hst
  refine wlS rfl rfl _ (run_stV (.tmp 3) (.tmp 18) rfl q3 0 rfl _ rfl hst) ?_
  have k_ := Rw3.out.set 1 rfl ((Rw3.out.at 1 rfl).setRow (rcells rE (.slice (some ⟨b, 0, none⟩) 1 1))) ((Ch.refl (· = q3) w3).setRow (g := q3) (Or.inl rfl) _)
  obtain ⟨w4, hW_⟩ : ∃ W, W = w3.setRow q3 (rcells rE (.slice (some ⟨b, 0, none⟩) 1 1)).toArray := ⟨_, rfl⟩
  have hC_ : Ch (· = q3) w3 w4 := hW_ ▸ (Ch.refl (· = q3) w3).setRow (g := q3) (Or.inl rfl) _
  have hRow_ := Rw3.out.at 1 rfl
  rw [← hW_] at k_ ⊢
  have S4 : Hid (BOwn w4 w.heap.size v1 bE) := S3.out.off hRow_ (by decide) hC_
  clear S3
  have Rw4 : Hid (Loc w w4 [(b, 43, pcells pE), (q3, 26, rcells rE (.slice (some ⟨b, 0, none⟩) 1 1))]) := k_
  clear k_ hW_ Rw3
  clear hst hl39 hC_ hRow_
  refine wpList_nil ?_
  go_upto_region 3 with fail
  refine wp_region_lit ?_
  refine wl rfl (.agg (rcells rE (.slice (some ⟨b, 0, none⟩) 1 1)).toArray) _ (run_loadA ag26 (.tmp 3) rfl q3 (0) rfl (rcells rE (.slice (some ⟨b, 0, none⟩) 1 1)) (rcells_length _ rE_fine.1) (rows_all Rw4.out 1 rfl)) ?_
  simp only [Act.put, List.setIfInBounds_toArray, List.set_cons_succ, List.set_cons_zero]
  refine wpList_callW eN9 [.tmp 20] _ rfl rfl [(.agg (rcells rE (.slice (some ⟨b, 0, none⟩) 1 1)).toArray)] rfl ?_
  refine (encode_yes rE (.slice (some ⟨b, 0, none⟩) 1 1) w4 (fits_E (Rw4.out.at 0 rfl)) rE_may).mono ?_
  rintro e w5 ⟨v4, rfl, b_, o5, s5⟩
  refine ⟨_, rfl, ?_⟩
  have O5 : Hid (BOwn w5 w.heap.size v4 (enc rE)) := o5.weakenB Rw4.out.below.size
  have Rw5 : Hid (Loc w w5 [(b, 43, pcells pE), (q3, 26, rcells rE (.slice (some ⟨b, 0, none⟩) 1 1))]) := Rw4.out.later b_
  have S5 : Hid (BOwn w5 w.heap.size v1 bE) := S4.out.laterB b_
  clear Rw4 S4
  clear o5 s5 b_
  simp only [Act.put, List.setIfInBounds_toArray, List.set_cons_succ, List.set_cons_zero]
  refine wl rfl (.tuple #[v4, (.int .i64 0)]) _ (run_mvZ (.tmp 21) rfl (.tuple #[v4, (.int .i64 0)]) rfl) ?_
  simp only [Act.put, List.setIfInBounds_toArray, List.set_cons_succ, List.set_cons_zero]
  refine wl rfl v4 _ (run_extZ (.tmp 19) 0 rfl #[v4, (.int .i64 0)] rfl v4 rfl) ?_
  simp only [Act.put, List.setIfInBounds_toArray, List.set_cons_succ, List.set_cons_zero]
  refine wl rfl (.int .i64 0) _ (run_extZ (.tmp 19) 1 rfl #[v4, (.int .i64 0)] rfl (.int .i64 0) rfl) ?_
  simp only [Act.put, List.setIfInBounds_toArray, List.set_cons_succ, List.set_cons_zero]
  refine wl rfl v4 _ (run_asZ (.tmp 22) rfl v4 rfl) ?_
  simp only [Act.put, List.setIfInBounds_toArray, List.set_cons_succ, List.set_cons_zero]
  refine wl rfl (.int .i64 0) _ (run_asZ (.tmp 23) rfl (.int .i64 0) rfl) ?_
  simp only [Act.put, List.setIfInBounds_toArray, List.set_cons_succ, List.set_cons_zero]
  refine wpList_nil ?_
  go_upto_region 4 with fail
  refine wp_region_lit ?_
  refine wl rfl v4 _ (run_mvZ (.tmp 4) rfl v4 rfl) ?_
  simp only [Act.put, List.setIfInBounds_toArray, List.set_cons_succ, List.set_cons_zero]
  refine wpList_callW eN15 [.tmp 25] _ rfl rfl [v4] rfl ?_
  refine (decode_yes v4 (enc rE) w5 (O5.out.sliceB encrE_lt (by decide)) rE rE_back).mono ?_
  rintro e w6 ⟨v6, rfl, b_, _, o6, _⟩
  refine ⟨_, rfl, ?_⟩
  have P6 : Hid (POwn w6 w.heap.size v6 rE.cp) := o6.weaken Rw5.out.below.size
  have Rw6 : Hid (Loc w w6 [(b, 43, pcells pE), (q3, 26, rcells rE (.slice (some ⟨b, 0, none⟩) 1 1))]) := Rw5.out.later b_
  have S6 : Hid (BOwn w6 w.heap.size v1 bE) := S5.out.laterB b_
  have O6 : Hid (BOwn w6 w.heap.size v4 (enc rE)) := O5.out.laterB b_
  clear Rw5 S5 O5
  clear o6 b_
  simp only [Act.put, List.setIfInBounds_toArray, List.set_cons_succ, List.set_cons_zero]
  refine wl rfl (.tuple #[(.agg (rcells rE v6).toArray), (.int .i64 0)]) _ (run_mvZ (.tmp 26) rfl (.tuple #[(.agg (rcells rE v6).toArray), (.int .i64 0)]) rfl) ?_
  simp only [Act.put, List.setIfInBounds_toArray, List.set_cons_succ, List.set_cons_zero]
  refine wl rfl (.agg (rcells rE v6).toArray) _ (run_extZ (.tmp 24) 0 rfl #[(.agg (rcells rE v6).toArray), (.int .i64 0)] rfl (.agg (rcells rE v6).toArray) rfl) ?_
  simp only [Act.put, List.setIfInBounds_toArray, List.set_cons_succ, List.set_cons_zero]
  refine wl rfl (.int .i64 0) _ (run_extZ (.tmp 24) 1 rfl #[(.agg (rcells rE v6).toArray), (.int .i64 0)] rfl (.int .i64 0) rfl) ?_
  simp only [Act.put, List.setIfInBounds_toArray, List.set_cons_succ, List.set_cons_zero]
  refine wl rfl (ptr w6.heap.size) _ (run_allocA (rcells rz (.slice none 0 0)) zero26 rfl) ?_
  have k_ := Rw6.out.box 26 (rcells rz (.slice none 0 0))
  obtain ⟨w7, hW_⟩ : ∃ W, W = w6.alloc (.cells (rcells rz (.slice none 0 0)).toArray 26) := ⟨_, rfl⟩
  have hB_ : Below w6.heap.size w6 w7 := hW_ ▸ below_alloc w6 _
  obtain ⟨q6, hq_⟩ : ∃ q, q = w6.heap.size := ⟨_, rfl⟩
  rw [← hW_, ← hq_] at k_
  rw [← hW_, ← hq_]
  clear hq_
  have S7 : Hid (BOwn w7 w.heap.size v1 bE) := S6.out.laterB hB_
  clear S6
  have O7 : Hid (BOwn w7 w.heap.size v4 (enc rE)) := O6.out.laterB hB_
  clear O6
  have P7 : Hid (POwn w7 w.heap.size v6 rE.cp) := P6.out.later hB_
  clear P6
  have Rw7 : Hid (Loc w w7 [(b, 43, pcells pE), (q3, 26, rcells rE (.slice (some ⟨b, 0, none⟩) 1 1)), (q6, 26, rcells rz (.slice none 0 0))]) := k_
  clear k_ hW_ Rw6
  clear hB_
  simp only [Act.put, List.setIfInBounds_toArray, List.set_cons_succ, List.set_cons_zero]
  have hl39 : (rcells rE v6).length = 39 := rcells_length _ (fits_of rE_fine P7.out (by decide)).root
  have hst := run_storeVar ag26 w7 q6 0 26 (rcells rz (.slice none 0 0)) (rcells rE v6) hl39 (Rw7.out.at 2 rfl) (by rw [hl39, rcells_length _ rz_fine.1]; decide) (rcells_one (fits_of rE_fine P7.out (by decide)))
  rw [splice_all _ _ (by rw [hl39, rcells_length _ rz_fine.1])] at hst
  refine wlS rfl rfl _ (run_stV (.tmp 6) (.tmp 27) rfl q6 0 rfl _ rfl hst) ?_
  have k_ := Rw7.out.set 2 rfl ((Rw7.out.at 2 rfl).setRow (rcells rE v6)) ((Ch.refl (· = q6) w7).setRow (g := q6) (Or.inl rfl) _)
  obtain ⟨w8, hW_⟩ : ∃ W, W = w7.setRow q6 (rcells rE v6).toArray := ⟨_, rfl⟩
  have hC_ : Ch (· = q6) w7 w8 := hW_ ▸ (Ch.refl (· = q6) w7).setRow (g := q6) (Or.inl rfl) _
  have hRow_ := Rw7.out.at 2 rfl
  rw [← hW_] at k_ ⊢
  have S8 : Hid (BOwn w8 w.heap.size v1 bE) := S7.out.off hRow_ (by decide) hC_
  clear S7
  have O8 : Hid (BOwn w8 w.heap.size v4 (enc rE)) := O7.out.off hRow_ (by decide) hC_
  clear O7
  have P8 : Hid (POwn w8 w.heap.size v6 rE.cp) := P7.out.off hRow_ (by decide) hC_
  clear P7
  have Rw8 : Hid (Loc w w8 [(b, 43, pcells pE), (q3, 26, rcells rE (.slice (some ⟨b, 0, none⟩) 1 1)), (q6, 26, rcells rE v6)]) := k_
  clear k_ hW_ Rw7
  clear hst hl39 hC_ hRow_
  refine wl rfl (.int .i64 0) _ (run_asZ (.tmp 28) rfl (.int .i64 0) rfl) ?_
  simp only [Act.put, List.setIfInBounds_toArray, List.set_cons_succ, List.set_cons_zero]
  refine wpList_nil ?_
  go_upto_region 5 with fail
  refine wp_region_lit ?_
  refine wl_blit0 rfl rfl ?_
  intro w9 r9 z9 b9
  have L9 : Hid (BOwn w9 w8.heap.size (whole w8.heap.size 0) []) := whole_own r9 (Nat.le_refl _) (by simp)
  have O9 : Hid (SliceIn w9 v4 (enc rE)) := (O8.out.laterB b9).sliceB encrE_lt (by decide)
  have B9 : Hid (Below w8.heap.size w8 w9) := b9
  obtain ⟨v9, hv9⟩ : ∃ v, v = whole w8.heap.size 0 := ⟨_, rfl⟩
  rw [← hv9] at L9 ⊢
  clear r9 z9 b9 hv9
  simp only [Act.put, List.setIfInBounds_toArray, List.set_cons_succ, List.set_cons_zero]
  refine wl rfl v4 _ (run_mvZ (.tmp 4) rfl v4 rfl) ?_
  simp only [Act.put, List.setIfInBounds_toArray, List.set_cons_succ, List.set_cons_zero]
  refine wl_bgrow (.tmp 30) (.tmp 31) rfl rfl w8.heap.size v9 v4 [] (enc rE) rfl L9.out rfl O9.out (by decide) B9.out.size ?_
  intro v10 w10 o10 g10
  have B10 : Hid (Below w8.heap.size w8 w10) := B9.out.trans (L9.out.belowG g10 B9.out.size)
  have L10 : Hid (BOwn w10 w8.heap.size v10 (enc rE)) := o10
  clear o10 g10 L9 O9 B9
  simp only [Act.put, List.setIfInBounds_toArray, List.set_cons_succ, List.set_cons_zero]
  refine wl rfl (whole w10.heap.size 1) _ (run_litB1 (.const (.int .u8 0)) rfl 0 rfl) ?_
  obtain ⟨v11, hv⟩ : ∃ v, v = whole w10.heap.size 1 := ⟨_, rfl⟩
  obtain ⟨w11, hw⟩ : ∃ W, W = w10.alloc (.cells (bcells [0]).toArray 5) := ⟨_, rfl⟩
  have B11 : Hid (Below w8.heap.size w8 w11) := B10.out.trans (hw ▸ (below_alloc w10 _).mono B10.out.size)
  have L11 : Hid (BOwn w11 w8.heap.size v10 (enc rE)) := hw ▸ L10.out.laterB (below_alloc w10 _)
  have S11 : Hid (SliceIn w11 v11 [0]) := hv ▸ hw ▸ whole_slice (Row.new w10 5 (bcells [0])) (one_lt (by decide)) (by simp)
  rw [← hv, ← hw]
  clear hv hw B10 L10
  simp only [Act.put, List.setIfInBounds_toArray, List.set_cons_succ, List.set_cons_zero]
  refine wl_bgrow (.tmp 32) (.tmp 33) rfl rfl w8.heap.size v10 v11 (enc rE) [0] rfl L11.out rfl S11.out (by decide) B11.out.size ?_
  intro v12 w12 o12 g12
  have B12 : Hid (Below w8.heap.size w8 w12) := B11.out.trans (L11.out.belowG g12 B11.out.size)
  have L12 : Hid (SliceIn w12 v12 (enc rE ++ [0])) := o12.sliceB (app_lt encrE_lt (one_lt (by decide))) (by decide)
  clear o12 g12 L11 S11 B11
  simp only [Act.put, List.setIfInBounds_toArray, List.set_cons_succ, List.set_cons_zero]
  refine wpList_callW eN15 [.tmp 34] _ rfl rfl [v12] rfl ?_
  refine (decode_no v12 (enc rE ++ [0]) w12 L12.out rE_more).mono ?_
  rintro e w13 ⟨v13, rfl, b13, o13⟩
  refine ⟨_, rfl, ?_⟩
  have b_ : Below w8.heap.size w8 w13 := B12.out.trans (b13.mono B12.out.size)
  have Q13 : Hid (POwn w13 w.heap.size v13 []) := o13.weaken (Nat.le_trans Rw8.out.below.size B12.out.size)
  have Rw13 : Hid (Loc w w13 [(b, 43, pcells pE), (q3, 26, rcells rE (.slice (some ⟨b, 0, none⟩) 1 1)), (q6, 26, rcells rE v6)]) := Rw8.out.later b_
  have S13 : Hid (BOwn w13 w.heap.size v1 bE) := S8.out.laterB b_
  have P13 : Hid (POwn w13 w.heap.size v6 rE.cp) := P8.out.later b_
  clear Rw8 S8 P8
  clear o13 b13 b_ B12 L12 O8
  simp only [Act.put, List.setIfInBounds_toArray, List.set_cons_succ, List.set_cons_zero]
  refine wl rfl (.tuple #[(.agg (rcells rz v13).toArray), (.int .i64 110)]) _ (run_mvZ (.tmp 35) rfl (.tuple #[(.agg (rcells rz v13).toArray), (.int .i64 110)]) rfl) ?_
  simp only [Act.put, List.setIfInBounds_toArray, List.set_cons_succ, List.set_cons_zero]
  refine wl rfl (.agg (rcells rz v13).toArray) _ (run_extZ (.tmp 29) 0 rfl #[(.agg (rcells rz v13).toArray), (.int .i64 110)] rfl (.agg (rcells rz v13).toArray) rfl) ?_
  simp only [Act.put, List.setIfInBounds_toArray, List.set_cons_succ, List.set_cons_zero]
  refine wl rfl (.int .i64 110) _ (run_extZ (.tmp 29) 1 rfl #[(.agg (rcells rz v13).toArray), (.int .i64 110)] rfl (.int .i64 110) rfl) ?_
  simp only [Act.put, List.setIfInBounds_toArray, List.set_cons_succ, List.set_cons_zero]
  refine wl rfl (ptr w13.heap.size) _ (run_allocA (rcells rz (.slice none 0 0)) zero26 rfl) ?_
  have k_ := Rw13.out.box 26 (rcells rz (.slice none 0 0))
  obtain ⟨w14, hW_⟩ : ∃ W, W = w13.alloc (.cells (rcells rz (.slice none 0 0)).toArray 26) := ⟨_, rfl⟩
  have hB_ : Below w13.heap.size w13 w14 := hW_ ▸ below_alloc w13 _
  obtain ⟨q8, hq_⟩ : ∃ q, q = w13.heap.size := ⟨_, rfl⟩
  rw [← hW_, ← hq_] at k_
  rw [← hW_, ← hq_]
  clear hq_
  have S14 : Hid (BOwn w14 w.heap.size v1 bE) := S13.out.laterB hB_
  clear S13
  have P14 : Hid (POwn w14 w.heap.size v6 rE.cp) := P13.out.later hB_
  clear P13
  have Q14 : Hid (POwn w14 w.heap.size v13 []) := Q13.out.later hB_
  clear Q13
  have Rw14 : Hid (Loc w w14 [(b, 43, pcells pE), (q3, 26, rcells rE (.slice (some ⟨b, 0, none⟩) 1 1)), (q6, 26, rcells rE v6), (q8, 26, rcells rz (.slice none 0 0))]) := k_
  clear k_ hW_ Rw13
  clear hB_
  simp only [Act.put, List.setIfInBounds_toArray, List.set_cons_succ, List.set_cons_zero]
  have hl39 : (rcells rz v13).length = 39 := rcells_length _ (fits_of rz_fine Q14.out (by decide)).root
  have hst := run_storeVar ag26 w14 q8 0 26 (rcells rz (.slice none 0 0)) (rcells rz v13) hl39 (Rw14.out.at 3 rfl) (by rw [hl39, rcells_length _ rz_fine.1]; decide) (rcells_one (fits_of rz_fine Q14.out (by decide)))
  rw [splice_all _ _ (by rw [hl39, rcells_length _ rz_fine.1])] at hst
  refine wlS rfl rfl _ (run_stV (.tmp 8) (.tmp 36) rfl q8 0 rfl _ rfl hst) ?_
  have k_ := Rw14.out.set 3 rfl ((Rw14.out.at 3 rfl).setRow (rcells rz v13)) ((Ch.refl (· = q8) w14).setRow (g := q8) (Or.inl rfl) _)
  obtain ⟨w15, hW_⟩ : ∃ W, W = w14.setRow q8 (rcells rz v13).toArray := ⟨_, rfl⟩
  have hC_ : Ch (· = q8) w14 w15 := hW_ ▸ (Ch.refl (· = q8) w14).setRow (g := q8) (Or.inl rfl) _
  have hRow_ := Rw14.out.at 3 rfl
  rw [← hW_] at k_ ⊢
  have S15 : Hid (BOwn w15 w.heap.size v1 bE) := S14.out.off hRow_ (by decide) hC_
  clear S14
  have P15 : Hid (POwn w15 w.heap.size v6 rE.cp) := P14.out.off hRow_ (by decide) hC_
  clear P14
  have Q15 : Hid (POwn w15 w.heap.size v13 []) := Q14.out.off hRow_ (by decide) hC_
  clear Q14
  have Rw15 : Hid (Loc w w15 [(b, 43, pcells pE), (q3, 26, rcells rE (.slice (some ⟨b, 0, none⟩) 1 1)), (q6, 26, rcells rE v6), (q8, 26, rcells rz v13)]) := k_
  clear k_ hW_ Rw14
  clear hst hl39 hC_ hRow_
  refine wl rfl (.int .i64 110) _ (run_asZ (.tmp 37) rfl (.int .i64 110) rfl) ?_
  simp only [Act.put, List.setIfInBounds_toArray, List.set_cons_succ, List.set_cons_zero]
  refine wpList_nil ?_
  go_upto_region 6 with fail
  refine wp_region_lit ?_
  refine wl rfl (.agg (rcells rE (.slice (some ⟨b, 0, none⟩) 1 1)).toArray) _ (run_loadA ag26 (.tmp 3) rfl q3 (0) rfl (rcells rE (.slice (some ⟨b, 0, none⟩) 1 1)) (rcells_length _ rE_fine.1) (rows_all Rw15.out 1 rfl)) ?_
  simp only [Act.put, List.setIfInBounds_toArray, List.set_cons_succ, List.set_cons_zero]
  refine wl rfl (.agg (rcells rE v6).toArray) _ (run_loadA ag26 (.tmp 6) rfl q6 (0) rfl (rcells rE v6) (rcells_length _ rE_fine.1) (rows_all Rw15.out 2 rfl)) ?_
  simp only [Act.put, List.setIfInBounds_toArray, List.set_cons_succ, List.set_cons_zero]
  refine wpList_callW eN17 [.tmp 38, .tmp 39] _ rfl rfl [(.agg (rcells rE (.slice (some ⟨b, 0, none⟩) 1 1)).toArray), (.agg (rcells rE v6).toArray)] rfl ?_
  refine (same_yes rE (.slice (some ⟨b, 0, none⟩) 1 1) v6 w15 (fits_E (Rw15.out.at 0 rfl)) (fits_of rE_fine P15.out (by decide))).mono ?_
  rintro e w16 ⟨rfl, b_⟩
  refine ⟨_, rfl, ?_⟩
  have Rw16 : Hid (Loc w w16 [(b, 43, pcells pE), (q3, 26, rcells rE (.slice (some ⟨b, 0, none⟩) 1 1)), (q6, 26, rcells rE v6), (q8, 26, rcells rz v13)]) := Rw15.out.later b_
  have S16 : Hid (BOwn w16 w.heap.size v1 bE) := S15.out.laterB b_
  clear Rw15 S15
  clear b_ P15 Q15
  simp only [Act.put, List.setIfInBounds_toArray, List.set_cons_succ, List.set_cons_zero]
  refine wl rfl (.bool true) _ (run_asZ (.tmp 40) rfl (.bool true) rfl) ?_
  simp only [Act.put, List.setIfInBounds_toArray, List.set_cons_succ, List.set_cons_zero]
  refine wpList_nil ?_
  have T16 : Hid (SliceIn w16 v1 bE) := S16.out.sliceB bE_lt (by decide)
  obtain ⟨i0, j0, x0, c0⟩ := ix_byte T16.out 0 (by decide)
  obtain ⟨i1, j1, x1, c1⟩ := ix_byte T16.out 1 (by decide)
  obtain ⟨i3, j3, x3, c3⟩ := ix_byte T16.out 3 (by decide)
  have HI : Hid ((∀ w', (Instr.indexAt 28 v1 (.int .i64 0)).run Try.prog w' = .ok (.pointer (some ⟨i0, j0, none⟩)) w') ∧ (∀ w', (Instr.indexAt 28 v1 (.int .i64 1)).run Try.prog w' = .ok (.pointer (some ⟨i1, j1, none⟩)) w') ∧ (∀ w', (Instr.indexAt 28 v1 (.int .i64 3)).run Try.prog w' = .ok (.pointer (some ⟨i3, j3, none⟩)) w')) := ⟨x0, x1, x3⟩
  have HC : Hid (w16.cell? ⟨i0, j0, none⟩ = some (.int .u8 1) ∧ w16.cell? ⟨i1, j1, none⟩ = some (.int .u8 97) ∧ w16.cell? ⟨i3, j3, none⟩ = some (.int .u8 3)) := ⟨c0, c1, c3⟩
  clear x0 x1 x3 c0 c1 c3
  go_upto_region 7 with fail
  refine wp_region_lit ?_
  refine wl rfl (.int .i64 0) _ (run_mvZ (.tmp 2) rfl (.int .i64 0) rfl) ?_
  simp only [Act.put, List.setIfInBounds_toArray, List.set_cons_succ, List.set_cons_zero]
  refine wl rfl (.bool true) _ (run_eqZ (.tmp 41) (.const (.int .i64 0)) rfl (0) (0) rfl rfl true rfl) ?_
  simp only [Act.put, List.setIfInBounds_toArray, List.set_cons_succ, List.set_cons_zero]
  refine wl rfl (.bool true) _ (run_mvZ (.tmp 42) rfl (.bool true) rfl) ?_
  simp only [Act.put, List.setIfInBounds_toArray, List.set_cons_succ, List.set_cons_zero]
  refine wl (by kernel_rfl) v1 _ (run_mvZ (.tmp 1) rfl v1 rfl) ?_
  simp only [Act.put, List.setIfInBounds_toArray, List.set_cons_succ, List.set_cons_zero]
  refine wl (by kernel_rfl) (.int .i64 (bE.length : Nat)) _ (run_lenB T16.out (.tmp 44) rfl rfl) ?_
  simp only [Act.put, List.setIfInBounds_toArray, List.set_cons_succ, List.set_cons_zero]
  refine wl (by kernel_rfl) (.bool true) _ (run_eqZ (.tmp 45) (.const (.int .i64 36)) rfl (bE.length : Nat) 36 rfl rfl true (by decide)) ?_
  simp only [Act.put, List.setIfInBounds_toArray, List.set_cons_succ, List.set_cons_zero]
  refine wl rfl (.bool true) _ (run_pickZ (.tmp 43) (.tmp 46) (.const (.bool false)) rfl true (.bool true) rfl rfl) ?_
  simp only [Act.put, List.setIfInBounds_toArray, List.set_cons_succ, List.set_cons_zero]
  refine wl rfl (.bool true) _ (run_mvZ (.tmp 47) rfl (.bool true) rfl) ?_
  simp only [Act.put, List.setIfInBounds_toArray, List.set_cons_succ, List.set_cons_zero]
  refine wl (by kernel_rfl) v1 _ (run_mvZ (.tmp 1) rfl v1 rfl) ?_
  simp only [Act.put, List.setIfInBounds_toArray, List.set_cons_succ, List.set_cons_zero]
  refine wl (by kernel_rfl) (.pointer (some ⟨i0, j0, none⟩)) _ (run_idx (.tmp 49) (.const (.int .i64 0)) rfl v1 _ _ rfl rfl HI.out.1) ?_
  simp only [Act.put, List.setIfInBounds_toArray, List.set_cons_succ, List.set_cons_zero]
  refine wl (by kernel_rfl) (.int .u8 1) _ (run_load1 o5 (.tmp 50) rfl i0 (j0) rfl (.int .u8 1) HC.out.1) ?_
  simp only [Act.put, List.setIfInBounds_toArray, List.set_cons_succ, List.set_cons_zero]
  refine wl (by kernel_rfl) (.bool true) _ (run_eqU8 (.tmp 51) 1 rfl rfl) ?_
  simp only [Act.put, List.setIfInBounds_toArray, List.set_cons_succ, List.set_cons_zero]
  refine wl rfl (.bool true) _ (run_pickZ (.tmp 48) (.tmp 52) (.const (.bool false)) rfl true (.bool true) rfl rfl) ?_
  simp only [Act.put, List.setIfInBounds_toArray, List.set_cons_succ, List.set_cons_zero]
  refine wl rfl (.bool true) _ (run_mvZ (.tmp 53) rfl (.bool true) rfl) ?_
  simp only [Act.put, List.setIfInBounds_toArray, List.set_cons_succ, List.set_cons_zero]
  refine wl (by kernel_rfl) v1 _ (run_mvZ (.tmp 1) rfl v1 rfl) ?_
  simp only [Act.put, List.setIfInBounds_toArray, List.set_cons_succ, List.set_cons_zero]
  refine wl (by kernel_rfl) (.pointer (some ⟨i1, j1, none⟩)) _ (run_idx (.tmp 55) (.const (.int .i64 1)) rfl v1 _ _ rfl rfl HI.out.2.1) ?_
  simp only [Act.put, List.setIfInBounds_toArray, List.set_cons_succ, List.set_cons_zero]
  refine wl (by kernel_rfl) (.int .u8 97) _ (run_load1 o5 (.tmp 56) rfl i1 (j1) rfl (.int .u8 97) HC.out.2.1) ?_
  simp only [Act.put, List.setIfInBounds_toArray, List.set_cons_succ, List.set_cons_zero]
  refine wl (by kernel_rfl) (.bool true) _ (run_eqU8 (.tmp 57) 97 rfl rfl) ?_
  simp only [Act.put, List.setIfInBounds_toArray, List.set_cons_succ, List.set_cons_zero]
  refine wl rfl (.bool true) _ (run_pickZ (.tmp 54) (.tmp 58) (.const (.bool false)) rfl true (.bool true) rfl rfl) ?_
  simp only [Act.put, List.setIfInBounds_toArray, List.set_cons_succ, List.set_cons_zero]
  refine wl rfl (.bool true) _ (run_mvZ (.tmp 59) rfl (.bool true) rfl) ?_
  simp only [Act.put, List.setIfInBounds_toArray, List.set_cons_succ, List.set_cons_zero]
  refine wl (by kernel_rfl) v1 _ (run_mvZ (.tmp 1) rfl v1 rfl) ?_
  simp only [Act.put, List.setIfInBounds_toArray, List.set_cons_succ, List.set_cons_zero]
  refine wl (by kernel_rfl) (.pointer (some ⟨i3, j3, none⟩)) _ (run_idx (.tmp 61) (.const (.int .i64 3)) rfl v1 _ _ rfl rfl HI.out.2.2) ?_
  simp only [Act.put, List.setIfInBounds_toArray, List.set_cons_succ, List.set_cons_zero]
  refine wl (by kernel_rfl) (.int .u8 3) _ (run_load1 o5 (.tmp 62) rfl i3 (j3) rfl (.int .u8 3) HC.out.2.2) ?_
  simp only [Act.put, List.setIfInBounds_toArray, List.set_cons_succ, List.set_cons_zero]
  refine wl (by kernel_rfl) (.bool true) _ (run_eqU8 (.tmp 63) 3 rfl rfl) ?_
  simp only [Act.put, List.setIfInBounds_toArray, List.set_cons_succ, List.set_cons_zero]
  refine wl rfl (.bool true) _ (run_pickZ (.tmp 60) (.tmp 64) (.const (.bool false)) rfl true (.bool true) rfl rfl) ?_
  simp only [Act.put, List.setIfInBounds_toArray, List.set_cons_succ, List.set_cons_zero]
  refine wl rfl (.bool true) _ (run_mvZ (.tmp 65) rfl (.bool true) rfl) ?_
  simp only [Act.put, List.setIfInBounds_toArray, List.set_cons_succ, List.set_cons_zero]
  refine wl (by kernel_rfl) (.int .i64 0) _ (run_mvZ (.tmp 5) rfl (.int .i64 0) rfl) ?_
  simp only [Act.put, List.setIfInBounds_toArray, List.set_cons_succ, List.set_cons_zero]
  refine wl (by kernel_rfl) (.bool true) _ (run_eqZ (.tmp 67) (.const (.int .i64 0)) rfl (0) (0) rfl rfl true rfl) ?_
  simp only [Act.put, List.setIfInBounds_toArray, List.set_cons_succ, List.set_cons_zero]
  refine wl rfl (.bool true) _ (run_pickZ (.tmp 66) (.tmp 68) (.const (.bool false)) rfl true (.bool true) rfl rfl) ?_
  simp only [Act.put, List.setIfInBounds_toArray, List.set_cons_succ, List.set_cons_zero]
  refine wl rfl (.bool true) _ (run_mvZ (.tmp 69) rfl (.bool true) rfl) ?_
  simp only [Act.put, List.setIfInBounds_toArray, List.set_cons_succ, List.set_cons_zero]
  refine wl (by kernel_rfl) (.int .i64 0) _ (run_mvZ (.tmp 7) rfl (.int .i64 0) rfl) ?_
  simp only [Act.put, List.setIfInBounds_toArray, List.set_cons_succ, List.set_cons_zero]
  refine wl (by kernel_rfl) (.bool true) _ (run_eqZ (.tmp 71) (.const (.int .i64 0)) rfl (0) (0) rfl rfl true rfl) ?_
  simp only [Act.put, List.setIfInBounds_toArray, List.set_cons_succ, List.set_cons_zero]
  refine wl rfl (.bool true) _ (run_pickZ (.tmp 70) (.tmp 72) (.const (.bool false)) rfl true (.bool true) rfl rfl) ?_
  simp only [Act.put, List.setIfInBounds_toArray, List.set_cons_succ, List.set_cons_zero]
  refine wl rfl (.bool true) _ (run_mvZ (.tmp 73) rfl (.bool true) rfl) ?_
  simp only [Act.put, List.setIfInBounds_toArray, List.set_cons_succ, List.set_cons_zero]
  refine wl (by kernel_rfl) (.int .i64 110) _ (run_mvZ (.tmp 9) rfl (.int .i64 110) rfl) ?_
  simp only [Act.put, List.setIfInBounds_toArray, List.set_cons_succ, List.set_cons_zero]
  refine wl (by kernel_rfl) (.bool true) _ (run_eqZ (.tmp 75) (.const (.int .i64 110)) rfl (110) (110) rfl rfl true rfl) ?_
  simp only [Act.put, List.setIfInBounds_toArray, List.set_cons_succ, List.set_cons_zero]
  refine wl rfl (.bool true) _ (run_pickZ (.tmp 74) (.tmp 76) (.const (.bool false)) rfl true (.bool true) rfl rfl) ?_
  simp only [Act.put, List.setIfInBounds_toArray, List.set_cons_succ, List.set_cons_zero]
  refine wl rfl (.bool true) _ (run_mvZ (.tmp 77) rfl (.bool true) rfl) ?_
  simp only [Act.put, List.setIfInBounds_toArray, List.set_cons_succ, List.set_cons_zero]
  refine wl (by kernel_rfl) (.bool true) _ (run_mvZ (.tmp 10) rfl (.bool true) rfl) ?_
  simp only [Act.put, List.setIfInBounds_toArray, List.set_cons_succ, List.set_cons_zero]
  refine wl rfl (.bool true) _ (run_pickZ (.tmp 78) (.tmp 79) (.const (.bool false)) rfl true (.bool true) rfl rfl) ?_
  simp only [Act.put, List.setIfInBounds_toArray, List.set_cons_succ, List.set_cons_zero]
  refine wl rfl (.bool true) _ (run_mvZ (.tmp 80) rfl (.bool true) rfl) ?_
  simp only [Act.put, List.setIfInBounds_toArray, List.set_cons_succ, List.set_cons_zero]
  refine wpList_callW eN13 [.const (.string { data := #[97, 45, 49, 46, 120] })] _ (by kernel_rfl) rfl [str [97, 45, 49, 46, 120]] rfl ?_
  refine (name_any [97, 45, 49, 46, 120] (by decide) w16).mono ?_
  rintro e wn ⟨rfl, rfl⟩
  refine ⟨_, rfl, ?_⟩
  rw [show nameB [97, 45, 49, 46, 120] = true by decide]
  simp only [Act.put, List.setIfInBounds_toArray, List.set_cons_succ, List.set_cons_zero]
  refine wl rfl (.bool true) _ (run_pickZ (.tmp 81) (.tmp 82) (.const (.bool false)) rfl true (.bool true) rfl rfl) ?_
  simp only [Act.put, List.setIfInBounds_toArray, List.set_cons_succ, List.set_cons_zero]
  refine wl rfl (.bool true) _ (run_mvZ (.tmp 83) rfl (.bool true) rfl) ?_
  simp only [Act.put, List.setIfInBounds_toArray, List.set_cons_succ, List.set_cons_zero]
  refine wpList_callW eN13 [.const (.string { data := #[65] })] _ (by kernel_rfl) rfl [str [65]] rfl ?_
  refine (name_any [65] (by decide) w16).mono ?_
  rintro e wn ⟨rfl, rfl⟩
  refine ⟨_, rfl, ?_⟩
  rw [show nameB [65] = false by decide]
  simp only [Act.put, List.setIfInBounds_toArray, List.set_cons_succ, List.set_cons_zero]
  refine wl (by kernel_rfl) (.bool true) _ (run_not (.tmp 85) 4 rfl false rfl) ?_
  simp only [Act.put, List.setIfInBounds_toArray, List.set_cons_succ, List.set_cons_zero]
  refine wl rfl (.bool true) _ (run_pickZ (.tmp 84) (.tmp 86) (.const (.bool false)) rfl true (.bool true) rfl rfl) ?_
  simp only [Act.put, List.setIfInBounds_toArray, List.set_cons_succ, List.set_cons_zero]
  refine wl rfl (.bool true) _ (run_asZ (.tmp 87) rfl (.bool true) rfl) ?_
  simp only [Act.put, List.setIfInBounds_toArray, List.set_cons_zero]
  refine wpList_nil ?_
  go_wp2_with fail
  rw [HPQ.out]
  exact ⟨rfl, Rw16.out.below⟩

end Go.Proofs.Ytncjmolhofnpbaa

/- The law RecordReads. -/
import Derived.Test.YtncjmolhofnpbaaR23
namespace Go.Proofs.Ytncjmolhofnpbaa
open Go.RowKit

def decO (b : List Nat) : Rc × Int := match decR b with
  | some x => (x, 0)
  | none => (rz, 110)
theorem dec_o (f : Nat) (v : Value) (b : List Nat) (w : World) (h : Calls Try.prog f #[v] w fun e w' => ∃ r vc er, e = .returned (.tuple #[.agg (rcells r vc).toArray, .int .i64 er]) ∧ DecS w w' b r vc er) (R : Rc) (ER : Int) (ho : (R, ER) = decO b) : Calls Try.prog f #[v] w fun e w' => ∃ vc, e = .returned (.tuple #[.agg (rcells R vc).toArray, .int .i64 ER]) ∧ Below w.heap.size w w' ∧ POwn w' w.heap.size vc R.cp ∧ Fine R ∧ R.cp.length ≤ 255 :=
  h.mono fun e w' ⟨r, vc, er, h1, h2⟩ => by
    have e1 : (R, ER) = (r, er) := by
      rw [ho]
      unfold decO
      rcases h2.2.2.2.2 with ⟨h3, rfl, rfl⟩ | ⟨h3, rfl⟩
      · rw [h3]
      · rw [h3]
    injection e1 with e1 e2
    subst e1 e2
    exact ⟨vc, h1, h2.2.2.2.1, h2.2.1, h2.1, h2.2.2.1⟩
theorem run_blit0 {w : World} {a : Act} {o : Oper} (ho : o.op = .buildSlice 28 0 #[]) : (execOp a.eval o).run Try.prog w = .ok (.value (.slice (some ⟨w.heap.size, 0, none⟩) 0 0)) (w.alloc (.cells #[] 5)) := by
  have hr : (Instr.buildSlice 28 0 #[]).run Try.prog w = .ok (.slice (some ⟨w.heap.size, 0, none⟩) 0 0) (w.alloc (.cells #[] 5)) := by kernel_rfl
  simp only [execOp, ho, List.map_toArray, List.map_nil, hr, Sem.run_bind, Sem.run_pure, Result.andThen_ok]
theorem own_ix {W : World} {base : Nat} {v : Value} {cs : List Nat} (h : BOwn W base v cs) (k : Nat) (hk : k < cs.length) : ∃ g cur, v.ownBlock = some g ∧ base ≤ g ∧ (∀ w', (Instr.indexAt 28 v (.int .i64 (k : Nat))).run Try.prog w' = .ok (.pointer (some ⟨g, k, none⟩)) w') ∧ Row W g 5 cur ∧ k < cur.length ∧ BOwn (W.setCell ⟨g, k, none⟩ (.int .u8 99)) base v (cs.set k 99) := by
  obtain ⟨i5, hi5, hsz⟩ := Option.map_eq_some_iff.1 info5
  have hset := fun g hg => Fr.BOwn.set (w := W) (base := base) (v := v) (cs := cs) h g hg k 99
  rcases h.2 with ⟨rfl, h0⟩ | ⟨g, cap, cur, rfl, hb, hgg, hcap, hmax, hsz2, htake⟩
  · omega
  refine ⟨g, cur.toList, rfl, hb, fun w' => by simp [Instr.indexAt, asIntOf, run_underlying Try.underlying28, hk, sizeOf, typeInfo, hi5, hsz, add_none], by unfold Row; simpa using hgg, ?_, (hset g rfl).1⟩
  simp [hsz2]
  omega
/-- what the law holds while it spoils its own bytes -/
def LawS (w W : World) (q5 q7 : Nat) (R : Rc) (vx vy v4 : Value) (n : Nat) : Prop :=
  ∃ cs : List Nat, cs.length = n ∧ (∀ c ∈ cs, c < 256) ∧ BOwn W w.heap.size v4 cs ∧ Loc w W [(q5, 26, rcells R vx), (q7, 26, rcells R vy)] ∧ POwn W w.heap.size vx R.cp ∧ POwn W w.heap.size vy R.cp
theorem LawS.put {w W W' : World} {q5 q7 g k n : Nat} {R : Rc} {vx vy v4 : Value} {cs : List Nat} {cur : List Value} (hl : cs.length = n) (hb : ∀ c ∈ cs, c < 256) (hL : Loc w W [(q5, 26, rcells R vx), (q7, 26, rcells R vy)]) (hx : POwn W w.heap.size vx R.cp) (hy : POwn W w.heap.size vy R.cp) (hg : w.heap.size ≤ g) (hr : Row W g 5 cur) (ho : BOwn W' w.heap.size v4 (cs.set k 99)) (hc : Ch (· = g) W W') : LawS w W' q5 q7 R vx vy v4 n := by
  refine ⟨cs.set k 99, by rw [List.length_set]; exact hl, ?_, ho, ?_, hx.off hr (by decide) hc, hy.off hr (by decide) hc⟩
  · intro c hm
    rcases List.mem_or_eq_of_mem_set hm with h | h
    · exact hb c h
    · rw [h]; decide
  · refine hL.keep (hc.below hL.below.size fun i hi e => by omega) fun i q T c e => hc.one q (hL.at i e).lt fun e2 => ?_
    have hT : T ≠ 5 := by
      match i, e with
      | 0, e => cases e; decide
      | 1, e => cases e; decide
      | i + 2, e => simp at e
    have h1 := hL.at i e
    rw [e2] at h1
    unfold Row at h1 hr
    rw [hr] at h1
    injection h1 with h1
    injection h1 with _ h2
    exact hT h2.symm
set_option maxHeartbeats 4000000 in
theorem reads_any (v : Value) (b : List Nat) (w : World) (hin : SliceIn w v b) (hsz : b.length ≤ 140737488355328) : Calls Try.prog 4 #[v] w fun e w' => e = .returned (.bool true) ∧ Below w.heap.size w w' := by
  have HI : Hid (SliceIn w v b) := hin
  have HSZ : Hid (b.length ≤ 140737488355328) := hsz
  clear hin hsz
  obtain ⟨PQ, HPQ⟩ : ∃ PQ : Ending → World → Prop, Hid (PQ = fun e w' => e = .returned (.bool true) ∧ Below w.heap.size w w') := ⟨_, rfl⟩
  rw [← HPQ.out]
  obtain ⟨R, ER, hO⟩ : ∃ (R : Rc) (ER : Int), (R, ER) = decO b := ⟨_, _, rfl⟩
  obtain ⟨n, hn⟩ : ∃ n, n = b.length := ⟨_, rfl⟩
  have HN : Hid (n = b.length ∧ n ≤ 140737488355328) := ⟨hn, by rw [hn]; exact HSZ.out⟩
  have HO : Hid ((R, ER) = decO b) := hO
  have HE : Hid ((decR b = none ∧ ER = 110) ∨ (decR b = some R ∧ ER = 0)) := (by
    unfold decO at hO
    cases hd : decR b with
    | none => rw [hd] at hO; injection hO with _ h; exact Or.inl ⟨rfl, h⟩
    | some x => rw [hd] at hO; injection hO with h1 h2; exact Or.inr ⟨by rw [h1], h2⟩)
  clear hO hn
  go_enter Try.func4, Try.ntmps4
  go_upto_region 1 with fail
  refine wp_region_lit ?_
  refine wpList_callW eN8 [] _ rfl rfl [] rfl ?_
  refine (shown_any w).mono ?_
  rintro e w1 ⟨rfl, b_⟩
  refine ⟨_, rfl, ?_⟩
  have R1 : Hid (Below w.heap.size w w1) := b_
  clear b_
  simp only [Act.put, List.setIfInBounds_toArray, List.set_cons_succ, List.set_cons_zero]
  refine wl rfl (.bool true) _ (run_asZ (.tmp 13) rfl (.bool true) rfl) ?_
  simp only [Act.put, List.setIfInBounds_toArray, List.set_cons_succ, List.set_cons_zero]
  refine wpList_nil ?_
  go_upto_region 2 with fail
  refine wp_region_lit ?_
  refine wl rfl (.slice (some ⟨w1.heap.size, 0, none⟩) 0 0) _ (run_blit0 rfl) ?_
  obtain ⟨q14, hq⟩ : ∃ q, q = w1.heap.size := ⟨_, rfl⟩
  obtain ⟨w2, hw⟩ : ∃ W, W = w1.alloc (.cells #[] 5) := ⟨_, rfl⟩
  have O2 : Hid (BOwn w2 w.heap.size (.slice (some ⟨q14, 0, none⟩) 0 0) [] ∧ Below w.heap.size w w2) := (by
    rw [hq, hw]
    exact ⟨World.ownsRow_made w1 #[] 0 R1.out.size (Nat.zero_le _) rfl, R1.out.trans ((below_alloc w1 _).mono R1.out.size)⟩)
  rw [← hq, ← hw]
  clear hq hw R1
  simp only [Act.put, List.setIfInBounds_toArray, List.set_cons_succ, List.set_cons_zero]
  refine wl rfl v _ (run_mvZ (.tmp 0) rfl v rfl) ?_
  simp only [Act.put, List.setIfInBounds_toArray, List.set_cons_succ, List.set_cons_zero]
  obtain ⟨v4, w3, hrun, ho3, hg3⟩ := run_bappend w.heap.size 28 (.slice (some ⟨q14, 0, none⟩) 0 0) v [] b O2.out.1 (HI.out.later O2.out.2) (by have := HSZ.out; simp; omega) O2.out.2.size
  refine wl rfl v4 w3 (run_append (.tmp 14) (.tmp 15) rfl _ v v4 rfl rfl hrun) ?_
  have O3 : Hid (BOwn w3 w.heap.size v4 b) := (by rw [List.nil_append] at ho3; exact ho3)
  have R3 : Hid (Loc w w3 []) := Loc.nil (O2.out.2.trans (O2.out.1.belowG hg3 O2.out.2.size))
  clear hrun ho3 hg3 O2
  simp only [Act.put, List.setIfInBounds_toArray, List.set_cons_succ, List.set_cons_zero]
  refine wl rfl v4 _ (run_asZ (.tmp 16) rfl v4 rfl) ?_
  simp only [Act.put, List.setIfInBounds_toArray, List.set_cons_succ, List.set_cons_zero]
  refine wpList_nil ?_
  go_upto_region 3 with fail
  refine wp_region_lit ?_
  refine wl rfl v4 _ (run_mvZ (.tmp 4) rfl v4 rfl) ?_
  simp only [Act.put, List.setIfInBounds_toArray, List.set_cons_succ, List.set_cons_zero]
  refine wpList_callW eN15 [.tmp 18] _ rfl rfl [v4] rfl ?_
  refine (dec_o 15 v4 b w3 (decode_any v4 b w3 (O3.out.slice (SliceIn.lt256 HI.out) (by have := HSZ.out; omega))) R ER HO.out).mono ?_
  rintro e w4 ⟨vx, rfl, b_, o_, f_, c_⟩
  refine ⟨_, rfl, ?_⟩
  have P4 : Hid (POwn w4 w.heap.size vx R.cp ∧ Fine R ∧ R.cp.length ≤ 255) := ⟨o_.weaken R3.out.below.size, f_, c_⟩
  have Rw4 : Hid (Loc w w4 []) := R3.out.later b_
  have O4 : Hid (BOwn w4 w.heap.size v4 b) := O3.out.laterB b_
  clear R3 O3
  clear b_ o_ f_ c_
  simp only [Act.put, List.setIfInBounds_toArray, List.set_cons_succ, List.set_cons_zero]
  refine wl rfl (.tuple #[(.agg (rcells R vx).toArray), (.int .i64 ER)]) _ (run_mvZ (.tmp 19) rfl (.tuple #[(.agg (rcells R vx).toArray), (.int .i64 ER)]) rfl) ?_
  simp only [Act.put, List.setIfInBounds_toArray, List.set_cons_succ, List.set_cons_zero]
  refine wl rfl (.agg (rcells R vx).toArray) _ (run_extZ (.tmp 17) 0 rfl #[(.agg (rcells R vx).toArray), (.int .i64 ER)] rfl (.agg (rcells R vx).toArray) rfl) ?_
  simp only [Act.put, List.setIfInBounds_toArray, List.set_cons_succ, List.set_cons_zero]
  refine wl rfl (.int .i64 ER) _ (run_extZ (.tmp 17) 1 rfl #[(.agg (rcells R vx).toArray), (.int .i64 ER)] rfl (.int .i64 ER) rfl) ?_
  simp only [Act.put, List.setIfInBounds_toArray, List.set_cons_succ, List.set_cons_zero]
  refine wl rfl (ptr w4.heap.size) _ (run_allocA (rcells rz (.slice none 0 0)) zero26 rfl) ?_
  have k_ := Rw4.out.box 26 (rcells rz (.slice none 0 0))
  obtain ⟨w5, hW_⟩ : ∃ W, W = w4.alloc (.cells (rcells rz (.slice none 0 0)).toArray 26) := ⟨_, rfl⟩
  have hB_ : Below w4.heap.size w4 w5 := hW_ ▸ below_alloc w4 _
  obtain ⟨q5, hq_⟩ : ∃ q, q = w4.heap.size := ⟨_, rfl⟩
  rw [← hW_, ← hq_] at k_
  rw [← hW_, ← hq_]
  clear hq_
  have O5 : Hid (BOwn w5 w.heap.size v4 b) := O4.out.laterB hB_
  clear O4
  have P5 : Hid (POwn w5 w.heap.size vx R.cp ∧ Fine R ∧ R.cp.length ≤ 255) := ⟨P4.out.1.later hB_, P4.out.2⟩
  clear P4
  have Rw5 : Hid (Loc w w5 [(q5, 26, rcells rz (.slice none 0 0))]) := k_
  clear k_ hW_ Rw4
  clear hB_
  simp only [Act.put, List.setIfInBounds_toArray, List.set_cons_succ, List.set_cons_zero]
  have hl39 : (rcells R vx).length = 39 := rcells_length _ (fits_of P5.out.2.1 P5.out.1 P5.out.2.2).root
  have hst := run_storeVar ag26 w5 q5 0 26 (rcells rz (.slice none 0 0)) (rcells R vx) hl39 (Rw5.out.at 0 rfl) (by rw [hl39, rcells_length _ rz_fine.1]; decide) (rcells_one (fits_of P5.out.2.1 P5.out.1 P5.out.2.2))
  rw [splice_all _ _ (by rw [hl39, rcells_length _ rz_fine.1])] at hst
  refine wlS rfl rfl _ (run_stV (.tmp 5) (.tmp 20) rfl q5 0 rfl _ rfl hst) ?_
  have k_ := Rw5.out.set 0 rfl ((Rw5.out.at 0 rfl).setRow (rcells R vx)) ((Ch.refl (· = q5) w5).setRow (g := q5) (Or.inl rfl) _)
  obtain ⟨w6, hW_⟩ : ∃ W, W = w5.setRow q5 (rcells R vx).toArray := ⟨_, rfl⟩
  have hC_ : Ch (· = q5) w5 w6 := hW_ ▸ (Ch.refl (· = q5) w5).setRow (g := q5) (Or.inl rfl) _
  have hRow_ := Rw5.out.at 0 rfl
  rw [← hW_] at k_ ⊢
  have O6 : Hid (BOwn w6 w.heap.size v4 b) := O5.out.off hRow_ (by decide) hC_
  clear O5
  have P6 : Hid (POwn w6 w.heap.size vx R.cp ∧ Fine R ∧ R.cp.length ≤ 255) := ⟨P5.out.1.off hRow_ (by decide) hC_, P5.out.2⟩
  clear P5
  have Rw6 : Hid (Loc w w6 [(q5, 26, rcells R vx)]) := k_
  clear k_ hW_ Rw5
  clear hst hl39 hC_ hRow_
  refine wl rfl (.int .i64 ER) _ (run_asZ (.tmp 21) rfl (.int .i64 ER) rfl) ?_
  simp only [Act.put, List.setIfInBounds_toArray, List.set_cons_succ, List.set_cons_zero]
  refine wpList_nil ?_
  go_upto_region 4 with fail
  refine wp_region_lit ?_
  refine wl rfl v _ (run_mvZ (.tmp 0) rfl v rfl) ?_
  simp only [Act.put, List.setIfInBounds_toArray, List.set_cons_succ, List.set_cons_zero]
  refine wpList_callW eN16 [.tmp 23] _ rfl rfl [v] rfl ?_
  refine (dec_o 16 v b w6 (refDecode_any v b w6 (HI.out.later Rw6.out.below)) R ER HO.out).mono ?_
  rintro e w7 ⟨vy, rfl, b_, o_, f_, c_⟩
  refine ⟨_, rfl, ?_⟩
  have Q7 : Hid (POwn w7 w.heap.size vy R.cp ∧ Fine R ∧ R.cp.length ≤ 255) := ⟨o_.weaken Rw6.out.below.size, f_, c_⟩
  have Rw7 : Hid (Loc w w7 [(q5, 26, rcells R vx)]) := Rw6.out.later b_
  have O7 : Hid (BOwn w7 w.heap.size v4 b) := O6.out.laterB b_
  have P7 : Hid (POwn w7 w.heap.size vx R.cp ∧ Fine R ∧ R.cp.length ≤ 255) := ⟨P6.out.1.later b_, P6.out.2⟩
  clear Rw6 O6 P6
  clear b_ o_ f_ c_
  simp only [Act.put, List.setIfInBounds_toArray, List.set_cons_succ, List.set_cons_zero]
  refine wl rfl (.tuple #[(.agg (rcells R vy).toArray), (.int .i64 ER)]) _ (run_mvZ (.tmp 24) rfl (.tuple #[(.agg (rcells R vy).toArray), (.int .i64 ER)]) rfl) ?_
  simp only [Act.put, List.setIfInBounds_toArray, List.set_cons_succ, List.set_cons_zero]
  refine wl rfl (.agg (rcells R vy).toArray) _ (run_extZ (.tmp 22) 0 rfl #[(.agg (rcells R vy).toArray), (.int .i64 ER)] rfl (.agg (rcells R vy).toArray) rfl) ?_
  simp only [Act.put, List.setIfInBounds_toArray, List.set_cons_succ, List.set_cons_zero]
  refine wl rfl (.int .i64 ER) _ (run_extZ (.tmp 22) 1 rfl #[(.agg (rcells R vy).toArray), (.int .i64 ER)] rfl (.int .i64 ER) rfl) ?_
  simp only [Act.put, List.setIfInBounds_toArray, List.set_cons_succ, List.set_cons_zero]
  refine wl rfl (ptr w7.heap.size) _ (run_allocA (rcells rz (.slice none 0 0)) zero26 rfl) ?_
  have k_ := Rw7.out.box 26 (rcells rz (.slice none 0 0))
  obtain ⟨w8, hW_⟩ : ∃ W, W = w7.alloc (.cells (rcells rz (.slice none 0 0)).toArray 26) := ⟨_, rfl⟩
  have hB_ : Below w7.heap.size w7 w8 := hW_ ▸ below_alloc w7 _
  obtain ⟨q7, hq_⟩ : ∃ q, q = w7.heap.size := ⟨_, rfl⟩
  rw [← hW_, ← hq_] at k_
  rw [← hW_, ← hq_]
  clear hq_
  have O8 : Hid (BOwn w8 w.heap.size v4 b) := O7.out.laterB hB_
  clear O7
  have P8 : Hid (POwn w8 w.heap.size vx R.cp ∧ Fine R ∧ R.cp.length ≤ 255) := ⟨P7.out.1.later hB_, P7.out.2⟩
  clear P7
  have Q8 : Hid (POwn w8 w.heap.size vy R.cp ∧ Fine R ∧ R.cp.length ≤ 255) := ⟨Q7.out.1.later hB_, Q7.out.2⟩
  clear Q7
  have Rw8 : Hid (Loc w w8 [(q5, 26, rcells R vx), (q7, 26, rcells rz (.slice none 0 0))]) := k_
  clear k_ hW_ Rw7
  clear hB_
  simp only [Act.put, List.setIfInBounds_toArray, List.set_cons_succ, List.set_cons_zero]
  have hl39 : (rcells R vy).length = 39 := rcells_length _ (fits_of Q8.out.2.1 Q8.out.1 Q8.out.2.2).root
  have hst := run_storeVar ag26 w8 q7 0 26 (rcells rz (.slice none 0 0)) (rcells R vy) hl39 (Rw8.out.at 1 rfl) (by rw [hl39, rcells_length _ rz_fine.1]; decide) (rcells_one (fits_of Q8.out.2.1 Q8.out.1 Q8.out.2.2))
  rw [splice_all _ _ (by rw [hl39, rcells_length _ rz_fine.1])] at hst
  refine wlS rfl rfl _ (run_stV (.tmp 7) (.tmp 25) rfl q7 0 rfl _ rfl hst) ?_
  have k_ := Rw8.out.set 1 rfl ((Rw8.out.at 1 rfl).setRow (rcells R vy)) ((Ch.refl (· = q7) w8).setRow (g := q7) (Or.inl rfl) _)
  obtain ⟨w9, hW_⟩ : ∃ W, W = w8.setRow q7 (rcells R vy).toArray := ⟨_, rfl⟩
  have hC_ : Ch (· = q7) w8 w9 := hW_ ▸ (Ch.refl (· = q7) w8).setRow (g := q7) (Or.inl rfl) _
  have hRow_ := Rw8.out.at 1 rfl
  rw [← hW_] at k_ ⊢
  have O9 : Hid (BOwn w9 w.heap.size v4 b) := O8.out.off hRow_ (by decide) hC_
  clear O8
  have P9 : Hid (POwn w9 w.heap.size vx R.cp ∧ Fine R ∧ R.cp.length ≤ 255) := ⟨P8.out.1.off hRow_ (by decide) hC_, P8.out.2⟩
  clear P8
  have Q9 : Hid (POwn w9 w.heap.size vy R.cp ∧ Fine R ∧ R.cp.length ≤ 255) := ⟨Q8.out.1.off hRow_ (by decide) hC_, Q8.out.2⟩
  clear Q8
  have Rw9 : Hid (Loc w w9 [(q5, 26, rcells R vx), (q7, 26, rcells R vy)]) := k_
  clear k_ hW_ Rw8
  clear hst hl39 hC_ hRow_
  refine wl rfl (.int .i64 ER) _ (run_asZ (.tmp 26) rfl (.int .i64 ER) rfl) ?_
  simp only [Act.put, List.setIfInBounds_toArray, List.set_cons_succ, List.set_cons_zero]
  refine wpList_nil ?_
  go_upto_region 5 with fail
  refine wp_region_lit ?_
  refine wl rfl (.int .i64 0) _ (run_asZ (.const (.int .i64 0)) rfl (.int .i64 0) rfl) ?_
  simp only [Act.put, List.setIfInBounds_toArray, List.set_cons_succ, List.set_cons_zero]
  refine wpList_nil ?_
  have HFI : Hid (Fine R ∧ R.cp.length ≤ 255) := P9.out.2
  have L0 : Hid (LawS w w9 q5 q7 R vx vy v4 n) := ⟨b, HN.out.1.symm, SliceIn.lt256 HI.out, O9.out, Rw9.out, P9.out.1, Q9.out.1⟩
  clear O9 Rw9 P9 Q9
  go_wp2_with fail
  go_loopw [9] (fun vi W => ∃ i : Nat, vi = .int .i64 (i : Nat) ∧ i ≤ n ∧ LawS w W q5 q7 R vx vy v4 n) (fun vi _ => n - (intOf vi).toNat)
  case atStart => exact ⟨0, rfl, Nat.zero_le _, L0.out⟩
  case round =>
    obtain ⟨i, rfl, hi, hS0⟩ := hrel
    obtain ⟨cs, hl, hb, ho, hL, hpx, hpy⟩ := hS0
    have HS : Hid (n = cs.length ∧ (∀ c ∈ cs, c < 256) ∧ BOwn wr w.heap.size v4 cs ∧ POwn wr w.heap.size vx R.cp ∧ POwn wr w.heap.size vy R.cp) := ⟨hl.symm, hb, ho, hpx, hpy⟩
    have RL : Hid (Loc w wr [(q5, 26, rcells R vx), (q7, 26, rcells R vy)]) := hL
    clear hl hb ho hL hpx hpy L0
    have HSI : Hid (SliceIn wr v4 cs) := HS.out.2.2.1.slice HS.out.2.1 (by have := HN.out.2; have := HS.out.1; omega)
    by_cases hlt : i < n
    · go_upto_region 6 with fail
      refine wp_region_lit ?_
      refine wl rfl (.int .i64 (i : Nat)) _ (run_mvZ (.tmp 9) rfl (.int .i64 (i : Nat)) rfl) ?_
      simp only [Act.put, List.setIfInBounds_toArray, List.set_cons_succ, List.set_cons_zero]
      refine wl rfl v4 _ (run_mvZ (.tmp 4) rfl v4 rfl) ?_
      simp only [Act.put, List.setIfInBounds_toArray, List.set_cons_succ, List.set_cons_zero]
      refine wl rfl (.int .i64 (n : Nat)) _ (run_lenBn HSI.out HS.out.1 (.tmp 28) rfl rfl) ?_
      simp only [Act.put, List.setIfInBounds_toArray, List.set_cons_succ, List.set_cons_zero]
      refine wl rfl (.bool true) _ (run_lssZ (.tmp 27) (.tmp 29) rfl (i : Nat) (n : Nat) rfl rfl true (decide_eq_true (by omega))) ?_
      simp only [Act.put, List.setIfInBounds_toArray, List.set_cons_succ, List.set_cons_zero]
      refine wpList_nil ?_
      obtain ⟨g, cur, hog, hge, hx, hrow, hk, ho2⟩ := own_ix HS.out.2.2.1 i (by have := HS.out.1; omega)
      have HX : Hid ((∀ w', (Instr.indexAt 28 v4 (.int .i64 (i : Nat))).run Try.prog w' = .ok (.pointer (some ⟨g, i, none⟩)) w') ∧ Row wr g 5 cur ∧ i < cur.length ∧ BOwn (wr.setCell ⟨g, i, none⟩ (.int .u8 99)) w.heap.size v4 (cs.set i 99) ∧ w.heap.size ≤ g) := ⟨hx, hrow, hk, ho2, hge⟩
      clear hog hge hx hrow hk ho2
      go_upto_region 8 with fail
      refine wp_region_lit ?_
      refine wl rfl v4 _ (run_mvZ (.tmp 4) rfl v4 rfl) ?_
      simp only [Act.put, List.setIfInBounds_toArray, List.set_cons_succ, List.set_cons_zero]
      refine wl rfl (.int .i64 (i : Nat)) _ (run_mvZ (.tmp 9) rfl (.int .i64 (i : Nat)) rfl) ?_
      simp only [Act.put, List.setIfInBounds_toArray, List.set_cons_succ, List.set_cons_zero]
      refine wl rfl (.pointer (some ⟨g, i, none⟩)) _ (run_idx (.tmp 33) (.tmp 34) rfl v4 _ _ rfl rfl HX.out.1) ?_
      simp only [Act.put, List.setIfInBounds_toArray, List.set_cons_succ, List.set_cons_zero]
      refine wl_put (t := 5) (by kernel_rfl) (.tmp 35) (.const (.int .u8 99)) rfl rfl rfl g i 5 cur rfl (.int .u8 99) rfl ⟨rfl, rfl⟩ HX.out.2.1 HX.out.2.2.1 ?_
      obtain ⟨wz, hwz⟩ : ∃ W, W = wr.setCell ⟨g, i, none⟩ (.int .u8 99) := ⟨_, rfl⟩
      have LZ : Hid (LawS w wz q5 q7 R vx vy v4 n) := (by
        have hc : Ch (· = g) wr wz := hwz ▸ (Ch.refl (· = g) wr).setCell (g := g) (Or.inl rfl) _ _
        exact LawS.put HS.out.1.symm HS.out.2.1 RL.out HS.out.2.2.2.1 HS.out.2.2.2.2 HX.out.2.2.2.2 HX.out.2.1 (hwz ▸ HX.out.2.2.2.1) hc)
      rw [← hwz]
      clear hwz HX RL HS HSI
      refine wpList_nil ?_
      have hn47 := HN.out.2
      go_wp2_with fail
      refine ⟨⟨i + 1, by go_num, by omega, LZ.out⟩, ?_⟩
      simp [intOf]; omega
    · go_upto_region 6 with fail
      refine wp_region_lit ?_
      refine wl rfl (.int .i64 (i : Nat)) _ (run_mvZ (.tmp 9) rfl (.int .i64 (i : Nat)) rfl) ?_
      simp only [Act.put, List.setIfInBounds_toArray, List.set_cons_succ, List.set_cons_zero]
      refine wl rfl v4 _ (run_mvZ (.tmp 4) rfl v4 rfl) ?_
      simp only [Act.put, List.setIfInBounds_toArray, List.set_cons_succ, List.set_cons_zero]
      refine wl rfl (.int .i64 (n : Nat)) _ (run_lenBn HSI.out HS.out.1 (.tmp 28) rfl rfl) ?_
      simp only [Act.put, List.setIfInBounds_toArray, List.set_cons_succ, List.set_cons_zero]
      refine wl rfl (.bool false) _ (run_lssZ (.tmp 27) (.tmp 29) rfl (i : Nat) (n : Nat) rfl rfl false (decide_eq_false (by omega))) ?_
      simp only [Act.put, List.setIfInBounds_toArray, List.set_cons_succ, List.set_cons_zero]
      refine wpList_nil ?_
      go_upto_region 9 with fail
      refine wp_region_lit ?_
      refine wl rfl (.agg (rcells R vx).toArray) _ (run_loadA ag26 (.tmp 5) rfl q5 (0) rfl (rcells R vx) (rcells_length _ HFI.out.1.1) (rows_all RL.out 0 rfl)) ?_
      simp only [Act.put, List.setIfInBounds_toArray, List.set_cons_succ, List.set_cons_zero]
      refine wl rfl (.agg (rcells R vy).toArray) _ (run_loadA ag26 (.tmp 7) rfl q7 (0) rfl (rcells R vy) (rcells_length _ HFI.out.1.1) (rows_all RL.out 1 rfl)) ?_
      simp only [Act.put, List.setIfInBounds_toArray, List.set_cons_succ, List.set_cons_zero]
      refine wpList_callW eN17 [.tmp 36, .tmp 37] _ rfl rfl [(.agg (rcells R vx).toArray), (.agg (rcells R vy).toArray)] rfl ?_
      refine (same_yes R vx vy wr (fits_of HFI.out.1 HS.out.2.2.2.1 HFI.out.2) (fits_of HFI.out.1 HS.out.2.2.2.2 HFI.out.2)).mono ?_
      rintro e w10 ⟨rfl, b_⟩
      refine ⟨_, rfl, ?_⟩
      have P10 : Hid (POwn w10 w.heap.size vx R.cp) := HS.out.2.2.2.1.later b_
      have Rw10 : Hid (Loc w w10 [(q5, 26, rcells R vx), (q7, 26, rcells R vy)]) := RL.out.later b_
      clear RL 
      clear b_ HS HSI
      simp only [Act.put, List.setIfInBounds_toArray, List.set_cons_succ, List.set_cons_zero]
      refine wl rfl (.bool true) _ (run_asZ (.tmp 38) rfl (.bool true) rfl) ?_
      simp only [Act.put, List.setIfInBounds_toArray, List.set_cons_succ, List.set_cons_zero]
      refine wpList_nil ?_
      go_upto_region 10 with fail
      refine wp_region_lit ?_
      refine wl rfl (.bool true) _ (run_mvZ (.tmp 3) rfl (.bool true) rfl) ?_
      simp only [Act.put, List.setIfInBounds_toArray, List.set_cons_succ, List.set_cons_zero]
      refine wl rfl (.bool false) _ (run_not (.tmp 39) 4 rfl true rfl) ?_
      simp only [Act.put, List.setIfInBounds_toArray, List.set_cons_succ, List.set_cons_zero]
      refine wl rfl (.bool false) _ (run_mvZ (.tmp 40) rfl (.bool false) rfl) ?_
      simp only [Act.put, List.setIfInBounds_toArray, List.set_cons_succ, List.set_cons_zero]
      refine wl (by kernel_rfl) (.int .i64 ER) _ (run_mvZ (.tmp 6) rfl (.int .i64 ER) rfl) ?_
      simp only [Act.put, List.setIfInBounds_toArray, List.set_cons_succ, List.set_cons_zero]
      refine wl (by kernel_rfl) (.int .i64 ER) _ (run_mvZ (.tmp 8) rfl (.int .i64 ER) rfl) ?_
      simp only [Act.put, List.setIfInBounds_toArray, List.set_cons_succ, List.set_cons_zero]
      refine wl (by kernel_rfl) (.bool false) _ (run_neZ (.tmp 42) (.tmp 43) rfl ER ER rfl rfl false (by simp)) ?_
      simp only [Act.put, List.setIfInBounds_toArray, List.set_cons_succ, List.set_cons_zero]
      refine wl rfl (.bool false) _ (run_pickZ (.tmp 41) (.const (.bool true)) (.tmp 44) rfl false (.bool false) rfl rfl) ?_
      simp only [Act.put, List.setIfInBounds_toArray, List.set_cons_succ, List.set_cons_zero]
      refine wl rfl (.bool false) _ (run_mvZ (.tmp 45) rfl (.bool false) rfl) ?_
      simp only [Act.put, List.setIfInBounds_toArray, List.set_cons_succ, List.set_cons_zero]
      refine wl (by kernel_rfl) (.bool true) _ (run_mvZ (.tmp 10) rfl (.bool true) rfl) ?_
      simp only [Act.put, List.setIfInBounds_toArray, List.set_cons_succ, List.set_cons_zero]
      refine wl (by kernel_rfl) (.bool false) _ (run_not (.tmp 47) 4 rfl true rfl) ?_
      simp only [Act.put, List.setIfInBounds_toArray, List.set_cons_succ, List.set_cons_zero]
      refine wl rfl (.bool false) _ (run_pickZ (.tmp 46) (.const (.bool true)) (.tmp 48) rfl false (.bool false) rfl rfl) ?_
      simp only [Act.put, List.setIfInBounds_toArray, List.set_cons_succ, List.set_cons_zero]
      refine wpList_nil ?_
      by_cases hE : ER = 0
      case neg =>
        have HEN : Hid (¬ ER = 0) := hE
        clear hE
        go_upto_region 12 with fail
        refine wp_region_lit ?_
        refine wl rfl (.int .i64 ER) _ (run_mvZ (.tmp 6) rfl (.int .i64 ER) rfl) ?_
        simp only [Act.put, List.setIfInBounds_toArray, List.set_cons_succ, List.set_cons_zero]
        refine wl rfl (.bool true) _ (run_neZ (.tmp 50) (.const (.int .i64 0)) rfl ER 0 rfl rfl true (by have := HEN.out; simp [this])) ?_
        simp only [Act.put, List.setIfInBounds_toArray, List.set_cons_succ, List.set_cons_zero]
        refine wpList_nil ?_
        go_wp2_with fail
        rw [HPQ.out]
        exact ⟨rfl, Rw10.out.below⟩
      have HD : Hid (decR b = some R ∧ ER = 0) := (by
        rcases HE.out with h | h
        · exact absurd h.2 (by omega)
        · exact h)
      have HF : Hid (b = enc R ∧ mayB R = true) := (by
        have h := decR_some (SliceIn.lt256 HI.out) HD.out.1
        exact ⟨h.1, h.2.1⟩)
      clear hE HE
      go_upto_region 12 with fail
      refine wp_region_lit ?_
      refine wl rfl (.int .i64 ER) _ (run_mvZ (.tmp 6) rfl (.int .i64 ER) rfl) ?_
      simp only [Act.put, List.setIfInBounds_toArray, List.set_cons_succ, List.set_cons_zero]
      refine wl rfl (.bool false) _ (run_neZ (.tmp 50) (.const (.int .i64 0)) rfl ER 0 rfl rfl false (by rw [HD.out.2]; rfl)) ?_
      simp only [Act.put, List.setIfInBounds_toArray, List.set_cons_succ, List.set_cons_zero]
      refine wpList_nil ?_
      go_upto_region 14 with fail
      refine wp_region_lit ?_
      refine wl rfl (.agg (rcells R vx).toArray) _ (run_loadA ag26 (.tmp 5) rfl q5 (0) rfl (rcells R vx) (rcells_length _ HFI.out.1.1) (rows_all Rw10.out 0 rfl)) ?_
      simp only [Act.put, List.setIfInBounds_toArray, List.set_cons_succ, List.set_cons_zero]
      refine wpList_callW eN9 [.tmp 53] _ rfl rfl [(.agg (rcells R vx).toArray)] rfl ?_
      refine (encode_yes R vx w10 (fits_of HFI.out.1 P10.out HFI.out.2) HF.out.2).mono ?_
      rintro e w11 ⟨v11, rfl, b_, o_, s_⟩
      refine ⟨_, rfl, ?_⟩
      have S11 : Hid (SliceIn w11 v11 b) := (by rw [HF.out.1]; exact s_)
      have Rw11 : Hid (Loc w w11 [(q5, 26, rcells R vx), (q7, 26, rcells R vy)]) := Rw10.out.later b_
      clear Rw10 
      clear b_ o_ s_
      simp only [Act.put, List.setIfInBounds_toArray, List.set_cons_succ, List.set_cons_zero]
      refine wl rfl (.tuple #[v11, (.int .i64 0)]) _ (run_mvZ (.tmp 54) rfl (.tuple #[v11, (.int .i64 0)]) rfl) ?_
      simp only [Act.put, List.setIfInBounds_toArray, List.set_cons_succ, List.set_cons_zero]
      refine wl rfl v11 _ (run_extZ (.tmp 52) 0 rfl #[v11, (.int .i64 0)] rfl v11 rfl) ?_
      simp only [Act.put, List.setIfInBounds_toArray, List.set_cons_succ, List.set_cons_zero]
      refine wl rfl (.int .i64 0) _ (run_extZ (.tmp 52) 1 rfl #[v11, (.int .i64 0)] rfl (.int .i64 0) rfl) ?_
      simp only [Act.put, List.setIfInBounds_toArray, List.set_cons_succ, List.set_cons_zero]
      refine wl rfl v11 _ (run_asZ (.tmp 55) rfl v11 rfl) ?_
      simp only [Act.put, List.setIfInBounds_toArray, List.set_cons_succ, List.set_cons_zero]
      refine wl rfl (.int .i64 0) _ (run_asZ (.tmp 56) rfl (.int .i64 0) rfl) ?_
      simp only [Act.put, List.setIfInBounds_toArray, List.set_cons_succ, List.set_cons_zero]
      refine wpList_nil ?_
      go_upto_region 15 with fail
      refine wp_region_lit ?_
      refine wl rfl (.int .i64 0) _ (run_mvZ (.tmp 12) rfl (.int .i64 0) rfl) ?_
      simp only [Act.put, List.setIfInBounds_toArray, List.set_cons_succ, List.set_cons_zero]
      refine wl rfl (.bool true) _ (run_eqZ (.tmp 57) (.const (.int .i64 0)) rfl (0) (0) rfl rfl true rfl) ?_
      simp only [Act.put, List.setIfInBounds_toArray, List.set_cons_succ, List.set_cons_zero]
      refine wl rfl (.bool true) _ (run_mvZ (.tmp 58) rfl (.bool true) rfl) ?_
      simp only [Act.put, List.setIfInBounds_toArray, List.set_cons_succ, List.set_cons_zero]
      refine wl (by kernel_rfl) v11 _ (run_mvZ (.tmp 11) rfl v11 rfl) ?_
      simp only [Act.put, List.setIfInBounds_toArray, List.set_cons_succ, List.set_cons_zero]
      refine wl (by kernel_rfl) (str b) _ (run_strB (.tmp 60) rfl v11 b rfl S11.out) ?_
      simp only [Act.put, List.setIfInBounds_toArray, List.set_cons_succ, List.set_cons_zero]
      refine wl (by kernel_rfl) v _ (run_mvZ (.tmp 0) rfl v rfl) ?_
      simp only [Act.put, List.setIfInBounds_toArray, List.set_cons_succ, List.set_cons_zero]
      refine wl (by kernel_rfl) (str b) _ (run_strB (.tmp 62) rfl v b rfl (HI.out.later Rw11.out.below)) ?_
      simp only [Act.put, List.setIfInBounds_toArray, List.set_cons_succ, List.set_cons_zero]
      refine wl (by kernel_rfl) (.bool true) _ (rx_seq (.tmp 61) (.tmp 63) rfl b b rfl rfl (SliceIn.lt256 HI.out) (SliceIn.lt256 HI.out) true (by simp)) ?_
      simp only [Act.put, List.setIfInBounds_toArray, List.set_cons_succ, List.set_cons_zero]
      refine wl rfl (.bool true) _ (run_pickZ (.tmp 59) (.tmp 64) (.const (.bool false)) rfl true (.bool true) rfl rfl) ?_
      simp only [Act.put, List.setIfInBounds_toArray, List.set_cons_succ, List.set_cons_zero]
      refine wl rfl (.bool true) _ (run_asZ (.tmp 65) rfl (.bool true) rfl) ?_
      simp only [Act.put, List.setIfInBounds_toArray, List.set_cons_succ, List.set_cons_zero]
      refine wpList_nil ?_
      go_wp2_with fail
      rw [HPQ.out]
      exact ⟨rfl, Rw11.out.below⟩

end Go.Proofs.Ytncjmolhofnpbaa

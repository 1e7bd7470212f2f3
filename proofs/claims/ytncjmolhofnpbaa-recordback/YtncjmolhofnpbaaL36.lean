/- The laws RecordWrites and RecordBack. -/
import Derived.Test.YtncjmolhofnpbaaR20
namespace Go.Proofs.Ytncjmolhofnpbaa
open Go.RowKit

def encO (r : Rc) : List Nat := if mayB r then enc r else []
def encEr (r : Rc) : Int := if mayB r then 0 else 110
def entO (id root : List Nat) (n : Int) : List Nat := if entB id n then encE id n root else []
def entEr (id : List Nat) (n : Int) : Int := if entB id n then 0 else 110
theorem encS_o {w w' : World} {r : Rc} {vc v : Value} {er : Int} (hf : Fits w r vc) (h : EncS w w' r v er) : er = encEr r ∧ SliceIn w' v (encO r) ∧ Below w.heap.size w w' := by
  unfold encEr encO
  obtain ⟨h1, h2⟩ := h
  rcases h2 with ⟨h3, rfl, rfl⟩ | ⟨h3, h4, rfl⟩
  · rw [h3]
    exact ⟨rfl, Fr.SliceIn.nil w', h1⟩
  · rw [h3]
    exact ⟨rfl, h4.sliceB (enc_lt (may_s hf h3)) (by have := enc_len (may_s hf h3); omega), h1⟩
theorem entS_o {w w' : World} {id root : List Nat} {n : Int} {v : Value} {er : Int} (hid : ∀ c ∈ id, c < 256) (hr32 : root.length = 32) (hrb : ∀ c ∈ root, c < 256) (h : EntS w w' id root n v er) : er = entEr id n ∧ SliceIn w' v (entO id root n) ∧ Below w.heap.size w w' := by
  unfold entEr entO
  obtain ⟨h1, h2⟩ := h
  rcases h2 with ⟨h3, rfl, rfl⟩ | ⟨h3, h4, rfl⟩
  · rw [h3]
    exact ⟨rfl, Fr.SliceIn.nil w', h1⟩
  · rw [h3]
    have hb := ent_bounds h3
    exact ⟨rfl, h4.sliceB (encE_lt hid hrb hb.1) (by simp [encE_length, hr32]; omega), h1⟩
theorem encode_o (r : Rc) (vc : Value) (w : World) (hf : Fits w r vc) : Calls Try.prog 9 #[.agg (rcells r vc).toArray] w fun e w' => ∃ v, e = .returned (.tuple #[v, .int .i64 (encEr r)]) ∧ SliceIn w' v (encO r) ∧ Below w.heap.size w w' :=
  (encode_any r vc w hf).mono fun e w' ⟨v, er, h1, h2⟩ => by
    obtain ⟨rfl, h3, h4⟩ := encS_o hf h2
    exact ⟨v, h1, h3, h4⟩
theorem refEncode_o (r : Rc) (vc : Value) (w : World) (hf : Fits w r vc) : Calls Try.prog 10 #[.agg (rcells r vc).toArray] w fun e w' => ∃ v, e = .returned (.tuple #[v, .int .i64 (encEr r)]) ∧ SliceIn w' v (encO r) ∧ Below w.heap.size w w' :=
  (refEncode_any r vc w hf).mono fun e w' ⟨v, er, h1, h2⟩ => by
    obtain ⟨rfl, h3, h4⟩ := encS_o hf h2
    exact ⟨v, h1, h3, h4⟩
theorem entry_o (id root : List Nat) (n : Int) (w : World) (hid : ∀ c ∈ id, c < 256) (hr32 : root.length = 32) (hrb : ∀ c ∈ root, c < 256) : Calls Try.prog 11 #[str id, .int .i64 n, .agg (bcells root).toArray] w fun e w' => ∃ v, e = .returned (.tuple #[v, .int .i64 (entEr id n)]) ∧ SliceIn w' v (entO id root n) ∧ Below w.heap.size w w' :=
  (entry11_any id root n w hid hr32 hrb).mono fun e w' ⟨v, er, h1, h2⟩ => by
    obtain ⟨rfl, h3, h4⟩ := entS_o hid hr32 hrb h2
    exact ⟨v, h1, h3, h4⟩
theorem refEntry_o (id root : List Nat) (n : Int) (w : World) (hid : ∀ c ∈ id, c < 256) (hr32 : root.length = 32) (hrb : ∀ c ∈ root, c < 256) : Calls Try.prog 12 #[str id, .int .i64 n, .agg (bcells root).toArray] w fun e w' => ∃ v, e = .returned (.tuple #[v, .int .i64 (entEr id n)]) ∧ SliceIn w' v (entO id root n) ∧ Below w.heap.size w w' :=
  (refEntry_any id root n w hid hr32 hrb).mono fun e w' ⟨v, er, h1, h2⟩ => by
    obtain ⟨rfl, h3, h4⟩ := entS_o hid hr32 hrb h2
    exact ⟨v, h1, h3, h4⟩
theorem read_yes (v : Value) (b id root : List Nat) (n : Nat) (w : World) (hin : SliceIn w v b) (hd : decE b = some (id, n, root)) : Calls Try.prog 18 #[v] w fun e w' => e = .returned (.tuple #[str id, .int .i64 (n : Nat), .agg (bcells root).toArray, .int .i64 0]) ∧ Below w.heap.size w w' :=
  (read_any v b w hin).mono fun e w' ⟨id', n', root', er, h1, h2, h3, h4, h5, h6⟩ => by
    rcases h6 with ⟨h7, _⟩ | ⟨h7, rfl⟩
    · rw [hd] at h7; cases h7
    · rw [hd] at h7
      cases h7
      exact ⟨h1, h5⟩
set_option maxHeartbeats 4000000 in
theorem writes_any (r : Rc) (vc : Value) (w : World) (hf : Fits w r vc) : Calls Try.prog 3 #[.agg (rcells r vc).toArray] w fun e w' => e = .returned (.bool true) ∧ Below w.heap.size w w' := by
  have HF : Hid (Fits w r vc) := hf
  clear hf
  obtain ⟨PQ, HPQ⟩ : ∃ PQ : Ending → World → Prop, Hid (PQ = fun e w' => e = .returned (.bool true) ∧ Below w.heap.size w w') := ⟨_, rfl⟩
  rw [← HPQ.out]
  have R0 : Hid (Loc w w []) := Loc.nil (Below.refl _ w)
  go_enter Try.func3, Try.ntmps3
  go_upto_region 0 with fail
  refine wp_region_lit ?_
  refine wl rfl (ptr w.heap.size) _ (run_boxA (.tmp 0) rfl (rcells r vc) rfl) ?_
  have k_ := R0.out.box 26 (rcells r vc)
  obtain ⟨w1, hW_⟩ : ∃ W, W = w.alloc (.cells (rcells r vc).toArray 26) := ⟨_, rfl⟩
  obtain ⟨q, hq_⟩ : ∃ q, q = w.heap.size := ⟨_, rfl⟩
  rw [← hW_, ← hq_] at k_
  rw [← hW_, ← hq_]
  clear hq_
  have Rw1 : Hid (Loc w w1 [(q, 26, rcells r vc)]) := k_
  clear k_ hW_ R0
  simp only [Act.put, List.setIfInBounds_toArray, List.set_cons_succ, List.set_cons_zero]
  refine wl rfl (.bool false) _ (run_asZ (.const (.bool false)) rfl (.bool false) rfl) ?_
  simp only [Act.put, List.setIfInBounds_toArray, List.set_cons_succ, List.set_cons_zero]
  refine wpList_nil ?_
  obtain ⟨EO, hEO⟩ : ∃ l, l = encO r := ⟨_, rfl⟩
  obtain ⟨ER, hER⟩ : ∃ l, l = encEr r := ⟨_, rfl⟩
  have HO : Hid (ER = encEr r ∧ EO = encO r) := ⟨hER, hEO⟩
  obtain ⟨TO, hTO⟩ : ∃ l, l = entO r.id r.root r.length := ⟨_, rfl⟩
  obtain ⟨TR, hTR⟩ : ∃ l, l = entEr r.id r.length := ⟨_, rfl⟩
  have HT : Hid (TR = entEr r.id r.length ∧ TO = entO r.id r.root r.length) := ⟨hTR, hTO⟩
  obtain ⟨nb, hnb⟩ : ∃ l, l = nameB r.id := ⟨_, rfl⟩
  have HNB : Hid (nb = nameB r.id) := hnb
  clear hEO hER hTO hTR hnb
  go_upto_region 1 with fail
  refine wp_region_lit ?_
  refine wpList_callW eN8 [] _ rfl rfl [] rfl ?_
  refine (shown_any w1).mono ?_
  rintro e w2 ⟨rfl, b_⟩
  refine ⟨_, rfl, ?_⟩
  have Rw2 : Hid (Loc w w2 [(q, 26, rcells r vc)]) := Rw1.out.later b_
  clear Rw1 
  clear b_
  simp only [Act.put, List.setIfInBounds_toArray, List.set_cons_succ, List.set_cons_zero]
  refine wl rfl (.bool true) _ (run_asZ (.tmp 14) rfl (.bool true) rfl) ?_
  simp only [Act.put, List.setIfInBounds_toArray, List.set_cons_succ, List.set_cons_zero]
  refine wpList_nil ?_
  go_upto_region 2 with fail
  refine wp_region_lit ?_
  refine wl rfl (.agg (rcells r vc).toArray) _ (run_loadA ag26 (.tmp 1) rfl q (0) rfl (rcells r vc) (rcells_length vc HF.out.root) (fun j v hv => (by rw [Nat.zero_add]; exact (Rw2.out.at 0 rfl).at j v hv))) ?_
  simp only [Act.put, List.setIfInBounds_toArray, List.set_cons_succ, List.set_cons_zero]
  refine wpList_callW eN9 [.tmp 16] _ rfl rfl [(.agg (rcells r vc).toArray)] rfl ?_
  refine (encode_o r vc w2 (HF.out.later Rw2.out.below)).mono ?_
  rintro e w3 ⟨v4, rfl, s_, b_⟩
  refine ⟨_, rfl, ?_⟩
  rw [← HO.out.1]
  have S3 : Hid (SliceIn w3 v4 EO) := (by rw [HO.out.2]; exact s_)
  have Rw3 : Hid (Loc w w3 [(q, 26, rcells r vc)]) := Rw2.out.later b_
  clear Rw2 
  clear b_ s_
  simp only [Act.put, List.setIfInBounds_toArray, List.set_cons_succ, List.set_cons_zero]
  refine wl rfl (.tuple #[v4, (.int .i64 ER)]) _ (run_mvZ (.tmp 17) rfl (.tuple #[v4, (.int .i64 ER)]) rfl) ?_
  simp only [Act.put, List.setIfInBounds_toArray, List.set_cons_succ, List.set_cons_zero]
  refine wl rfl v4 _ (run_extZ (.tmp 15) 0 rfl #[v4, (.int .i64 ER)] rfl v4 rfl) ?_
  simp only [Act.put, List.setIfInBounds_toArray, List.set_cons_succ, List.set_cons_zero]
  refine wl rfl (.int .i64 ER) _ (run_extZ (.tmp 15) 1 rfl #[v4, (.int .i64 ER)] rfl (.int .i64 ER) rfl) ?_
  simp only [Act.put, List.setIfInBounds_toArray, List.set_cons_succ, List.set_cons_zero]
  refine wl rfl v4 _ (run_asZ (.tmp 18) rfl v4 rfl) ?_
  simp only [Act.put, List.setIfInBounds_toArray, List.set_cons_succ, List.set_cons_zero]
  refine wl rfl (.int .i64 ER) _ (run_asZ (.tmp 19) rfl (.int .i64 ER) rfl) ?_
  simp only [Act.put, List.setIfInBounds_toArray, List.set_cons_succ, List.set_cons_zero]
  refine wpList_nil ?_
  go_upto_region 3 with fail
  refine wp_region_lit ?_
  refine wl rfl (.agg (rcells r vc).toArray) _ (run_loadA ag26 (.tmp 1) rfl q (0) rfl (rcells r vc) (rcells_length vc HF.out.root) (fun j v hv => (by rw [Nat.zero_add]; exact (Rw3.out.at 0 rfl).at j v hv))) ?_
  simp only [Act.put, List.setIfInBounds_toArray, List.set_cons_succ, List.set_cons_zero]
  refine wpList_callW eN10 [.tmp 21] _ rfl rfl [(.agg (rcells r vc).toArray)] rfl ?_
  refine (refEncode_o r vc w3 (HF.out.later Rw3.out.below)).mono ?_
  rintro e w4 ⟨v6, rfl, s_, b_⟩
  refine ⟨_, rfl, ?_⟩
  rw [← HO.out.1]
  have T4 : Hid (SliceIn w4 v6 EO) := (by rw [HO.out.2]; exact s_)
  have Rw4 : Hid (Loc w w4 [(q, 26, rcells r vc)]) := Rw3.out.later b_
  have S4 : Hid (SliceIn w4 v4 EO) := S3.out.later b_
  clear Rw3 S3
  clear b_ s_
  simp only [Act.put, List.setIfInBounds_toArray, List.set_cons_succ, List.set_cons_zero]
  refine wl rfl (.tuple #[v6, (.int .i64 ER)]) _ (run_mvZ (.tmp 22) rfl (.tuple #[v6, (.int .i64 ER)]) rfl) ?_
  simp only [Act.put, List.setIfInBounds_toArray, List.set_cons_succ, List.set_cons_zero]
  refine wl rfl v6 _ (run_extZ (.tmp 20) 0 rfl #[v6, (.int .i64 ER)] rfl v6 rfl) ?_
  simp only [Act.put, List.setIfInBounds_toArray, List.set_cons_succ, List.set_cons_zero]
  refine wl rfl (.int .i64 ER) _ (run_extZ (.tmp 20) 1 rfl #[v6, (.int .i64 ER)] rfl (.int .i64 ER) rfl) ?_
  simp only [Act.put, List.setIfInBounds_toArray, List.set_cons_succ, List.set_cons_zero]
  refine wl rfl v6 _ (run_asZ (.tmp 23) rfl v6 rfl) ?_
  simp only [Act.put, List.setIfInBounds_toArray, List.set_cons_succ, List.set_cons_zero]
  refine wl rfl (.int .i64 ER) _ (run_asZ (.tmp 24) rfl (.int .i64 ER) rfl) ?_
  simp only [Act.put, List.setIfInBounds_toArray, List.set_cons_succ, List.set_cons_zero]
  refine wpList_nil ?_
  go_upto_region 4 with fail
  refine wp_region_lit ?_
  refine wl rfl (.pointer (some ⟨q, 0 + 0, none⟩)) _ (run_fieldOp' f26_0 (.tmp 1) rfl q (0) rfl) ?_
  simp only [Act.put, List.setIfInBounds_toArray, List.set_cons_succ, List.set_cons_zero]
  refine wl rfl (str r.id) _ (run_load1 o9 (.tmp 26) rfl q (0 + 0) rfl (str r.id) ((Rw4.out.at 0 rfl).at 0 _ (rc0 r vc))) ?_
  simp only [Act.put, List.setIfInBounds_toArray, List.set_cons_succ, List.set_cons_zero]
  refine wl rfl (.pointer (some ⟨q, 0 + 1, none⟩)) _ (run_fieldOp' f26_1 (.tmp 1) rfl q (0) rfl) ?_
  simp only [Act.put, List.setIfInBounds_toArray, List.set_cons_succ, List.set_cons_zero]
  refine wl rfl (.int .i64 r.length) _ (run_load1 o3 (.tmp 28) rfl q (0 + 1) rfl (.int .i64 r.length) ((Rw4.out.at 0 rfl).at 1 _ (rc1 r vc))) ?_
  simp only [Act.put, List.setIfInBounds_toArray, List.set_cons_succ, List.set_cons_zero]
  refine wl rfl (.pointer (some ⟨q, 0 + 2, none⟩)) _ (run_fieldOp' f26_2 (.tmp 1) rfl q (0) rfl) ?_
  simp only [Act.put, List.setIfInBounds_toArray, List.set_cons_succ, List.set_cons_zero]
  refine wl rfl (.agg (bcells r.root).toArray) _ (run_loadA ag23 (.tmp 30) rfl q (0 + 2) rfl (bcells r.root) (bc32 HF.out.root) (rootAt (Rw4.out.at 0 rfl) HF.out.root)) ?_
  simp only [Act.put, List.setIfInBounds_toArray, List.set_cons_succ, List.set_cons_zero]
  refine wpList_callW eN11 [.tmp 27, .tmp 29, .tmp 31] _ rfl rfl [str r.id, .int .i64 r.length, .agg (bcells r.root).toArray] rfl ?_
  refine (entry_o r.id r.root r.length w4 HF.out.id HF.out.root HF.out.bytes).mono ?_
  rintro e w5 ⟨v8, rfl, s_, b_⟩
  refine ⟨_, rfl, ?_⟩
  rw [← HT.out.1]
  have U5 : Hid (SliceIn w5 v8 TO) := (by rw [HT.out.2]; exact s_)
  have Rw5 : Hid (Loc w w5 [(q, 26, rcells r vc)]) := Rw4.out.later b_
  have S5 : Hid (SliceIn w5 v4 EO) := S4.out.later b_
  have T5 : Hid (SliceIn w5 v6 EO) := T4.out.later b_
  clear Rw4 S4 T4
  clear b_ s_
  simp only [Act.put, List.setIfInBounds_toArray, List.set_cons_succ, List.set_cons_zero]
  refine wl rfl (.tuple #[v8, (.int .i64 TR)]) _ (run_mvZ (.tmp 32) rfl (.tuple #[v8, (.int .i64 TR)]) rfl) ?_
  simp only [Act.put, List.setIfInBounds_toArray, List.set_cons_succ, List.set_cons_zero]
  refine wl rfl v8 _ (run_extZ (.tmp 25) 0 rfl #[v8, (.int .i64 TR)] rfl v8 rfl) ?_
  simp only [Act.put, List.setIfInBounds_toArray, List.set_cons_succ, List.set_cons_zero]
  refine wl rfl (.int .i64 TR) _ (run_extZ (.tmp 25) 1 rfl #[v8, (.int .i64 TR)] rfl (.int .i64 TR) rfl) ?_
  simp only [Act.put, List.setIfInBounds_toArray, List.set_cons_succ, List.set_cons_zero]
  refine wl rfl v8 _ (run_asZ (.tmp 33) rfl v8 rfl) ?_
  simp only [Act.put, List.setIfInBounds_toArray, List.set_cons_succ, List.set_cons_zero]
  refine wl rfl (.int .i64 TR) _ (run_asZ (.tmp 34) rfl (.int .i64 TR) rfl) ?_
  simp only [Act.put, List.setIfInBounds_toArray, List.set_cons_succ, List.set_cons_zero]
  refine wpList_nil ?_
  go_upto_region 5 with fail
  refine wp_region_lit ?_
  refine wl rfl (.pointer (some ⟨q, 0 + 0, none⟩)) _ (run_fieldOp' f26_0 (.tmp 1) rfl q (0) rfl) ?_
  simp only [Act.put, List.setIfInBounds_toArray, List.set_cons_succ, List.set_cons_zero]
  refine wl rfl (str r.id) _ (run_load1 o9 (.tmp 36) rfl q (0 + 0) rfl (str r.id) ((Rw5.out.at 0 rfl).at 0 _ (rc0 r vc))) ?_
  simp only [Act.put, List.setIfInBounds_toArray, List.set_cons_succ, List.set_cons_zero]
  refine wl rfl (.pointer (some ⟨q, 0 + 1, none⟩)) _ (run_fieldOp' f26_1 (.tmp 1) rfl q (0) rfl) ?_
  simp only [Act.put, List.setIfInBounds_toArray, List.set_cons_succ, List.set_cons_zero]
  refine wl rfl (.int .i64 r.length) _ (run_load1 o3 (.tmp 38) rfl q (0 + 1) rfl (.int .i64 r.length) ((Rw5.out.at 0 rfl).at 1 _ (rc1 r vc))) ?_
  simp only [Act.put, List.setIfInBounds_toArray, List.set_cons_succ, List.set_cons_zero]
  refine wl rfl (.pointer (some ⟨q, 0 + 2, none⟩)) _ (run_fieldOp' f26_2 (.tmp 1) rfl q (0) rfl) ?_
  simp only [Act.put, List.setIfInBounds_toArray, List.set_cons_succ, List.set_cons_zero]
  refine wl rfl (.agg (bcells r.root).toArray) _ (run_loadA ag23 (.tmp 40) rfl q (0 + 2) rfl (bcells r.root) (bc32 HF.out.root) (rootAt (Rw5.out.at 0 rfl) HF.out.root)) ?_
  simp only [Act.put, List.setIfInBounds_toArray, List.set_cons_succ, List.set_cons_zero]
  refine wpList_callW eN12 [.tmp 37, .tmp 39, .tmp 41] _ rfl rfl [str r.id, .int .i64 r.length, .agg (bcells r.root).toArray] rfl ?_
  refine (refEntry_o r.id r.root r.length w5 HF.out.id HF.out.root HF.out.bytes).mono ?_
  rintro e w6 ⟨v10, rfl, s_, b_⟩
  refine ⟨_, rfl, ?_⟩
  rw [← HT.out.1]
  have V6 : Hid (SliceIn w6 v10 TO) := (by rw [HT.out.2]; exact s_)
  have Rw6 : Hid (Loc w w6 [(q, 26, rcells r vc)]) := Rw5.out.later b_
  have S6 : Hid (SliceIn w6 v4 EO) := S5.out.later b_
  have T6 : Hid (SliceIn w6 v6 EO) := T5.out.later b_
  have U6 : Hid (SliceIn w6 v8 TO) := U5.out.later b_
  clear Rw5 S5 T5 U5
  clear b_ s_
  simp only [Act.put, List.setIfInBounds_toArray, List.set_cons_succ, List.set_cons_zero]
  refine wl rfl (.tuple #[v10, (.int .i64 TR)]) _ (run_mvZ (.tmp 42) rfl (.tuple #[v10, (.int .i64 TR)]) rfl) ?_
  simp only [Act.put, List.setIfInBounds_toArray, List.set_cons_succ, List.set_cons_zero]
  refine wl rfl v10 _ (run_extZ (.tmp 35) 0 rfl #[v10, (.int .i64 TR)] rfl v10 rfl) ?_
  simp only [Act.put, List.setIfInBounds_toArray, List.set_cons_succ, List.set_cons_zero]
  refine wl rfl (.int .i64 TR) _ (run_extZ (.tmp 35) 1 rfl #[v10, (.int .i64 TR)] rfl (.int .i64 TR) rfl) ?_
  simp only [Act.put, List.setIfInBounds_toArray, List.set_cons_succ, List.set_cons_zero]
  refine wl rfl v10 _ (run_asZ (.tmp 43) rfl v10 rfl) ?_
  simp only [Act.put, List.setIfInBounds_toArray, List.set_cons_succ, List.set_cons_zero]
  refine wl rfl (.int .i64 TR) _ (run_asZ (.tmp 44) rfl (.int .i64 TR) rfl) ?_
  simp only [Act.put, List.setIfInBounds_toArray, List.set_cons_succ, List.set_cons_zero]
  refine wpList_nil ?_
  go_upto_region 6 with fail
  refine wp_region_lit ?_
  refine wl rfl (.pointer (some ⟨q, 0 + 0, none⟩)) _ (run_fieldOp' f26_0 (.tmp 1) rfl q (0) rfl) ?_
  simp only [Act.put, List.setIfInBounds_toArray, List.set_cons_succ, List.set_cons_zero]
  refine wl rfl (str r.id) _ (run_load1 o9 (.tmp 45) rfl q (0 + 0) rfl (str r.id) ((Rw6.out.at 0 rfl).at 0 _ (rc0 r vc))) ?_
  simp only [Act.put, List.setIfInBounds_toArray, List.set_cons_succ, List.set_cons_zero]
  refine wpList_callW eN13 [.tmp 46] _ rfl rfl [(str r.id)] rfl ?_
  refine (name_any r.id HF.out.id w6).mono ?_
  rintro e wn ⟨rfl, rfl⟩
  refine ⟨_, rfl, ?_⟩
  rw [← HNB.out]
  simp only [Act.put, List.setIfInBounds_toArray, List.set_cons_succ, List.set_cons_zero]
  refine wl rfl (.bool nb) _ (run_asZ (.tmp 47) rfl (.bool nb) rfl) ?_
  simp only [Act.put, List.setIfInBounds_toArray, List.set_cons_succ, List.set_cons_zero]
  refine wpList_nil ?_
  go_upto_region 7 with fail
  refine wp_region_lit ?_
  refine wl rfl (.pointer (some ⟨q, 0 + 0, none⟩)) _ (run_fieldOp' f26_0 (.tmp 1) rfl q (0) rfl) ?_
  simp only [Act.put, List.setIfInBounds_toArray, List.set_cons_succ, List.set_cons_zero]
  refine wl rfl (str r.id) _ (run_load1 o9 (.tmp 48) rfl q (0 + 0) rfl (str r.id) ((Rw6.out.at 0 rfl).at 0 _ (rc0 r vc))) ?_
  simp only [Act.put, List.setIfInBounds_toArray, List.set_cons_succ, List.set_cons_zero]
  refine wpList_callW eN14 [.tmp 49] _ rfl rfl [(str r.id)] rfl ?_
  refine (refName_any r.id HF.out.id w6).mono ?_
  rintro e wn ⟨rfl, rfl⟩
  refine ⟨_, rfl, ?_⟩
  rw [← HNB.out]
  simp only [Act.put, List.setIfInBounds_toArray, List.set_cons_succ, List.set_cons_zero]
  refine wl rfl (.bool nb) _ (run_asZ (.tmp 50) rfl (.bool nb) rfl) ?_
  simp only [Act.put, List.setIfInBounds_toArray, List.set_cons_succ, List.set_cons_zero]
  refine wpList_nil ?_
  go_upto_region 8 with fail
  refine wp_region_lit ?_
  refine wl rfl (.bool true) _ (run_mvZ (.tmp 3) rfl (.bool true) rfl) ?_
  simp only [Act.put, List.setIfInBounds_toArray, List.set_cons_succ, List.set_cons_zero]
  refine wl rfl (.bool true) _ (run_mvZ (.tmp 51) rfl (.bool true) rfl) ?_
  simp only [Act.put, List.setIfInBounds_toArray, List.set_cons_succ, List.set_cons_zero]
  refine wl (by kernel_rfl) (.int .i64 ER) _ (run_mvZ (.tmp 5) rfl (.int .i64 ER) rfl) ?_
  simp only [Act.put, List.setIfInBounds_toArray, List.set_cons_succ, List.set_cons_zero]
  refine wl (by kernel_rfl) (.int .i64 ER) _ (run_mvZ (.tmp 7) rfl (.int .i64 ER) rfl) ?_
  simp only [Act.put, List.setIfInBounds_toArray, List.set_cons_succ, List.set_cons_zero]
  refine wl (by kernel_rfl) (.bool true) _ (run_eqZ (.tmp 53) (.tmp 54) rfl ER ER rfl rfl true (by simp)) ?_
  simp only [Act.put, List.setIfInBounds_toArray, List.set_cons_succ, List.set_cons_zero]
  refine wl rfl (.bool true) _ (run_pickZ (.tmp 52) (.tmp 55) (.const (.bool false)) rfl true (.bool true) rfl rfl) ?_
  simp only [Act.put, List.setIfInBounds_toArray, List.set_cons_succ, List.set_cons_zero]
  refine wl rfl (.bool true) _ (run_mvZ (.tmp 56) rfl (.bool true) rfl) ?_
  simp only [Act.put, List.setIfInBounds_toArray, List.set_cons_succ, List.set_cons_zero]
  refine wl (by kernel_rfl) v4 _ (run_mvZ (.tmp 4) rfl v4 rfl) ?_
  simp only [Act.put, List.setIfInBounds_toArray, List.set_cons_succ, List.set_cons_zero]
  refine wl (by kernel_rfl) (str EO) _ (run_strB (.tmp 58) rfl v4 EO rfl S6.out) ?_
  simp only [Act.put, List.setIfInBounds_toArray, List.set_cons_succ, List.set_cons_zero]
  refine wl (by kernel_rfl) v6 _ (run_mvZ (.tmp 6) rfl v6 rfl) ?_
  simp only [Act.put, List.setIfInBounds_toArray, List.set_cons_succ, List.set_cons_zero]
  refine wl (by kernel_rfl) (str EO) _ (run_strB (.tmp 60) rfl v6 EO rfl T6.out) ?_
  simp only [Act.put, List.setIfInBounds_toArray, List.set_cons_succ, List.set_cons_zero]
  refine wl (by kernel_rfl) (.bool true) _ (rx_seq (.tmp 59) (.tmp 61) rfl EO EO rfl rfl (SliceIn.lt256 S6.out) (SliceIn.lt256 S6.out) true (by simp)) ?_
  simp only [Act.put, List.setIfInBounds_toArray, List.set_cons_succ, List.set_cons_zero]
  refine wl rfl (.bool true) _ (run_pickZ (.tmp 57) (.tmp 62) (.const (.bool false)) rfl true (.bool true) rfl rfl) ?_
  simp only [Act.put, List.setIfInBounds_toArray, List.set_cons_succ, List.set_cons_zero]
  refine wl rfl (.bool true) _ (run_mvZ (.tmp 63) rfl (.bool true) rfl) ?_
  simp only [Act.put, List.setIfInBounds_toArray, List.set_cons_succ, List.set_cons_zero]
  refine wl (by kernel_rfl) (.int .i64 TR) _ (run_mvZ (.tmp 9) rfl (.int .i64 TR) rfl) ?_
  simp only [Act.put, List.setIfInBounds_toArray, List.set_cons_succ, List.set_cons_zero]
  refine wl (by kernel_rfl) (.int .i64 TR) _ (run_mvZ (.tmp 11) rfl (.int .i64 TR) rfl) ?_
  simp only [Act.put, List.setIfInBounds_toArray, List.set_cons_succ, List.set_cons_zero]
  refine wl (by kernel_rfl) (.bool true) _ (run_eqZ (.tmp 65) (.tmp 66) rfl TR TR rfl rfl true (by simp)) ?_
  simp only [Act.put, List.setIfInBounds_toArray, List.set_cons_succ, List.set_cons_zero]
  refine wl rfl (.bool true) _ (run_pickZ (.tmp 64) (.tmp 67) (.const (.bool false)) rfl true (.bool true) rfl rfl) ?_
  simp only [Act.put, List.setIfInBounds_toArray, List.set_cons_succ, List.set_cons_zero]
  refine wl rfl (.bool true) _ (run_mvZ (.tmp 68) rfl (.bool true) rfl) ?_
  simp only [Act.put, List.setIfInBounds_toArray, List.set_cons_succ, List.set_cons_zero]
  refine wl (by kernel_rfl) v8 _ (run_mvZ (.tmp 8) rfl v8 rfl) ?_
  simp only [Act.put, List.setIfInBounds_toArray, List.set_cons_succ, List.set_cons_zero]
  refine wl (by kernel_rfl) (str TO) _ (run_strB (.tmp 70) rfl v8 TO rfl U6.out) ?_
  simp only [Act.put, List.setIfInBounds_toArray, List.set_cons_succ, List.set_cons_zero]
  refine wl (by kernel_rfl) v10 _ (run_mvZ (.tmp 10) rfl v10 rfl) ?_
  simp only [Act.put, List.setIfInBounds_toArray, List.set_cons_succ, List.set_cons_zero]
  refine wl (by kernel_rfl) (str TO) _ (run_strB (.tmp 72) rfl v10 TO rfl V6.out) ?_
  simp only [Act.put, List.setIfInBounds_toArray, List.set_cons_succ, List.set_cons_zero]
  refine wl (by kernel_rfl) (.bool true) _ (rx_seq (.tmp 71) (.tmp 73) rfl TO TO rfl rfl (SliceIn.lt256 U6.out) (SliceIn.lt256 U6.out) true (by simp)) ?_
  simp only [Act.put, List.setIfInBounds_toArray, List.set_cons_succ, List.set_cons_zero]
  refine wl rfl (.bool true) _ (run_pickZ (.tmp 69) (.tmp 74) (.const (.bool false)) rfl true (.bool true) rfl rfl) ?_
  simp only [Act.put, List.setIfInBounds_toArray, List.set_cons_succ, List.set_cons_zero]
  refine wl rfl (.bool true) _ (run_mvZ (.tmp 75) rfl (.bool true) rfl) ?_
  simp only [Act.put, List.setIfInBounds_toArray, List.set_cons_succ, List.set_cons_zero]
  refine wl (by kernel_rfl) (.bool nb) _ (run_mvZ (.tmp 12) rfl (.bool nb) rfl) ?_
  simp only [Act.put, List.setIfInBounds_toArray, List.set_cons_succ, List.set_cons_zero]
  refine wl (by kernel_rfl) (.bool nb) _ (run_mvZ (.tmp 13) rfl (.bool nb) rfl) ?_
  simp only [Act.put, List.setIfInBounds_toArray, List.set_cons_succ, List.set_cons_zero]
  refine wl (by kernel_rfl) (.bool true) _ (rx_eqBool (.tmp 77) (.tmp 78) rfl nb nb rfl rfl true (by simp)) ?_
  simp only [Act.put, List.setIfInBounds_toArray, List.set_cons_succ, List.set_cons_zero]
  refine wl rfl (.bool true) _ (run_pickZ (.tmp 76) (.tmp 79) (.const (.bool false)) rfl true (.bool true) rfl rfl) ?_
  simp only [Act.put, List.setIfInBounds_toArray, List.set_cons_succ, List.set_cons_zero]
  refine wl rfl (.bool true) _ (run_asZ (.tmp 80) rfl (.bool true) rfl) ?_
  simp only [Act.put, List.setIfInBounds_toArray, List.set_cons_succ, List.set_cons_zero]
  refine wpList_nil ?_
  go_wp2_with fail
  rw [HPQ.out]
  exact ⟨rfl, Rw6.out.below⟩
set_option maxHeartbeats 4000000 in
theorem back_any (r : Rc) (vc : Value) (w : World) (hf : Fits w r vc) : Calls Try.prog 6 #[.agg (rcells r vc).toArray] w fun e w' => e = .returned (.bool true) ∧ Below w.heap.size w w' := by
  have HF : Hid (Fits w r vc) := hf
  clear hf
  obtain ⟨PQ, HPQ⟩ : ∃ PQ : Ending → World → Prop, Hid (PQ = fun e w' => e = .returned (.bool true) ∧ Below w.heap.size w w') := ⟨_, rfl⟩
  rw [← HPQ.out]
  have R0 : Hid (Loc w w []) := Loc.nil (Below.refl _ w)
  go_enter Try.func6, Try.ntmps6
  go_upto_region 0 with fail
  refine wp_region_lit ?_
  refine wl rfl (ptr w.heap.size) _ (run_boxA (.tmp 0) rfl (rcells r vc) rfl) ?_
  have k_ := R0.out.box 26 (rcells r vc)
  obtain ⟨w1, hW_⟩ : ∃ W, W = w.alloc (.cells (rcells r vc).toArray 26) := ⟨_, rfl⟩
  obtain ⟨q, hq_⟩ : ∃ q, q = w.heap.size := ⟨_, rfl⟩
  rw [← hW_, ← hq_] at k_
  rw [← hW_, ← hq_]
  clear hq_
  have Rw1 : Hid (Loc w w1 [(q, 26, rcells r vc)]) := k_
  clear k_ hW_ R0
  simp only [Act.put, List.setIfInBounds_toArray, List.set_cons_succ, List.set_cons_zero]
  refine wl rfl (.bool false) _ (run_asZ (.const (.bool false)) rfl (.bool false) rfl) ?_
  simp only [Act.put, List.setIfInBounds_toArray, List.set_cons_succ, List.set_cons_zero]
  refine wpList_nil ?_
  obtain ⟨EO, hEO⟩ : ∃ l, l = encO r := ⟨_, rfl⟩
  obtain ⟨ER, hER⟩ : ∃ l, l = encEr r := ⟨_, rfl⟩
  have HO : Hid (ER = encEr r ∧ EO = encO r) := ⟨hER, hEO⟩
  clear hEO hER
  go_upto_region 1 with fail
  refine wp_region_lit ?_
  refine wpList_callW eN8 [] _ rfl rfl [] rfl ?_
  refine (shown_any w1).mono ?_
  rintro e w2 ⟨rfl, b_⟩
  refine ⟨_, rfl, ?_⟩
  have Rw2 : Hid (Loc w w2 [(q, 26, rcells r vc)]) := Rw1.out.later b_
  clear Rw1 
  clear b_
  simp only [Act.put, List.setIfInBounds_toArray, List.set_cons_succ, List.set_cons_zero]
  refine wl rfl (.bool true) _ (run_asZ (.tmp 17) rfl (.bool true) rfl) ?_
  simp only [Act.put, List.setIfInBounds_toArray, List.set_cons_succ, List.set_cons_zero]
  refine wpList_nil ?_
  go_upto_region 2 with fail
  refine wp_region_lit ?_
  refine wl rfl (.agg (rcells r vc).toArray) _ (run_loadA ag26 (.tmp 1) rfl q (0) rfl (rcells r vc) (rcells_length vc HF.out.root) (fun j v hv => (by rw [Nat.zero_add]; exact (Rw2.out.at 0 rfl).at j v hv))) ?_
  simp only [Act.put, List.setIfInBounds_toArray, List.set_cons_succ, List.set_cons_zero]
  refine wpList_callW eN9 [.tmp 19] _ rfl rfl [(.agg (rcells r vc).toArray)] rfl ?_
  refine (encode_o r vc w2 (HF.out.later Rw2.out.below)).mono ?_
  rintro e w3 ⟨v4, rfl, s_, b_⟩
  refine ⟨_, rfl, ?_⟩
  rw [← HO.out.1]
  have S3 : Hid (SliceIn w3 v4 EO) := (by rw [HO.out.2]; exact s_)
  have Rw3 : Hid (Loc w w3 [(q, 26, rcells r vc)]) := Rw2.out.later b_
  clear Rw2 
  clear b_ s_
  simp only [Act.put, List.setIfInBounds_toArray, List.set_cons_succ, List.set_cons_zero]
  refine wl rfl (.tuple #[v4, (.int .i64 ER)]) _ (run_mvZ (.tmp 20) rfl (.tuple #[v4, (.int .i64 ER)]) rfl) ?_
  simp only [Act.put, List.setIfInBounds_toArray, List.set_cons_succ, List.set_cons_zero]
  refine wl rfl v4 _ (run_extZ (.tmp 18) 0 rfl #[v4, (.int .i64 ER)] rfl v4 rfl) ?_
  simp only [Act.put, List.setIfInBounds_toArray, List.set_cons_succ, List.set_cons_zero]
  refine wl rfl (.int .i64 ER) _ (run_extZ (.tmp 18) 1 rfl #[v4, (.int .i64 ER)] rfl (.int .i64 ER) rfl) ?_
  simp only [Act.put, List.setIfInBounds_toArray, List.set_cons_succ, List.set_cons_zero]
  refine wl rfl v4 _ (run_asZ (.tmp 21) rfl v4 rfl) ?_
  simp only [Act.put, List.setIfInBounds_toArray, List.set_cons_succ, List.set_cons_zero]
  refine wl rfl (.int .i64 ER) _ (run_asZ (.tmp 22) rfl (.int .i64 ER) rfl) ?_
  simp only [Act.put, List.setIfInBounds_toArray, List.set_cons_succ, List.set_cons_zero]
  refine wpList_nil ?_
  go_upto_region 3 with fail
  refine wp_region_lit ?_
  refine wl rfl (.agg (rcells r vc).toArray) _ (run_loadA ag26 (.tmp 1) rfl q (0) rfl (rcells r vc) (rcells_length vc HF.out.root) (fun j v hv => (by rw [Nat.zero_add]; exact (Rw3.out.at 0 rfl).at j v hv))) ?_
  simp only [Act.put, List.setIfInBounds_toArray, List.set_cons_succ, List.set_cons_zero]
  refine wpList_callW eN10 [.tmp 24] _ rfl rfl [(.agg (rcells r vc).toArray)] rfl ?_
  refine (refEncode_o r vc w3 (HF.out.later Rw3.out.below)).mono ?_
  rintro e w4 ⟨v6, rfl, s_, b_⟩
  refine ⟨_, rfl, ?_⟩
  rw [← HO.out.1]
  have T4 : Hid (SliceIn w4 v6 EO) := (by rw [HO.out.2]; exact s_)
  have Rw4 : Hid (Loc w w4 [(q, 26, rcells r vc)]) := Rw3.out.later b_
  have S4 : Hid (SliceIn w4 v4 EO) := S3.out.later b_
  clear Rw3 S3
  clear b_ s_
  simp only [Act.put, List.setIfInBounds_toArray, List.set_cons_succ, List.set_cons_zero]
  refine wl rfl (.tuple #[v6, (.int .i64 ER)]) _ (run_mvZ (.tmp 25) rfl (.tuple #[v6, (.int .i64 ER)]) rfl) ?_
  simp only [Act.put, List.setIfInBounds_toArray, List.set_cons_succ, List.set_cons_zero]
  refine wl rfl v6 _ (run_extZ (.tmp 23) 0 rfl #[v6, (.int .i64 ER)] rfl v6 rfl) ?_
  simp only [Act.put, List.setIfInBounds_toArray, List.set_cons_succ, List.set_cons_zero]
  refine wl rfl (.int .i64 ER) _ (run_extZ (.tmp 23) 1 rfl #[v6, (.int .i64 ER)] rfl (.int .i64 ER) rfl) ?_
  simp only [Act.put, List.setIfInBounds_toArray, List.set_cons_succ, List.set_cons_zero]
  refine wl rfl v6 _ (run_asZ (.tmp 26) rfl v6 rfl) ?_
  simp only [Act.put, List.setIfInBounds_toArray, List.set_cons_succ, List.set_cons_zero]
  refine wl rfl (.int .i64 ER) _ (run_asZ (.tmp 27) rfl (.int .i64 ER) rfl) ?_
  simp only [Act.put, List.setIfInBounds_toArray, List.set_cons_succ, List.set_cons_zero]
  refine wpList_nil ?_
  go_upto_region 4 with fail
  refine wp_region_lit ?_
  refine wl rfl (.bool true) _ (run_mvZ (.tmp 3) rfl (.bool true) rfl) ?_
  simp only [Act.put, List.setIfInBounds_toArray, List.set_cons_succ, List.set_cons_zero]
  refine wl rfl (.bool false) _ (run_not (.tmp 28) 4 rfl true rfl) ?_
  simp only [Act.put, List.setIfInBounds_toArray, List.set_cons_succ, List.set_cons_zero]
  refine wl rfl (.bool false) _ (run_mvZ (.tmp 29) rfl (.bool false) rfl) ?_
  simp only [Act.put, List.setIfInBounds_toArray, List.set_cons_succ, List.set_cons_zero]
  refine wl (by kernel_rfl) (.int .i64 ER) _ (run_mvZ (.tmp 5) rfl (.int .i64 ER) rfl) ?_
  simp only [Act.put, List.setIfInBounds_toArray, List.set_cons_succ, List.set_cons_zero]
  refine wl (by kernel_rfl) (.int .i64 ER) _ (run_mvZ (.tmp 7) rfl (.int .i64 ER) rfl) ?_
  simp only [Act.put, List.setIfInBounds_toArray, List.set_cons_succ, List.set_cons_zero]
  refine wl (by kernel_rfl) (.bool false) _ (run_neZ (.tmp 31) (.tmp 32) rfl ER ER rfl rfl false (by simp)) ?_
  simp only [Act.put, List.setIfInBounds_toArray, List.set_cons_succ, List.set_cons_zero]
  refine wl rfl (.bool false) _ (run_pickZ (.tmp 30) (.const (.bool true)) (.tmp 33) rfl false (.bool false) rfl rfl) ?_
  simp only [Act.put, List.setIfInBounds_toArray, List.set_cons_succ, List.set_cons_zero]
  refine wpList_nil ?_
  obtain ⟨mb, hmb⟩ : ∃ mb, mb = mayB r := ⟨_, rfl⟩
  have HMB : Hid (mb = mayB r) := hmb
  clear hmb
  cases mb with
  | false =>
    have HE2 : Hid (EO = [] ∧ ER = 110) := (by
      have h := HO.out
      unfold encEr encO at h
      rw [← HMB.out] at h
      exact ⟨h.2, h.1⟩)
    go_upto_region 6 with fail
    refine wp_region_lit ?_
    refine wl rfl (.int .i64 ER) _ (run_mvZ (.tmp 5) rfl (.int .i64 ER) rfl) ?_
    simp only [Act.put, List.setIfInBounds_toArray, List.set_cons_succ, List.set_cons_zero]
    refine wl rfl (.bool true) _ (run_neZ (.tmp 35) (.const (.int .i64 0)) rfl ER 0 rfl rfl true (by rw [HE2.out.2]; decide)) ?_
    simp only [Act.put, List.setIfInBounds_toArray, List.set_cons_succ, List.set_cons_zero]
    refine wpList_nil ?_
    go_upto_region 7 with fail
    refine wp_region_lit ?_
    refine wl rfl v4 _ (run_mvZ (.tmp 4) rfl v4 rfl) ?_
    simp only [Act.put, List.setIfInBounds_toArray, List.set_cons_succ, List.set_cons_zero]
    refine wl rfl (.int .i64 (EO.length : Nat)) _ (run_lenB S4.out (.tmp 37) rfl rfl) ?_
    simp only [Act.put, List.setIfInBounds_toArray, List.set_cons_succ, List.set_cons_zero]
    refine wl rfl (.bool true) _ (run_eqZ (.tmp 38) (.const (.int .i64 0)) rfl (EO.length : Nat) 0 rfl rfl true (by rw [HE2.out.1]; decide)) ?_
    simp only [Act.put, List.setIfInBounds_toArray, List.set_cons_succ, List.set_cons_zero]
    refine wl rfl (.bool true) _ (run_asZ (.tmp 39) rfl (.bool true) rfl) ?_
    simp only [Act.put, List.setIfInBounds_toArray, List.set_cons_succ, List.set_cons_zero]
    refine wpList_nil ?_
    go_wp2_with fail
    rw [HPQ.out]
    exact ⟨rfl, Rw4.out.below⟩
  | true =>
    have HE2 : Hid (EO = enc r ∧ ER = 0) := (by
      have h := HO.out
      unfold encEr encO at h
      rw [← HMB.out] at h
      exact ⟨h.2, h.1⟩)
    have HM : Hid (MayS w r vc) := may_s HF.out HMB.out.symm
    have HEN : Hid (entB r.id r.length = true) := (by have h := HMB.out.symm; simp only [mayB, Bool.and_eq_true] at h; exact h.1)
    go_upto_region 6 with fail
    refine wp_region_lit ?_
    refine wl rfl (.int .i64 ER) _ (run_mvZ (.tmp 5) rfl (.int .i64 ER) rfl) ?_
    simp only [Act.put, List.setIfInBounds_toArray, List.set_cons_succ, List.set_cons_zero]
    refine wl rfl (.bool false) _ (run_neZ (.tmp 35) (.const (.int .i64 0)) rfl ER 0 rfl rfl false (by rw [HE2.out.2]; decide)) ?_
    simp only [Act.put, List.setIfInBounds_toArray, List.set_cons_succ, List.set_cons_zero]
    refine wpList_nil ?_
    go_upto_region 8 with fail
    refine wp_region_lit ?_
    refine wl rfl v4 _ (run_mvZ (.tmp 4) rfl v4 rfl) ?_
    simp only [Act.put, List.setIfInBounds_toArray, List.set_cons_succ, List.set_cons_zero]
    refine wpList_callW eN15 [.tmp 41] _ rfl rfl [v4] rfl ?_
    refine (decode_yes v4 EO w4 S4.out r (by rw [HE2.out.1]; exact decR_enc r HM.out.may HF.out.root)).mono ?_
    rintro e w5 ⟨vx, rfl, b_, f_, o_, c_⟩
    refine ⟨_, rfl, ?_⟩
    have P5 : Hid (POwn w5 w.heap.size vx r.cp ∧ Fine r ∧ r.cp.length ≤ 255) := ⟨o_.weaken Rw4.out.below.size, f_, c_⟩
    have Rw5 : Hid (Loc w w5 [(q, 26, rcells r vc)]) := Rw4.out.later b_
    have S5 : Hid (SliceIn w5 v4 EO) := S4.out.later b_
    clear Rw4 S4
    clear b_ f_ o_ c_
    simp only [Act.put, List.setIfInBounds_toArray, List.set_cons_succ, List.set_cons_zero]
    refine wl rfl (.tuple #[(.agg (rcells r vx).toArray), (.int .i64 0)]) _ (run_mvZ (.tmp 42) rfl (.tuple #[(.agg (rcells r vx).toArray), (.int .i64 0)]) rfl) ?_
    simp only [Act.put, List.setIfInBounds_toArray, List.set_cons_succ, List.set_cons_zero]
    refine wl rfl (.agg (rcells r vx).toArray) _ (run_extZ (.tmp 40) 0 rfl #[(.agg (rcells r vx).toArray), (.int .i64 0)] rfl (.agg (rcells r vx).toArray) rfl) ?_
    simp only [Act.put, List.setIfInBounds_toArray, List.set_cons_succ, List.set_cons_zero]
    refine wl rfl (.int .i64 0) _ (run_extZ (.tmp 40) 1 rfl #[(.agg (rcells r vx).toArray), (.int .i64 0)] rfl (.int .i64 0) rfl) ?_
    simp only [Act.put, List.setIfInBounds_toArray, List.set_cons_succ, List.set_cons_zero]
    refine wl rfl (ptr w5.heap.size) _ (run_allocA (rcells rz (.slice none 0 0)) zero26 rfl) ?_
    have k_ := Rw5.out.box 26 (rcells rz (.slice none 0 0))
    obtain ⟨w6, hW_⟩ : ∃ W, W = w5.alloc (.cells (rcells rz (.slice none 0 0)).toArray 26) := ⟨_, rfl⟩
    have hB_ : Below w5.heap.size w5 w6 := hW_ ▸ below_alloc w5 _
    obtain ⟨q8, hq_⟩ : ∃ q, q = w5.heap.size := ⟨_, rfl⟩
    rw [← hW_, ← hq_] at k_
    rw [← hW_, ← hq_]
    clear hq_
    have P6 : Hid (POwn w6 w.heap.size vx r.cp ∧ Fine r ∧ r.cp.length ≤ 255) := ⟨P5.out.1.later hB_, P5.out.2⟩
    clear P5
    have Rw6 : Hid (Loc w w6 [(q, 26, rcells r vc), (q8, 26, rcells rz (.slice none 0 0))]) := k_
    clear k_ hW_ Rw5
    clear hB_
    simp only [Act.put, List.setIfInBounds_toArray, List.set_cons_succ, List.set_cons_zero]
    have hl39 : (rcells r vx).length = 39 := rcells_length _ (fits_of P6.out.2.1 P6.out.1 P6.out.2.2).root
    have hst := run_storeVar ag26 w6 q8 0 26 (rcells rz (.slice none 0 0)) (rcells r vx) hl39 (Rw6.out.at 1 rfl) (by rw [hl39, rcells_length _ rz_fine.1]; decide) (rcells_one (fits_of P6.out.2.1 P6.out.1 P6.out.2.2))
    rw [splice_all _ _ (by rw [hl39, rcells_length _ rz_fine.1])] at hst
    refine wlS rfl rfl _ (run_stV (.tmp 8) (.tmp 43) rfl q8 0 rfl _ rfl hst) ?_
    have k_ := Rw6.out.set 1 rfl ((Rw6.out.at 1 rfl).setRow (rcells r vx)) ((Ch.refl (· = q8) w6).setRow (g := q8) (Or.inl rfl) _)
    obtain ⟨w7, hW_⟩ : ∃ W, W = w6.setRow q8 (rcells r vx).toArray := ⟨_, rfl⟩
    have hC_ : Ch (· = q8) w6 w7 := hW_ ▸ (Ch.refl (· = q8) w6).setRow (g := q8) (Or.inl rfl) _
    have hRow_ := Rw6.out.at 1 rfl
    rw [← hW_] at k_ ⊢
    have P7 : Hid (POwn w7 w.heap.size vx r.cp ∧ Fine r ∧ r.cp.length ≤ 255) := ⟨P6.out.1.off hRow_ (by decide) hC_, P6.out.2⟩
    clear P6
    have Rw7 : Hid (Loc w w7 [(q, 26, rcells r vc), (q8, 26, rcells r vx)]) := k_
    clear k_ hW_ Rw6
    clear hst hl39 hC_ hRow_
    refine wl rfl (.int .i64 0) _ (run_asZ (.tmp 44) rfl (.int .i64 0) rfl) ?_
    simp only [Act.put, List.setIfInBounds_toArray, List.set_cons_succ, List.set_cons_zero]
    refine wpList_nil ?_
    go_upto_region 9 with fail
    refine wp_region_lit ?_
    refine wl rfl (.agg (rcells r vx).toArray) _ (run_loadA ag26 (.tmp 8) rfl q8 (0) rfl (rcells r vx) (rcells_length _ P7.out.2.1.1) (rows_all Rw7.out 1 rfl)) ?_
    simp only [Act.put, List.setIfInBounds_toArray, List.set_cons_succ, List.set_cons_zero]
    refine wl rfl (.agg (rcells r vc).toArray) _ (run_loadA ag26 (.tmp 1) rfl q (0) rfl (rcells r vc) (rcells_length vc HF.out.root) (fun j v hv => (by rw [Nat.zero_add]; exact (Rw7.out.at 0 rfl).at j v hv))) ?_
    simp only [Act.put, List.setIfInBounds_toArray, List.set_cons_succ, List.set_cons_zero]
    refine wpList_callW eN17 [.tmp 45, .tmp 46] _ rfl rfl [(.agg (rcells r vx).toArray), (.agg (rcells r vc).toArray)] rfl ?_
    refine (same_yes r vx vc w7 (fits_of P7.out.2.1 P7.out.1 P7.out.2.2) (HF.out.later Rw7.out.below)).mono ?_
    rintro e w8 ⟨rfl, b_⟩
    refine ⟨_, rfl, ?_⟩
    have Rw8 : Hid (Loc w w8 [(q, 26, rcells r vc), (q8, 26, rcells r vx)]) := Rw7.out.later b_
    clear Rw7 
    clear b_ P7
    simp only [Act.put, List.setIfInBounds_toArray, List.set_cons_succ, List.set_cons_zero]
    refine wl rfl (.bool true) _ (run_asZ (.tmp 47) rfl (.bool true) rfl) ?_
    simp only [Act.put, List.setIfInBounds_toArray, List.set_cons_succ, List.set_cons_zero]
    refine wpList_nil ?_
    go_upto_region 10 with fail
    refine wp_region_lit ?_
    refine wl rfl (.pointer (some ⟨q, 0 + 0, none⟩)) _ (run_fieldOp' f26_0 (.tmp 1) rfl q (0) rfl) ?_
    simp only [Act.put, List.setIfInBounds_toArray, List.set_cons_succ, List.set_cons_zero]
    refine wl rfl (str r.id) _ (run_load1 o9 (.tmp 49) rfl q (0 + 0) rfl (str r.id) ((Rw8.out.at 0 rfl).at 0 _ (rc0 r vc))) ?_
    simp only [Act.put, List.setIfInBounds_toArray, List.set_cons_succ, List.set_cons_zero]
    refine wl rfl (.pointer (some ⟨q, 0 + 1, none⟩)) _ (run_fieldOp' f26_1 (.tmp 1) rfl q (0) rfl) ?_
    simp only [Act.put, List.setIfInBounds_toArray, List.set_cons_succ, List.set_cons_zero]
    refine wl rfl (.int .i64 r.length) _ (run_load1 o3 (.tmp 51) rfl q (0 + 1) rfl (.int .i64 r.length) ((Rw8.out.at 0 rfl).at 1 _ (rc1 r vc))) ?_
    simp only [Act.put, List.setIfInBounds_toArray, List.set_cons_succ, List.set_cons_zero]
    refine wl rfl (.pointer (some ⟨q, 0 + 2, none⟩)) _ (run_fieldOp' f26_2 (.tmp 1) rfl q (0) rfl) ?_
    simp only [Act.put, List.setIfInBounds_toArray, List.set_cons_succ, List.set_cons_zero]
    refine wl rfl (.agg (bcells r.root).toArray) _ (run_loadA ag23 (.tmp 53) rfl q (0 + 2) rfl (bcells r.root) (bc32 HF.out.root) (rootAt (Rw8.out.at 0 rfl) HF.out.root)) ?_
    simp only [Act.put, List.setIfInBounds_toArray, List.set_cons_succ, List.set_cons_zero]
    refine wpList_callW eN11 [.tmp 50, .tmp 52, .tmp 54] _ rfl rfl [str r.id, .int .i64 r.length, .agg (bcells r.root).toArray] rfl ?_
    refine (entry11_yes r.id r.root r.length w8 HF.out.id HF.out.root HF.out.bytes HEN.out).mono ?_
    rintro e w9 ⟨v11, rfl, b_, o_⟩
    refine ⟨_, rfl, ?_⟩
    have S9 : Hid (SliceIn w9 v11 (encE r.id r.length r.root)) := o_.sliceB (encE_lt HF.out.id HF.out.bytes HM.out.id) (by have := HM.out.id; have := HF.out.root; rw [encE_length]; omega)
    have Rw9 : Hid (Loc w w9 [(q, 26, rcells r vc), (q8, 26, rcells r vx)]) := Rw8.out.later b_
    clear Rw8 
    clear b_ o_
    simp only [Act.put, List.setIfInBounds_toArray, List.set_cons_succ, List.set_cons_zero]
    refine wl rfl (.tuple #[v11, (.int .i64 0)]) _ (run_mvZ (.tmp 55) rfl (.tuple #[v11, (.int .i64 0)]) rfl) ?_
    simp only [Act.put, List.setIfInBounds_toArray, List.set_cons_succ, List.set_cons_zero]
    refine wl rfl v11 _ (run_extZ (.tmp 48) 0 rfl #[v11, (.int .i64 0)] rfl v11 rfl) ?_
    simp only [Act.put, List.setIfInBounds_toArray, List.set_cons_succ, List.set_cons_zero]
    refine wl rfl (.int .i64 0) _ (run_extZ (.tmp 48) 1 rfl #[v11, (.int .i64 0)] rfl (.int .i64 0) rfl) ?_
    simp only [Act.put, List.setIfInBounds_toArray, List.set_cons_succ, List.set_cons_zero]
    refine wl rfl v11 _ (run_asZ (.tmp 56) rfl v11 rfl) ?_
    simp only [Act.put, List.setIfInBounds_toArray, List.set_cons_succ, List.set_cons_zero]
    refine wl rfl (.int .i64 0) _ (run_asZ (.tmp 57) rfl (.int .i64 0) rfl) ?_
    simp only [Act.put, List.setIfInBounds_toArray, List.set_cons_succ, List.set_cons_zero]
    refine wpList_nil ?_
    go_upto_region 11 with fail
    refine wp_region_lit ?_
    refine wl rfl v11 _ (run_mvZ (.tmp 11) rfl v11 rfl) ?_
    simp only [Act.put, List.setIfInBounds_toArray, List.set_cons_succ, List.set_cons_zero]
    refine wpList_callW eN18 [.tmp 59] _ rfl rfl [v11] rfl ?_
    refine (read_yes v11 (encE r.id r.length r.root) r.id r.root r.length.toNat w9 S9.out (decE_enc r.id r.root r.length HEN.out HF.out.root)).mono ?_
    rintro e w10 ⟨rfl, b_⟩
    refine ⟨_, rfl, ?_⟩
    have Rw10 : Hid (Loc w w10 [(q, 26, rcells r vc), (q8, 26, rcells r vx)]) := Rw9.out.later b_
    clear Rw9 
    clear b_ S9
    simp only [Act.put, List.setIfInBounds_toArray, List.set_cons_succ, List.set_cons_zero]
    refine wl rfl (.tuple #[(str r.id), (.int .i64 (r.length.toNat : Nat)), (.agg (bcells r.root).toArray), (.int .i64 0)]) _ (run_mvZ (.tmp 60) rfl (.tuple #[(str r.id), (.int .i64 (r.length.toNat : Nat)), (.agg (bcells r.root).toArray), (.int .i64 0)]) rfl) ?_
    simp only [Act.put, List.setIfInBounds_toArray, List.set_cons_succ, List.set_cons_zero]
    refine wl rfl (str r.id) _ (run_extZ (.tmp 58) 0 rfl #[(str r.id), (.int .i64 (r.length.toNat : Nat)), (.agg (bcells r.root).toArray), (.int .i64 0)] rfl (str r.id) rfl) ?_
    simp only [Act.put, List.setIfInBounds_toArray, List.set_cons_succ, List.set_cons_zero]
    refine wl rfl (.int .i64 (r.length.toNat : Nat)) _ (run_extZ (.tmp 58) 1 rfl #[(str r.id), (.int .i64 (r.length.toNat : Nat)), (.agg (bcells r.root).toArray), (.int .i64 0)] rfl (.int .i64 (r.length.toNat : Nat)) rfl) ?_
    simp only [Act.put, List.setIfInBounds_toArray, List.set_cons_succ, List.set_cons_zero]
    refine wl rfl (.agg (bcells r.root).toArray) _ (run_extZ (.tmp 58) 2 rfl #[(str r.id), (.int .i64 (r.length.toNat : Nat)), (.agg (bcells r.root).toArray), (.int .i64 0)] rfl (.agg (bcells r.root).toArray) rfl) ?_
    simp only [Act.put, List.setIfInBounds_toArray, List.set_cons_succ, List.set_cons_zero]
    refine wl rfl (.int .i64 0) _ (run_extZ (.tmp 58) 3 rfl #[(str r.id), (.int .i64 (r.length.toNat : Nat)), (.agg (bcells r.root).toArray), (.int .i64 0)] rfl (.int .i64 0) rfl) ?_
    simp only [Act.put, List.setIfInBounds_toArray, List.set_cons_succ, List.set_cons_zero]
    refine wl rfl (ptr w10.heap.size) _ (run_allocA (bcells (List.replicate 32 0)) zero23b rfl) ?_
    have k_ := Rw10.out.box 23 (bcells (List.replicate 32 0))
    obtain ⟨w11, hW_⟩ : ∃ W, W = w10.alloc (.cells (bcells (List.replicate 32 0)).toArray 23) := ⟨_, rfl⟩
    have hB_ : Below w10.heap.size w10 w11 := hW_ ▸ below_alloc w10 _
    obtain ⟨q15, hq_⟩ : ∃ q, q = w10.heap.size := ⟨_, rfl⟩
    rw [← hW_, ← hq_] at k_
    rw [← hW_, ← hq_]
    clear hq_
    have Rw11 : Hid (Loc w w11 [(q, 26, rcells r vc), (q8, 26, rcells r vx), (q15, 23, bcells (List.replicate 32 0))]) := k_
    clear k_ hW_ Rw10
    clear hB_
    simp only [Act.put, List.setIfInBounds_toArray, List.set_cons_succ, List.set_cons_zero]
    refine wl rfl (str r.id) _ (run_asZ (.tmp 61) rfl (str r.id) rfl) ?_
    simp only [Act.put, List.setIfInBounds_toArray, List.set_cons_succ, List.set_cons_zero]
    refine wl rfl (.int .i64 (r.length.toNat : Nat)) _ (run_asZ (.tmp 62) rfl (.int .i64 (r.length.toNat : Nat)) rfl) ?_
    simp only [Act.put, List.setIfInBounds_toArray, List.set_cons_succ, List.set_cons_zero]
    have hst := run_storeVar ag23 w11 q15 0 23 (bcells (List.replicate 32 0)) (bcells r.root) (bc32 HF.out.root) (Rw11.out.at 2 rfl) (by rw [bc32 HF.out.root]; simp [bcells_length]) (bcells_one _)
    rw [splice32 _ r.root (by simp [bcells_length]) HF.out.root] at hst
    refine wlS rfl rfl _ (run_stV (.tmp 15) (.tmp 63) rfl q15 0 rfl _ rfl hst) ?_
    have k_ := Rw11.out.set 2 rfl ((Rw11.out.at 2 rfl).setRow (bcells r.root)) ((Ch.refl (· = q15) w11).setRow (g := q15) (Or.inl rfl) _)
    obtain ⟨w12, hW_⟩ : ∃ W, W = w11.setRow q15 (bcells r.root).toArray := ⟨_, rfl⟩
    have hC_ : Ch (· = q15) w11 w12 := hW_ ▸ (Ch.refl (· = q15) w11).setRow (g := q15) (Or.inl rfl) _
    have hRow_ := Rw11.out.at 2 rfl
    rw [← hW_] at k_ ⊢
    have Rw12 : Hid (Loc w w12 [(q, 26, rcells r vc), (q8, 26, rcells r vx), (q15, 23, bcells r.root)]) := k_
    clear k_ hW_ Rw11
    clear hst hC_ hRow_
    refine wl rfl (.int .i64 0) _ (run_asZ (.tmp 64) rfl (.int .i64 0) rfl) ?_
    simp only [Act.put, List.setIfInBounds_toArray, List.set_cons_succ, List.set_cons_zero]
    refine wpList_nil ?_
    go_upto_region 12 with fail
    refine wp_region_lit ?_
    refine wl rfl (.int .i64 0) _ (run_mvZ (.tmp 9) rfl (.int .i64 0) rfl) ?_
    simp only [Act.put, List.setIfInBounds_toArray, List.set_cons_succ, List.set_cons_zero]
    refine wl rfl (.bool true) _ (run_eqZ (.tmp 65) (.const (.int .i64 0)) rfl (0) (0) rfl rfl true rfl) ?_
    simp only [Act.put, List.setIfInBounds_toArray, List.set_cons_succ, List.set_cons_zero]
    refine wl rfl (.bool true) _ (run_mvZ (.tmp 66) rfl (.bool true) rfl) ?_
    simp only [Act.put, List.setIfInBounds_toArray, List.set_cons_succ, List.set_cons_zero]
    refine wl (by kernel_rfl) (.bool true) _ (run_mvZ (.tmp 10) rfl (.bool true) rfl) ?_
    simp only [Act.put, List.setIfInBounds_toArray, List.set_cons_succ, List.set_cons_zero]
    refine wl rfl (.bool true) _ (run_pickZ (.tmp 67) (.tmp 68) (.const (.bool false)) rfl true (.bool true) rfl rfl) ?_
    simp only [Act.put, List.setIfInBounds_toArray, List.set_cons_succ, List.set_cons_zero]
    refine wl rfl (.bool true) _ (run_mvZ (.tmp 69) rfl (.bool true) rfl) ?_
    simp only [Act.put, List.setIfInBounds_toArray, List.set_cons_succ, List.set_cons_zero]
    refine wl (by kernel_rfl) v4 _ (run_mvZ (.tmp 4) rfl v4 rfl) ?_
    simp only [Act.put, List.setIfInBounds_toArray, List.set_cons_succ, List.set_cons_zero]
    refine wl (by kernel_rfl) (.int .i64 (EO.length : Nat)) _ (run_lenB S5.out (.tmp 71) rfl rfl) ?_
    simp only [Act.put, List.setIfInBounds_toArray, List.set_cons_succ, List.set_cons_zero]
    refine wl (by kernel_rfl) (.bool true) _ (run_leqZ (.tmp 72) (.const (.int .i64 160)) rfl (EO.length : Nat) 160 rfl rfl true (by rw [HE2.out.1]; have := enc_len HM.out; simp; omega)) ?_
    simp only [Act.put, List.setIfInBounds_toArray, List.set_cons_succ, List.set_cons_zero]
    refine wl rfl (.bool true) _ (run_pickZ (.tmp 70) (.tmp 73) (.const (.bool false)) rfl true (.bool true) rfl rfl) ?_
    simp only [Act.put, List.setIfInBounds_toArray, List.set_cons_succ, List.set_cons_zero]
    refine wl rfl (.bool true) _ (run_mvZ (.tmp 74) rfl (.bool true) rfl) ?_
    simp only [Act.put, List.setIfInBounds_toArray, List.set_cons_succ, List.set_cons_zero]
    refine wl (by kernel_rfl) (.int .i64 0) _ (run_mvZ (.tmp 12) rfl (.int .i64 0) rfl) ?_
    simp only [Act.put, List.setIfInBounds_toArray, List.set_cons_succ, List.set_cons_zero]
    refine wl (by kernel_rfl) (.bool true) _ (run_eqZ (.tmp 76) (.const (.int .i64 0)) rfl (0) (0) rfl rfl true rfl) ?_
    simp only [Act.put, List.setIfInBounds_toArray, List.set_cons_succ, List.set_cons_zero]
    refine wl rfl (.bool true) _ (run_pickZ (.tmp 75) (.tmp 77) (.const (.bool false)) rfl true (.bool true) rfl rfl) ?_
    simp only [Act.put, List.setIfInBounds_toArray, List.set_cons_succ, List.set_cons_zero]
    refine wl rfl (.bool true) _ (run_mvZ (.tmp 78) rfl (.bool true) rfl) ?_
    simp only [Act.put, List.setIfInBounds_toArray, List.set_cons_succ, List.set_cons_zero]
    refine wl (by kernel_rfl) (.int .i64 0) _ (run_mvZ (.tmp 16) rfl (.int .i64 0) rfl) ?_
    simp only [Act.put, List.setIfInBounds_toArray, List.set_cons_succ, List.set_cons_zero]
    refine wl (by kernel_rfl) (.bool true) _ (run_eqZ (.tmp 80) (.const (.int .i64 0)) rfl (0) (0) rfl rfl true rfl) ?_
    simp only [Act.put, List.setIfInBounds_toArray, List.set_cons_succ, List.set_cons_zero]
    refine wl rfl (.bool true) _ (run_pickZ (.tmp 79) (.tmp 81) (.const (.bool false)) rfl true (.bool true) rfl rfl) ?_
    simp only [Act.put, List.setIfInBounds_toArray, List.set_cons_succ, List.set_cons_zero]
    refine wl rfl (.bool true) _ (run_mvZ (.tmp 82) rfl (.bool true) rfl) ?_
    simp only [Act.put, List.setIfInBounds_toArray, List.set_cons_succ, List.set_cons_zero]
    refine wl (by kernel_rfl) (str r.id) _ (run_mvZ (.tmp 13) rfl (str r.id) rfl) ?_
    simp only [Act.put, List.setIfInBounds_toArray, List.set_cons_succ, List.set_cons_zero]
    refine wl (by kernel_rfl) (.pointer (some ⟨q, 0 + 0, none⟩)) _ (run_fieldOp' f26_0 (.tmp 1) rfl q (0) rfl) ?_
    simp only [Act.put, List.setIfInBounds_toArray, List.set_cons_succ, List.set_cons_zero]
    refine wl (by kernel_rfl) (str r.id) _ (run_load1 o9 (.tmp 85) rfl q (0 + 0) rfl (str r.id) ((Rw12.out.at 0 rfl).at 0 _ (rc0 r vc))) ?_
    simp only [Act.put, List.setIfInBounds_toArray, List.set_cons_succ, List.set_cons_zero]
    refine wl (by kernel_rfl) (.bool true) _ (rx_seq (.tmp 84) (.tmp 86) rfl r.id r.id rfl rfl HF.out.id HF.out.id true (by simp)) ?_
    simp only [Act.put, List.setIfInBounds_toArray, List.set_cons_succ, List.set_cons_zero]
    refine wl rfl (.bool true) _ (run_pickZ (.tmp 83) (.tmp 87) (.const (.bool false)) rfl true (.bool true) rfl rfl) ?_
    simp only [Act.put, List.setIfInBounds_toArray, List.set_cons_succ, List.set_cons_zero]
    refine wl rfl (.bool true) _ (run_mvZ (.tmp 88) rfl (.bool true) rfl) ?_
    simp only [Act.put, List.setIfInBounds_toArray, List.set_cons_succ, List.set_cons_zero]
    refine wl (by kernel_rfl) (.int .i64 (r.length.toNat : Nat)) _ (run_mvZ (.tmp 14) rfl (.int .i64 (r.length.toNat : Nat)) rfl) ?_
    simp only [Act.put, List.setIfInBounds_toArray, List.set_cons_succ, List.set_cons_zero]
    refine wl (by kernel_rfl) (.pointer (some ⟨q, 0 + 1, none⟩)) _ (run_fieldOp' f26_1 (.tmp 1) rfl q (0) rfl) ?_
    simp only [Act.put, List.setIfInBounds_toArray, List.set_cons_succ, List.set_cons_zero]
    refine wl (by kernel_rfl) (.int .i64 r.length) _ (run_load1 o3 (.tmp 91) rfl q (0 + 1) rfl (.int .i64 r.length) ((Rw12.out.at 0 rfl).at 1 _ (rc1 r vc))) ?_
    simp only [Act.put, List.setIfInBounds_toArray, List.set_cons_succ, List.set_cons_zero]
    refine wl (by kernel_rfl) (.bool true) _ (run_eqZ (.tmp 90) (.tmp 92) rfl (r.length.toNat : Nat) r.length rfl rfl true (by have := HM.out.length.1; simp; omega)) ?_
    simp only [Act.put, List.setIfInBounds_toArray, List.set_cons_succ, List.set_cons_zero]
    refine wl rfl (.bool true) _ (run_pickZ (.tmp 89) (.tmp 93) (.const (.bool false)) rfl true (.bool true) rfl rfl) ?_
    simp only [Act.put, List.setIfInBounds_toArray, List.set_cons_succ, List.set_cons_zero]
    refine wl rfl (.bool true) _ (run_mvZ (.tmp 94) rfl (.bool true) rfl) ?_
    simp only [Act.put, List.setIfInBounds_toArray, List.set_cons_succ, List.set_cons_zero]
    refine wl (by kernel_rfl) (.agg (bcells r.root).toArray) _ (run_loadA ag23 (.tmp 15) rfl q15 (0) rfl (bcells r.root) (bc32 HF.out.root) (rows_all Rw12.out 2 rfl)) ?_
    simp only [Act.put, List.setIfInBounds_toArray, List.set_cons_succ, List.set_cons_zero]
    refine wl (by kernel_rfl) (.pointer (some ⟨q, 0 + 2, none⟩)) _ (run_fieldOp' f26_2 (.tmp 1) rfl q (0) rfl) ?_
    simp only [Act.put, List.setIfInBounds_toArray, List.set_cons_succ, List.set_cons_zero]
    refine wl (by kernel_rfl) (.agg (bcells r.root).toArray) _ (run_loadA ag23 (.tmp 97) rfl q (0 + 2) rfl (bcells r.root) (bc32 HF.out.root) (rootAt (Rw12.out.at 0 rfl) HF.out.root)) ?_
    simp only [Act.put, List.setIfInBounds_toArray, List.set_cons_succ, List.set_cons_zero]
    refine wl (by kernel_rfl) (.bool true) _ (rx_eqH (.tmp 96) (.tmp 98) rfl r.root r.root HF.out.isH HF.out.isH rfl rfl true (by simp)) ?_
    simp only [Act.put, List.setIfInBounds_toArray, List.set_cons_succ, List.set_cons_zero]
    refine wl rfl (.bool true) _ (run_pickZ (.tmp 95) (.tmp 99) (.const (.bool false)) rfl true (.bool true) rfl rfl) ?_
    simp only [Act.put, List.setIfInBounds_toArray, List.set_cons_succ, List.set_cons_zero]
    refine wl rfl (.bool true) _ (run_asZ (.tmp 100) rfl (.bool true) rfl) ?_
    simp only [Act.put, List.setIfInBounds_toArray, List.set_cons_succ, List.set_cons_zero]
    refine wpList_nil ?_
    go_wp2_with fail
    rw [HPQ.out]
    exact ⟨rfl, Rw12.out.below⟩

end Go.Proofs.Ytncjmolhofnpbaa

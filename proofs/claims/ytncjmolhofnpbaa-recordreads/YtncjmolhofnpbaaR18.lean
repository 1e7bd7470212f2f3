/- Records written: the document. -/
import Derived.Test.YtncjmolhofnpbaaR17
namespace Go.Proofs.Ytncjmolhofnpbaa
open Go.RowKit

theorem in_root2 {w : World} {q : Nat} {r : Rc} {vc : Value} (hr : Row w q 26 (rcells r vc)) (hl : r.root.length = 32) (hb : ∀ c ∈ r.root, c < 256) : SliceIn w (.slice (some ⟨q, 2, none⟩) 32 32) r.root :=
  ⟨_, _, by rw [hl], ⟨by omega, by omega⟩, Or.inr ⟨q, 2, rfl, fun j hj => hr.at (2 + j) _ (rcR vc hl j _ (bcells_at r.root j hj)), lt256 r.root hb⟩⟩
set_option maxHeartbeats 4000000 in
theorem refEncode_any (r : Rc) (vc : Value) (w : World) (hf : Fits w r vc) : Calls Try.prog 10 #[.agg (rcells r vc).toArray] w fun e w' => ∃ v er, e = .returned (.tuple #[v, .int .i64 er]) ∧ EncS w w' r v er := by
  have HF : Hid (Fits w r vc) := hf
  clear hf
  obtain ⟨PQ, HPQ⟩ : ∃ PQ : Ending → World → Prop, Hid (PQ = fun e w' => ∃ v er, e = .returned (.tuple #[v, .int .i64 er]) ∧ EncS w w' r v er) := ⟨_, rfl⟩
  rw [← HPQ.out]
  have R0 : Hid (Loc w w []) := Loc.nil (Below.refl _ w)
  go_enter Try.func10, Try.ntmps10
  go_upto_region 0 with fail
  refine wp_region_lit ?_
  refine wl rfl (ptr w.heap.size) _ (run_boxA (.tmp 0) rfl (rcells r vc) rfl) ?_
  have k_ := R0.out.box 26 (rcells r vc)
  obtain ⟨w1, hW_⟩ : ∃ W, W = w.alloc (.cells (rcells r vc).toArray 26) := ⟨_, rfl⟩
  obtain ⟨q, hq_⟩ : ∃ q, q = w.heap.size := ⟨_, rfl⟩
  rw [← hW_, ← hq_] at k_
  rw [← hW_, ← hq_]
  clear hq_
  have Rw1 : Hid (Loc w w1 [(q, 26, rcells r vc)]) := k_
  clear k_ hW_ R0
  simp only [Act.put, List.setIfInBounds_toArray, List.set_cons_succ, List.set_cons_zero]
  refine wl rfl (.slice none 0 0) _ (run_asZ (.const (.slice none 0 0)) rfl (.slice none 0 0) rfl) ?_
  simp only [Act.put, List.setIfInBounds_toArray, List.set_cons_succ, List.set_cons_zero]
  refine wl rfl (.int .i64 0) _ (run_asZ (.const (.int .i64 0)) rfl (.int .i64 0) rfl) ?_
  simp only [Act.put, List.setIfInBounds_toArray, List.set_cons_succ, List.set_cons_zero]
  refine wpList_nil ?_
  go_upto_region 1 with fail
  refine wp_region_lit ?_
  refine wl rfl (.agg (rcells r vc).toArray) _ (run_loadA ag26 (.tmp 1) rfl q (0) rfl (rcells r vc) (rcells_length vc HF.out.root) (fun j v hv => (by rw [Nat.zero_add]; exact (Rw1.out.at 0 rfl).at j v hv))) ?_
  simp only [Act.put, List.setIfInBounds_toArray, List.set_cons_succ, List.set_cons_zero]
  refine wpList_callW eN23 [.tmp 8] _ rfl rfl [(.agg (rcells r vc).toArray)] rfl ?_
  refine (may_any r vc w1 (HF.out.later Rw1.out.below)).mono ?_
  rintro e w2 ⟨rfl, b2⟩
  refine ⟨_, rfl, ?_⟩
  have R2 : Hid (Loc w w2 [(q, 26, rcells r vc)]) := Rw1.out.later b2
  obtain ⟨ok, hok⟩ : ∃ ok, ok = mayB r := ⟨_, rfl⟩
  have HOK : Hid (ok = mayB r) := hok
  rw [← hok]
  clear hok b2 Rw1
  simp only [Act.put, List.setIfInBounds_toArray, List.set_cons_succ, List.set_cons_zero]
  refine wl rfl (.bool (!ok)) _ (run_not (.tmp 9) 4 rfl ok rfl) ?_
  simp only [Act.put, List.setIfInBounds_toArray, List.set_cons_succ, List.set_cons_zero]
  refine wpList_nil ?_
  cases ok with
  | false =>
    go_wp2_with fail
    rw [HPQ.out]
    exact ⟨_, _, rfl, R2.out.below, Or.inl ⟨HOK.out.symm, rfl, rfl⟩⟩
  | true =>
    have HM : Hid (MayS w r vc) := may_s HF.out HOK.out.symm
    clear HOK
    go_upto_region 3 with fail
    refine wp_region_lit ?_
    refine wl rfl (.pointer (some ⟨q, 0 + 0, none⟩)) _ (run_fieldOp' f26_0 (.tmp 1) rfl q (0) rfl) ?_
    simp only [Act.put, List.setIfInBounds_toArray, List.set_cons_succ, List.set_cons_zero]
    refine wl rfl (str r.id) _ (run_load1 o9 (.tmp 11) rfl q (0 + 0) rfl (str r.id) ((R2.out.at 0 rfl).at 0 _ (rc0 r vc))) ?_
    simp only [Act.put, List.setIfInBounds_toArray, List.set_cons_succ, List.set_cons_zero]
    refine wl rfl (.int .i64 (r.id.length : Nat)) _ (run_lenS r.id (.tmp 12) rfl rfl) ?_
    simp only [Act.put, List.setIfInBounds_toArray, List.set_cons_succ, List.set_cons_zero]
    refine wl rfl (.int .u8 (r.id.length : Nat)) _ (run_toU8n (.tmp 13) rfl r.id.length (by have := HM.out.id; omega) rfl) ?_
    simp only [Act.put, List.setIfInBounds_toArray, List.set_cons_succ, List.set_cons_zero]
    refine wl rfl (whole w2.heap.size 1) _ (run_litB1 (.tmp 14) rfl r.id.length rfl) ?_
    obtain ⟨v3, hv3⟩ : ∃ v, v = whole w2.heap.size 1 := ⟨_, rfl⟩
    obtain ⟨w3, hw⟩ : ∃ W, W = w2.alloc (.cells (bcells [r.id.length]).toArray 5) := ⟨_, rfl⟩
    have B3 : Hid (Bt w w3 [(q, 26, rcells r vc)] v3 [r.id.length]) := ⟨hw ▸ R2.out.later (below_alloc w2 _), hv3 ▸ hw ▸ whole_own (Row.new w2 5 (bcells [r.id.length])) R2.out.below.size (by simp), ty26 q _⟩
    rw [← hv3, ← hw]
    clear hv3 hw R2
    simp only [Act.put, List.setIfInBounds_toArray, List.set_cons_succ, List.set_cons_zero]
    refine wl rfl v3 _ (run_asZ (.tmp 15) rfl v3 rfl) ?_
    simp only [Act.put, List.setIfInBounds_toArray, List.set_cons_succ, List.set_cons_zero]
    refine wpList_nil ?_
    go_upto_region 4 with fail
    refine wp_region_lit ?_
    refine wl rfl v3 _ (run_mvZ (.tmp 4) rfl v3 rfl) ?_
    simp only [Act.put, List.setIfInBounds_toArray, List.set_cons_succ, List.set_cons_zero]
    refine wl rfl (.pointer (some ⟨q, 0 + 0, none⟩)) _ (run_fieldOp' f26_0 (.tmp 1) rfl q (0) rfl) ?_
    simp only [Act.put, List.setIfInBounds_toArray, List.set_cons_succ, List.set_cons_zero]
    refine wl rfl (str r.id) _ (run_load1 o9 (.tmp 17) rfl q (0 + 0) rfl (str r.id) ((B3.out.loc.at 0 rfl).at 0 _ (rc0 r vc))) ?_
    simp only [Act.put, List.setIfInBounds_toArray, List.set_cons_succ, List.set_cons_zero]
    refine wl_strBs (.tmp 18) rfl rfl r.id HF.out.id (by have := HM.out.id; omega) rfl ?_
    intro vs ws ss bs
    have B3s : Hid (Bt w ws [(q, 26, rcells r vc)] v3 [r.id.length] ∧ SliceIn ws vs r.id) := ⟨B3.out.later bs, ss⟩
    clear ss bs B3
    simp only [Act.put, List.setIfInBounds_toArray, List.set_cons_succ, List.set_cons_zero]
    refine wl_bgrow (.tmp 16) (.tmp 19) rfl rfl w.heap.size v3 vs [r.id.length] r.id rfl B3s.out.1.own rfl B3s.out.2 (by simp; have := HM.out.id; omega) B3s.out.1.size ?_
    intro v4 w4 o_ g_
    have B4 : Hid (Bt w w4 [(q, 26, rcells r vc)] v4 ([r.id.length] ++ r.id)) := B3s.out.1.grow g_ o_
    clear o_ g_ B3s
    simp only [Act.put, List.setIfInBounds_toArray, List.set_cons_succ, List.set_cons_zero]
    refine wl rfl v4 _ (run_asZ (.tmp 20) rfl v4 rfl) ?_
    simp only [Act.put, List.setIfInBounds_toArray, List.set_cons_succ, List.set_cons_zero]
    refine wpList_nil ?_
    go_upto_region 5 with fail
    refine wp_region_lit ?_
    refine wl rfl v4 _ (run_mvZ (.tmp 4) rfl v4 rfl) ?_
    simp only [Act.put, List.setIfInBounds_toArray, List.set_cons_succ, List.set_cons_zero]
    refine wl rfl (.pointer (some ⟨q, 0 + 1, none⟩)) _ (run_fieldOp' f26_1 (.tmp 1) rfl q (0) rfl) ?_
    simp only [Act.put, List.setIfInBounds_toArray, List.set_cons_succ, List.set_cons_zero]
    refine wl rfl (.int .i64 r.length) _ (run_load1 o3 (.tmp 22) rfl q (0 + 1) rfl (.int .i64 r.length) ((B4.out.loc.at 0 rfl).at 1 _ (rc1 r vc))) ?_
    simp only [Act.put, List.setIfInBounds_toArray, List.set_cons_succ, List.set_cons_zero]
    refine wpList_callW eN24 [.tmp 21, .tmp 23, .const (.int .i64 2)] _ rfl rfl [v4, (.int .i64 ((r.length.toNat : Nat) : Int)), (.int .i64 2)] (by rw [show ((r.length.toNat : Nat) : Int) = r.length by have := HM.out.length.1; omega]; rfl) ?_
    refine (Fr.put_grow v4 ([r.id.length] ++ r.id) r.length.toNat 2 w.heap.size w4 B4.out.own B4.out.size (by decide) (by simp; have := HM.out.id; omega) (B4.out.own.hasBlock (by simp))).mono ?_
    rintro e w5 ⟨v5, rfl, o_, g_⟩
    refine ⟨_, rfl, ?_⟩
    have B5 : Hid (Bt w w5 [(q, 26, rcells r vc)] v5 ([r.id.length] ++ r.id ++ Fr.Frame.be 2 r.length.toNat)) := B4.out.grow g_ o_
    clear o_ g_ B4
    simp only [Act.put, List.setIfInBounds_toArray, List.set_cons_succ, List.set_cons_zero]
    refine wl rfl v5 _ (run_asZ (.tmp 24) rfl v5 rfl) ?_
    simp only [Act.put, List.setIfInBounds_toArray, List.set_cons_succ, List.set_cons_zero]
    refine wpList_nil ?_
    go_upto_region 6 with fail
    refine wp_region_lit ?_
    refine wl rfl v5 _ (run_mvZ (.tmp 4) rfl v5 rfl) ?_
    simp only [Act.put, List.setIfInBounds_toArray, List.set_cons_succ, List.set_cons_zero]
    refine wl rfl (.pointer (some ⟨q, 0 + 2, none⟩)) _ (run_fieldOp' f26_2 (.tmp 1) rfl q (0) rfl) ?_
    simp only [Act.put, List.setIfInBounds_toArray, List.set_cons_succ, List.set_cons_zero]
    refine wl rfl (.slice (some ⟨q, 2, none⟩) 32 32) _ (run_slA arr23 (.tmp 26) none none rfl q (0 + 2) 0 32 rfl ⟨Or.inl ⟨rfl, rfl⟩, Or.inl ⟨rfl, rfl⟩, by decide, by decide, by decide⟩) ?_
    simp only [Act.put, List.setIfInBounds_toArray, List.set_cons_succ, List.set_cons_zero]
    refine wl_bgrow (.tmp 25) (.tmp 27) rfl rfl w.heap.size v5 (.slice (some ⟨q, 2, none⟩) 32 32) ([r.id.length] ++ r.id ++ Fr.Frame.be 2 r.length.toNat) r.root rfl B5.out.own rfl (in_root2 (B5.out.loc.at 0 rfl) HF.out.root HF.out.bytes) (by simp [Fr.Frame.be_length, HF.out.root]; have := HM.out.id; omega) B5.out.size ?_
    intro v6 w6 o_ g_
    have B6 : Hid (Bt w w6 [(q, 26, rcells r vc)] v6 (encE r.id r.length r.root)) := (by rw [← encE_eq]; exact B5.out.grow g_ o_)
    clear o_ g_ B5
    simp only [Act.put, List.setIfInBounds_toArray, List.set_cons_succ, List.set_cons_zero]
    refine wl rfl v6 _ (run_asZ (.tmp 28) rfl v6 rfl) ?_
    simp only [Act.put, List.setIfInBounds_toArray, List.set_cons_succ, List.set_cons_zero]
    refine wpList_nil ?_
    go_upto_region 7 with fail
    refine wp_region_lit ?_
    refine wl rfl v6 _ (run_mvZ (.tmp 4) rfl v6 rfl) ?_
    simp only [Act.put, List.setIfInBounds_toArray, List.set_cons_succ, List.set_cons_zero]
    refine wl rfl (.pointer (some ⟨q, 0 + 34, none⟩)) _ (run_fieldOp' f26_3 (.tmp 1) rfl q (0) rfl) ?_
    simp only [Act.put, List.setIfInBounds_toArray, List.set_cons_succ, List.set_cons_zero]
    refine wl rfl (.int .i64 r.index) _ (run_load1 o3 (.tmp 30) rfl q (0 + 34) rfl (.int .i64 r.index) ((B6.out.loc.at 0 rfl).at 34 _ (rcB vc HF.out.root 0))) ?_
    simp only [Act.put, List.setIfInBounds_toArray, List.set_cons_succ, List.set_cons_zero]
    refine wpList_callW eN24 [.tmp 29, .tmp 31, .const (.int .i64 4)] _ rfl rfl [v6, (.int .i64 ((r.index.toNat : Nat) : Int)), (.int .i64 4)] (by rw [show ((r.index.toNat : Nat) : Int) = r.index by have := HM.out.index.1; omega]; rfl) ?_
    refine (Fr.put_grow v6 (encE r.id r.length r.root) r.index.toNat 4 w.heap.size w6 B6.out.own B6.out.size (by decide) (by have h1 := HM.out.id; have h2 := HF.out.root; simp [encE_length]; omega) (B6.out.own.hasBlock (by simp [encE]))).mono ?_
    rintro e w7 ⟨v7, rfl, o_, g_⟩
    refine ⟨_, rfl, ?_⟩
    have B7 : Hid (Bt w w7 [(q, 26, rcells r vc)] v7 (encE r.id r.length r.root ++ Fr.Frame.be 4 r.index.toNat)) := B6.out.grow g_ o_
    clear o_ g_ B6
    simp only [Act.put, List.setIfInBounds_toArray, List.set_cons_succ, List.set_cons_zero]
    refine wl rfl v7 _ (run_asZ (.tmp 32) rfl v7 rfl) ?_
    simp only [Act.put, List.setIfInBounds_toArray, List.set_cons_succ, List.set_cons_zero]
    refine wpList_nil ?_
    go_upto_region 8 with fail
    refine wp_region_lit ?_
    refine wl rfl v7 _ (run_mvZ (.tmp 4) rfl v7 rfl) ?_
    simp only [Act.put, List.setIfInBounds_toArray, List.set_cons_succ, List.set_cons_zero]
    refine wl rfl (.pointer (some ⟨q, 0 + 35, none⟩)) _ (run_fieldOp' f26_4 (.tmp 1) rfl q (0) rfl) ?_
    simp only [Act.put, List.setIfInBounds_toArray, List.set_cons_succ, List.set_cons_zero]
    refine wl rfl (.int .i64 r.expiry) _ (run_load1 o3 (.tmp 34) rfl q (0 + 35) rfl (.int .i64 r.expiry) ((B7.out.loc.at 0 rfl).at 35 _ (rcB vc HF.out.root 1))) ?_
    simp only [Act.put, List.setIfInBounds_toArray, List.set_cons_succ, List.set_cons_zero]
    refine wpList_callW eN24 [.tmp 33, .tmp 35, .const (.int .i64 6)] _ rfl rfl [v7, (.int .i64 ((r.expiry.toNat : Nat) : Int)), (.int .i64 6)] (by rw [show ((r.expiry.toNat : Nat) : Int) = r.expiry by have := HM.out.expiry.1; omega]; rfl) ?_
    refine (Fr.put_grow v7 (encE r.id r.length r.root ++ Fr.Frame.be 4 r.index.toNat) r.expiry.toNat 6 w.heap.size w7 B7.out.own B7.out.size (by decide) (by have h1 := HM.out.id; have h2 := HF.out.root; simp [encE_length, Fr.Frame.be_length]; omega) (B7.out.own.hasBlock (by simp [encE]))).mono ?_
    rintro e w8 ⟨v8, rfl, o_, g_⟩
    refine ⟨_, rfl, ?_⟩
    have B8 : Hid (Bt w w8 [(q, 26, rcells r vc)] v8 (encE r.id r.length r.root ++ Fr.Frame.be 4 r.index.toNat ++ Fr.Frame.be 6 r.expiry.toNat)) := B7.out.grow g_ o_
    clear o_ g_ B7
    simp only [Act.put, List.setIfInBounds_toArray, List.set_cons_succ, List.set_cons_zero]
    refine wl rfl v8 _ (run_asZ (.tmp 36) rfl v8 rfl) ?_
    simp only [Act.put, List.setIfInBounds_toArray, List.set_cons_succ, List.set_cons_zero]
    refine wpList_nil ?_
    obtain ⟨bh, hbh⟩ : ∃ b, b = r.hold := ⟨_, rfl⟩
    obtain ⟨bg, hbg⟩ : ∃ b, b = r.gone := ⟨_, rfl⟩
    have HBG : Hid (r.hold = bh ∧ r.gone = bg) := ⟨hbh.symm, hbg.symm⟩
    clear hbh hbg
    obtain ⟨n, hn⟩ : ∃ n, n = r.cp.length := ⟨_, rfl⟩
    have HN : Hid (n = r.cp.length) := hn
    clear hn
    cases bh with
    | false =>
      cases bg with
      | false =>
        go_upto_region 9 with fail
        refine wp_region_lit ?_
        refine wl rfl (.int .i64 0) _ (run_asZ (.const (.int .i64 0)) rfl (.int .i64 0) rfl) ?_
        simp only [Act.put, List.setIfInBounds_toArray, List.set_cons_succ, List.set_cons_zero]
        refine wpList_nil ?_
        go_upto_region 10 with fail
        refine wp_region_lit ?_
        refine wl rfl (.pointer (some ⟨q, 0 + 36, none⟩)) _ (run_fieldOp' f26_5 (.tmp 1) rfl q (0) rfl) ?_
        simp only [Act.put, List.setIfInBounds_toArray, List.set_cons_succ, List.set_cons_zero]
        refine wl rfl (.bool false) _ (run_load1 o4 (.tmp 37) rfl q (0 + 36) rfl (.bool false) ((B8.out.loc.at 0 rfl).at 36 _ (by have := rcB vc HF.out.root (r := r) 2; rw [this, HBG.out.1]; rfl))) ?_
        simp only [Act.put, List.setIfInBounds_toArray, List.set_cons_succ, List.set_cons_zero]
        refine wpList_nil ?_
        go_upto_region 12 with fail
        refine wp_region_lit ?_
        refine wl rfl (.pointer (some ⟨q, 0 + 37, none⟩)) _ (run_fieldOp' f26_6 (.tmp 1) rfl q (0) rfl) ?_
        simp only [Act.put, List.setIfInBounds_toArray, List.set_cons_succ, List.set_cons_zero]
        refine wl rfl (.bool false) _ (run_load1 o4 (.tmp 39) rfl q (0 + 37) rfl (.bool false) ((B8.out.loc.at 0 rfl).at 37 _ (by have := rcB vc HF.out.root (r := r) 3; rw [this, HBG.out.2]; rfl))) ?_
        simp only [Act.put, List.setIfInBounds_toArray, List.set_cons_succ, List.set_cons_zero]
        refine wpList_nil ?_
        go_upto_region 14 with fail
        refine wp_region_lit ?_
        refine wl rfl v8 _ (run_mvZ (.tmp 4) rfl v8 rfl) ?_
        simp only [Act.put, List.setIfInBounds_toArray, List.set_cons_succ, List.set_cons_zero]
        refine wl rfl (.int .i64 0) _ (run_mvZ (.tmp 5) rfl (.int .i64 0) rfl) ?_
        simp only [Act.put, List.setIfInBounds_toArray, List.set_cons_succ, List.set_cons_zero]
        refine wl rfl (.int .u8 (0 : Nat)) _ (run_toU8n (.tmp 44) rfl 0 (by decide) rfl) ?_
        simp only [Act.put, List.setIfInBounds_toArray, List.set_cons_succ, List.set_cons_zero]
        refine wl rfl (.pointer (some ⟨q, 0 + 38, none⟩)) _ (run_fieldOp' f26_7 (.tmp 1) rfl q (0) rfl) ?_
        simp only [Act.put, List.setIfInBounds_toArray, List.set_cons_succ, List.set_cons_zero]
        refine wl rfl vc _ (run_load1 o24 (.tmp 46) rfl q (0 + 38) rfl vc ((B8.out.loc.at 0 rfl).at 38 _ (rcB vc HF.out.root 4))) ?_
        simp only [Act.put, List.setIfInBounds_toArray, List.set_cons_succ, List.set_cons_zero]
        refine wl rfl (.int .i64 (n : Nat)) _ (run_lenPn HF.out.cp HN.out (.tmp 47) rfl rfl) ?_
        simp only [Act.put, List.setIfInBounds_toArray, List.set_cons_succ, List.set_cons_zero]
        refine wl rfl (.int .u8 (n : Nat)) _ (run_toU8n (.tmp 48) rfl n (by have := HM.out.few; have := HN.out; omega) rfl) ?_
        simp only [Act.put, List.setIfInBounds_toArray, List.set_cons_succ, List.set_cons_zero]
        refine wl rfl (whole w8.heap.size 2) _ (run_litB2 (.tmp 45) (.tmp 49) rfl 0 n rfl rfl) ?_
        obtain ⟨vl, hvl⟩ : ∃ v, v = whole w8.heap.size 2 := ⟨_, rfl⟩
        obtain ⟨w9, hw⟩ : ∃ W, W = w8.alloc (.cells (bcells [0, n]).toArray 5) := ⟨_, rfl⟩
        have B9 : Hid (Bt w w9 [(q, 26, rcells r vc)] v8 (encE r.id r.length r.root ++ Fr.Frame.be 4 r.index.toNat ++ Fr.Frame.be 6 r.expiry.toNat) ∧ SliceIn w9 vl [0, n]) := ⟨hw ▸ B8.out.later (below_alloc w8 _), hvl ▸ hw ▸ whole_slice (Row.new w8 5 (bcells [0, n])) (fun c hc => by have h3 := HM.out.few; have h4 := HN.out; simp at hc; omega) (by simp)⟩
        rw [← hvl, ← hw]
        clear hvl hw B8
        simp only [Act.put, List.setIfInBounds_toArray, List.set_cons_succ, List.set_cons_zero]
        refine wl_bgrow (.tmp 43) (.tmp 50) rfl rfl w.heap.size v8 vl (encE r.id r.length r.root ++ Fr.Frame.be 4 r.index.toNat ++ Fr.Frame.be 6 r.expiry.toNat) [0, n] rfl B9.out.1.own rfl B9.out.2 (by have h1 := HM.out.id; have h2 := HF.out.root; simp [encE_length, Fr.Frame.be_length]; omega) B9.out.1.size ?_
        intro v10 w10 o_ g_
        have B10 : Hid (EnK w q r vc w10 v10 0) := (by
          show Bt _ _ _ _ _
          have h := B9.out.1.grow g_ o_
          have e : bitB r.hold 1 + bitB r.gone 2 = 0 := (by rw [HBG.out.1, HBG.out.2]; rfl)
          rw [List.take_zero]
          simpa [encH, encPs, e, ← HN.out] using h)
        clear o_ g_ B9
        simp only [Act.put, List.setIfInBounds_toArray, List.set_cons_succ, List.set_cons_zero]
        refine wl rfl v10 _ (run_asZ (.tmp 51) rfl v10 rfl) ?_
        simp only [Act.put, List.setIfInBounds_toArray, List.set_cons_succ, List.set_cons_zero]
        refine wpList_nil ?_
        go_upto_region 15 with fail
        refine wp_region_lit ?_
        refine wl rfl (.int .i64 0) _ (run_asZ (.const (.int .i64 0)) rfl (.int .i64 0) rfl) ?_
        simp only [Act.put, List.setIfInBounds_toArray, List.set_cons_succ, List.set_cons_zero]
        refine wpList_nil ?_
        clear HBG
        go_wp2_with fail
        go_loopw [4, 6] (fun vb vk W => ∃ k : Nat, vk = .int .i64 (k : Nat) ∧ k ≤ n ∧ EnK w q r vc W vb k) (fun _ vk _ => n - (intOf vk).toNat)
        case atStart => exact ⟨0, rfl, Nat.zero_le _, B10.out⟩
        case round =>
          obtain ⟨k, rfl, hk, hS0⟩ := hrel
          have HK : Hid (EnK w q r vc wr u4 k) := hS0
          clear hS0 B10
          have h8 : n ≤ 8 := (by rw [HN.out]; exact HM.out.few)
          go_upto_region 16 with fail
          refine wp_region_lit ?_
          refine wl rfl (.int .i64 (k : Nat)) _ (run_mvZ (.tmp 6) rfl (.int .i64 (k : Nat)) rfl) ?_
          simp only [Act.put, List.setIfInBounds_toArray, List.set_cons_succ, List.set_cons_zero]
          refine wl rfl (.pointer (some ⟨q, 0 + 38, none⟩)) _ (run_fieldOp' f26_7 (.tmp 1) rfl q (0) rfl) ?_
          simp only [Act.put, List.setIfInBounds_toArray, List.set_cons_succ, List.set_cons_zero]
          refine wl rfl vc _ (run_load1 o24 (.tmp 53) rfl q (0 + 38) rfl vc ((HK.out.loc.at 0 rfl).at 38 _ (rcB vc HF.out.root 4))) ?_
          simp only [Act.put, List.setIfInBounds_toArray, List.set_cons_succ, List.set_cons_zero]
          refine wl rfl (.int .i64 (n : Nat)) _ (run_lenPn HF.out.cp HN.out (.tmp 54) rfl rfl) ?_
          simp only [Act.put, List.setIfInBounds_toArray, List.set_cons_succ, List.set_cons_zero]
          refine wl rfl (.bool (decide ((k : Int) < (n : Int)))) _ (run_lssZ (.tmp 52) (.tmp 55) rfl (k : Nat) (n : Nat) rfl rfl _ rfl) ?_
          simp only [Act.put, List.setIfInBounds_toArray, List.set_cons_succ, List.set_cons_zero]
          refine wpList_nil ?_
          by_cases hlt : k < n
          · have t1 : decide ((k : Int) < (n : Int)) = true := decide_eq_true (by omega)
            rw [t1]
            clear t1
            obtain ⟨p, hp⟩ : ∃ p, r.cp[k]? = some p := ⟨_, List.getElem?_eq_getElem (by rw [← HN.out]; exact hlt)⟩
            obtain ⟨b, off, hx, hc⟩ := ix_place (HF.out.cp.later HK.out.loc.below) k p hp
            have HX : Hid ((∀ w', (Instr.indexAt 24 vc (.int .i64 (k : Nat))).run Try.prog w' = .ok (.pointer (some ⟨b, off, none⟩)) w') ∧ (∀ j u, (pcells p)[j]? = some u → wr.cell? ⟨b, off + j, none⟩ = some u) ∧ r.cp[k]? = some p ∧ ((0 ≤ p.dev ∧ p.dev ≤ 11) ∧ (0 ≤ p.pl ∧ p.pl ≤ 4095) ∧ (0 ≤ p.len ∧ p.len ≤ 255)) ∧ (encPs (r.cp.take k)).length ≤ 40) := ⟨hx, hc, hp, HM.out.ok p (List.mem_of_getElem? hp), take_len _ _ (by rw [← HN.out]; exact hk) HM.out.few⟩
            clear hx hc hp
            go_upto_region 18 with fail
            refine wp_region_lit ?_
            refine wl rfl (.pointer (some ⟨q, 0 + 38, none⟩)) _ (run_fieldOp' f26_7 (.tmp 1) rfl q (0) rfl) ?_
            simp only [Act.put, List.setIfInBounds_toArray, List.set_cons_succ, List.set_cons_zero]
            refine wl rfl vc _ (run_load1 o24 (.tmp 59) rfl q (0 + 38) rfl vc ((HK.out.loc.at 0 rfl).at 38 _ (rcB vc HF.out.root 4))) ?_
            simp only [Act.put, List.setIfInBounds_toArray, List.set_cons_succ, List.set_cons_zero]
            refine wl rfl (.int .i64 (k : Nat)) _ (run_mvZ (.tmp 6) rfl (.int .i64 (k : Nat)) rfl) ?_
            simp only [Act.put, List.setIfInBounds_toArray, List.set_cons_succ, List.set_cons_zero]
            refine wl rfl (.pointer (some ⟨b, off, none⟩)) _ (run_idx (.tmp 60) (.tmp 61) rfl vc _ _ rfl rfl HX.out.1) ?_
            simp only [Act.put, List.setIfInBounds_toArray, List.set_cons_succ, List.set_cons_zero]
            refine wl rfl (.agg (pcells p).toArray) _ (run_loadA ag43 (.tmp 62) rfl b (off) rfl (pcells p) rfl HX.out.2.1) ?_
            simp only [Act.put, List.setIfInBounds_toArray, List.set_cons_succ, List.set_cons_zero]
            refine wl rfl (ptr wr.heap.size) _ (run_allocA (pcells ⟨0, 0, 0, false⟩) zero43 rfl) ?_
            obtain ⟨q7, hq⟩ : ∃ q, q = wr.heap.size := ⟨_, rfl⟩
            obtain ⟨w7, hw⟩ : ∃ W, W = wr.alloc (.cells (pcells ⟨0, 0, 0, false⟩).toArray 43) := ⟨_, rfl⟩
            have K1 : Hid (Bt w w7 [(q, 26, rcells r vc), (q7, 43, pcells ⟨0, 0, 0, false⟩)] u4 (encH r ++ encPs (r.cp.take k))) := hq ▸ hw ▸ HK.out.box 43 (pcells ⟨0, 0, 0, false⟩) (by decide)
            rw [← hq, ← hw]
            clear hq hw
            simp only [Act.put, List.setIfInBounds_toArray, List.set_cons_succ, List.set_cons_zero]
            have hst := run_storeVar ag43 w7 q7 0 43 (pcells ⟨0, 0, 0, false⟩) (pcells p) rfl (K1.out.loc.at 1 rfl) (by simp [pcells]) (pcells_one p)
            rw [splice43] at hst
            refine wlS rfl rfl _ (run_stV (.tmp 7) (.tmp 63) rfl q7 0 rfl _ rfl hst) ?_
            obtain ⟨w8, hw⟩ : ∃ W, W = w7.setRow q7 (pcells p).toArray := ⟨_, rfl⟩
            have K2 : Hid (Bt w w8 [(q, 26, rcells r vc), (q7, 43, pcells p)] u4 (encH r ++ encPs (r.cp.take k))) := hw ▸ K1.out.set 1 rfl ((K1.out.loc.at 1 rfl).setRow (pcells p)) ((Ch.refl (· = q7) w7).setRow (g := q7) (Or.inl rfl) _)
            rw [← hw]
            clear hw hst K1
            refine wpList_nil ?_
            go_upto_region 19 with fail
            refine wp_region_lit ?_
            refine wl rfl u4 _ (run_mvZ (.tmp 4) rfl u4 rfl) ?_
            simp only [Act.put, List.setIfInBounds_toArray, List.set_cons_succ, List.set_cons_zero]
            refine wl rfl (.pointer (some ⟨q7, 0 + 0, none⟩)) _ (run_fieldOp' f43_0 (.tmp 7) rfl q7 (0) rfl) ?_
            simp only [Act.put, List.setIfInBounds_toArray, List.set_cons_succ, List.set_cons_zero]
            refine wl rfl (.int .i64 p.dev) _ (run_load1 o3 (.tmp 65) rfl q7 (0 + 0) rfl (.int .i64 p.dev) ((K2.out.loc.at 1 rfl).at 0 _ rfl)) ?_
            simp only [Act.put, List.setIfInBounds_toArray, List.set_cons_succ, List.set_cons_zero]
            refine wpList_callW eN24 [.tmp 64, .tmp 66, .const (.int .i64 1)] _ rfl rfl [u4, (.int .i64 ((p.dev.toNat : Nat) : Int)), (.int .i64 1)] (by rw [show ((p.dev.toNat : Nat) : Int) = p.dev by have := HX.out.2.2.2.1.1.1; omega]; rfl) ?_
            refine (Fr.put_grow u4 (encH r ++ encPs (r.cp.take k)) p.dev.toNat 1 w.heap.size w8 K2.out.own K2.out.size (by decide) (by have := (show (encH r ++ encPs (r.cp.take k)).length ≤ 1000 by have h1 := encH_length HM.out; have h2 := HX.out.2.2.2.2; simp; omega); simp at this ⊢; omega) (K2.out.own.hasBlock (by simp [encH, encE]))).mono ?_
            rintro e w9p ⟨v9p, rfl, o_, g_⟩
            refine ⟨_, rfl, ?_⟩
            have K3 : Hid (Bt w w9p [(q, 26, rcells r vc), (q7, 43, pcells p)] v9p (encH r ++ encPs (r.cp.take k) ++ Fr.Frame.be 1 p.dev.toNat)) := K2.out.grow g_ o_
            clear o_ g_ K2
            simp only [Act.put, List.setIfInBounds_toArray, List.set_cons_succ, List.set_cons_zero]
            refine wl rfl v9p _ (run_asZ (.tmp 67) rfl v9p rfl) ?_
            simp only [Act.put, List.setIfInBounds_toArray, List.set_cons_succ, List.set_cons_zero]
            refine wpList_nil ?_
            go_upto_region 20 with fail
            refine wp_region_lit ?_
            refine wl rfl v9p _ (run_mvZ (.tmp 4) rfl v9p rfl) ?_
            simp only [Act.put, List.setIfInBounds_toArray, List.set_cons_succ, List.set_cons_zero]
            refine wl rfl (.pointer (some ⟨q7, 0 + 1, none⟩)) _ (run_fieldOp' f43_1 (.tmp 7) rfl q7 (0) rfl) ?_
            simp only [Act.put, List.setIfInBounds_toArray, List.set_cons_succ, List.set_cons_zero]
            refine wl rfl (.int .i64 p.pl) _ (run_load1 o3 (.tmp 69) rfl q7 (0 + 1) rfl (.int .i64 p.pl) ((K3.out.loc.at 1 rfl).at 1 _ rfl)) ?_
            simp only [Act.put, List.setIfInBounds_toArray, List.set_cons_succ, List.set_cons_zero]
            refine wpList_callW eN24 [.tmp 68, .tmp 70, .const (.int .i64 2)] _ rfl rfl [v9p, (.int .i64 ((p.pl.toNat : Nat) : Int)), (.int .i64 2)] (by rw [show ((p.pl.toNat : Nat) : Int) = p.pl by have := HX.out.2.2.2.1.2.1.1; omega]; rfl) ?_
            refine (Fr.put_grow v9p (encH r ++ encPs (r.cp.take k) ++ Fr.Frame.be 1 p.dev.toNat) p.pl.toNat 2 w.heap.size w9p K3.out.own K3.out.size (by decide) (by have h1 := encH_length HM.out; have h2 := HX.out.2.2.2.2; simp [Fr.Frame.be_length]; omega) (K3.out.own.hasBlock (by simp [encH, encE]))).mono ?_
            rintro e w10p ⟨v10p, rfl, o_, g_⟩
            refine ⟨_, rfl, ?_⟩
            have K4 : Hid (Bt w w10p [(q, 26, rcells r vc), (q7, 43, pcells p)] v10p (encH r ++ encPs (r.cp.take k) ++ Fr.Frame.be 1 p.dev.toNat ++ Fr.Frame.be 2 p.pl.toNat)) := K3.out.grow g_ o_
            clear o_ g_ K3
            simp only [Act.put, List.setIfInBounds_toArray, List.set_cons_succ, List.set_cons_zero]
            refine wl rfl v10p _ (run_asZ (.tmp 71) rfl v10p rfl) ?_
            simp only [Act.put, List.setIfInBounds_toArray, List.set_cons_succ, List.set_cons_zero]
            refine wpList_nil ?_
            go_upto_region 21 with fail
            refine wp_region_lit ?_
            refine wl rfl v10p _ (run_mvZ (.tmp 4) rfl v10p rfl) ?_
            simp only [Act.put, List.setIfInBounds_toArray, List.set_cons_succ, List.set_cons_zero]
            refine wl rfl (.pointer (some ⟨q7, 0 + 2, none⟩)) _ (run_fieldOp' f43_2 (.tmp 7) rfl q7 (0) rfl) ?_
            simp only [Act.put, List.setIfInBounds_toArray, List.set_cons_succ, List.set_cons_zero]
            refine wl rfl (.int .i64 p.len) _ (run_load1 o3 (.tmp 73) rfl q7 (0 + 2) rfl (.int .i64 p.len) ((K4.out.loc.at 1 rfl).at 2 _ rfl)) ?_
            simp only [Act.put, List.setIfInBounds_toArray, List.set_cons_succ, List.set_cons_zero]
            refine wpList_callW eN24 [.tmp 72, .tmp 74, .const (.int .i64 1)] _ rfl rfl [v10p, (.int .i64 ((p.len.toNat : Nat) : Int)), (.int .i64 1)] (by rw [show ((p.len.toNat : Nat) : Int) = p.len by have := HX.out.2.2.2.1.2.2.1; omega]; rfl) ?_
            refine (Fr.put_grow v10p (encH r ++ encPs (r.cp.take k) ++ Fr.Frame.be 1 p.dev.toNat ++ Fr.Frame.be 2 p.pl.toNat) p.len.toNat 1 w.heap.size w10p K4.out.own K4.out.size (by decide) (by have h1 := encH_length HM.out; have h2 := HX.out.2.2.2.2; simp [Fr.Frame.be_length]; omega) (K4.out.own.hasBlock (by simp [encH, encE]))).mono ?_
            rintro e w11p ⟨v11p, rfl, o_, g_⟩
            refine ⟨_, rfl, ?_⟩
            have K5 : Hid (Bt w w11p [(q, 26, rcells r vc), (q7, 43, pcells p)] v11p (encH r ++ encPs (r.cp.take k) ++ Fr.Frame.be 1 p.dev.toNat ++ Fr.Frame.be 2 p.pl.toNat ++ Fr.Frame.be 1 p.len.toNat)) := K4.out.grow g_ o_
            clear o_ g_ K4
            simp only [Act.put, List.setIfInBounds_toArray, List.set_cons_succ, List.set_cons_zero]
            refine wl rfl v11p _ (run_asZ (.tmp 75) rfl v11p rfl) ?_
            simp only [Act.put, List.setIfInBounds_toArray, List.set_cons_succ, List.set_cons_zero]
            refine wpList_nil ?_
            obtain ⟨bb, hbb⟩ : ∃ b, b = p.bad := ⟨_, rfl⟩
            have HBB : Hid (p.bad = bb) := hbb.symm
            clear hbb
            cases bb with
            | false =>
              go_upto_region 22 with fail
              refine wp_region_lit ?_
              refine wl rfl (.pointer (some ⟨q7, 0 + 3, none⟩)) _ (run_fieldOp' f43_3 (.tmp 7) rfl q7 (0) rfl) ?_
              simp only [Act.put, List.setIfInBounds_toArray, List.set_cons_succ, List.set_cons_zero]
              refine wl rfl (.bool false) _ (run_load1 o4 (.tmp 76) rfl q7 (0 + 3) rfl (.bool false) ((K5.out.loc.at 1 rfl).at 3 _ (by rw [← HBB.out]; rfl))) ?_
              simp only [Act.put, List.setIfInBounds_toArray, List.set_cons_succ, List.set_cons_zero]
              refine wpList_nil ?_
              go_upto_region 24 with fail
              refine wp_region_lit ?_
              refine wl rfl v11p _ (run_mvZ (.tmp 4) rfl v11p rfl) ?_
              simp only [Act.put, List.setIfInBounds_toArray, List.set_cons_succ, List.set_cons_zero]
              refine wl rfl (whole w11p.heap.size 1) _ (run_litB1 (.const (.int .u8 0)) rfl 0 rfl) ?_
              obtain ⟨vl, hvl⟩ : ∃ v, v = whole w11p.heap.size 1 := ⟨_, rfl⟩
              obtain ⟨w12, hw⟩ : ∃ W, W = w11p.alloc (.cells (bcells [0]).toArray 5) := ⟨_, rfl⟩
              have K6 : Hid (Bt w w12 [(q, 26, rcells r vc), (q7, 43, pcells p)] v11p (encH r ++ encPs (r.cp.take k) ++ Fr.Frame.be 1 p.dev.toNat ++ Fr.Frame.be 2 p.pl.toNat ++ Fr.Frame.be 1 p.len.toNat) ∧ SliceIn w12 vl [0]) := ⟨hw ▸ K5.out.later (below_alloc w11p _), hvl ▸ hw ▸ whole_slice (Row.new w11p 5 (bcells [0])) (one_lt (by decide)) (by simp)⟩
              rw [← hvl, ← hw]
              clear hvl hw K5
              simp only [Act.put, List.setIfInBounds_toArray, List.set_cons_succ, List.set_cons_zero]
              refine wl_bgrow (.tmp 81) (.tmp 82) rfl rfl w.heap.size v11p vl (encH r ++ encPs (r.cp.take k) ++ Fr.Frame.be 1 p.dev.toNat ++ Fr.Frame.be 2 p.pl.toNat ++ Fr.Frame.be 1 p.len.toNat) [0] rfl K6.out.1.own rfl K6.out.2 (by have h1 := encH_length HM.out; have h2 := HX.out.2.2.2.2; simp [Fr.Frame.be_length]; omega) K6.out.1.size ?_
              intro v13 w13 o_ g_
              have K7 : Hid (EnK w q r vc w13 v13 (k + 1)) := (by
                show Bt _ _ _ _ _
                have h2 := (K6.out.1.grow g_ o_).drop 1
                have e1 : bitB p.bad 1 = 0 := (by rw [HBB.out]; rfl)
                rw [encPs_take _ _ _ HX.out.2.2.1]
                simpa [encP, e1] using h2)
              clear o_ g_ K6
              simp only [Act.put, List.setIfInBounds_toArray, List.set_cons_succ, List.set_cons_zero]
              refine wl rfl v13 _ (run_asZ (.tmp 83) rfl v13 rfl) ?_
              simp only [Act.put, List.setIfInBounds_toArray, List.set_cons_succ, List.set_cons_zero]
              refine wpList_nil ?_
              go_wp2_with fail
              refine ⟨⟨k + 1, by go_num, by omega, K7.out⟩, ?_⟩
              simp [intOf]; omega
            | true =>
              go_upto_region 22 with fail
              refine wp_region_lit ?_
              refine wl rfl (.pointer (some ⟨q7, 0 + 3, none⟩)) _ (run_fieldOp' f43_3 (.tmp 7) rfl q7 (0) rfl) ?_
              simp only [Act.put, List.setIfInBounds_toArray, List.set_cons_succ, List.set_cons_zero]
              refine wl rfl (.bool true) _ (run_load1 o4 (.tmp 76) rfl q7 (0 + 3) rfl (.bool true) ((K5.out.loc.at 1 rfl).at 3 _ (by rw [← HBB.out]; rfl))) ?_
              simp only [Act.put, List.setIfInBounds_toArray, List.set_cons_succ, List.set_cons_zero]
              refine wpList_nil ?_
              go_upto_region 23 with fail
              refine wp_region_lit ?_
              refine wl rfl v11p _ (run_mvZ (.tmp 4) rfl v11p rfl) ?_
              simp only [Act.put, List.setIfInBounds_toArray, List.set_cons_succ, List.set_cons_zero]
              refine wl rfl (whole w11p.heap.size 1) _ (run_litB1 (.const (.int .u8 1)) rfl 1 rfl) ?_
              obtain ⟨vl, hvl⟩ : ∃ v, v = whole w11p.heap.size 1 := ⟨_, rfl⟩
              obtain ⟨w12, hw⟩ : ∃ W, W = w11p.alloc (.cells (bcells [1]).toArray 5) := ⟨_, rfl⟩
              have K6 : Hid (Bt w w12 [(q, 26, rcells r vc), (q7, 43, pcells p)] v11p (encH r ++ encPs (r.cp.take k) ++ Fr.Frame.be 1 p.dev.toNat ++ Fr.Frame.be 2 p.pl.toNat ++ Fr.Frame.be 1 p.len.toNat) ∧ SliceIn w12 vl [1]) := ⟨hw ▸ K5.out.later (below_alloc w11p _), hvl ▸ hw ▸ whole_slice (Row.new w11p 5 (bcells [1])) (one_lt (by decide)) (by simp)⟩
              rw [← hvl, ← hw]
              clear hvl hw K5
              simp only [Act.put, List.setIfInBounds_toArray, List.set_cons_succ, List.set_cons_zero]
              refine wl_bgrow (.tmp 78) (.tmp 79) rfl rfl w.heap.size v11p vl (encH r ++ encPs (r.cp.take k) ++ Fr.Frame.be 1 p.dev.toNat ++ Fr.Frame.be 2 p.pl.toNat ++ Fr.Frame.be 1 p.len.toNat) [1] rfl K6.out.1.own rfl K6.out.2 (by have h1 := encH_length HM.out; have h2 := HX.out.2.2.2.2; simp [Fr.Frame.be_length]; omega) K6.out.1.size ?_
              intro v13 w13 o_ g_
              have K7 : Hid (EnK w q r vc w13 v13 (k + 1)) := (by
                show Bt _ _ _ _ _
                have h2 := (K6.out.1.grow g_ o_).drop 1
                have e1 : bitB p.bad 1 = 1 := (by rw [HBB.out]; rfl)
                rw [encPs_take _ _ _ HX.out.2.2.1]
                simpa [encP, e1] using h2)
              clear o_ g_ K6
              simp only [Act.put, List.setIfInBounds_toArray, List.set_cons_succ, List.set_cons_zero]
              refine wl rfl v13 _ (run_asZ (.tmp 80) rfl v13 rfl) ?_
              simp only [Act.put, List.setIfInBounds_toArray, List.set_cons_succ, List.set_cons_zero]
              refine wpList_nil ?_
              go_wp2_with fail
              refine ⟨⟨k + 1, by go_num, by omega, K7.out⟩, ?_⟩
              simp [intOf]; omega
          · have t1 : decide ((k : Int) < (n : Int)) = false := decide_eq_false (by omega)
            rw [t1]
            clear t1
            have ek : k = n := by omega
            have KE : Hid (Bt w wr [(q, 26, rcells r vc)] u4 (enc r)) := (by
              show Bt _ _ _ _ _
              have h2 : Bt _ _ _ _ _ := HK.out
              rw [ek, HN.out, List.take_length, encH_all] at h2
              exact h2)
            clear ek
            go_wp2_with fail
            rw [HPQ.out]
            exact ⟨_, _, rfl, KE.out.loc.below, Or.inr ⟨HM.out.may, KE.out.own, rfl⟩⟩
      | true =>
        go_upto_region 9 with fail
        refine wp_region_lit ?_
        refine wl rfl (.int .i64 0) _ (run_asZ (.const (.int .i64 0)) rfl (.int .i64 0) rfl) ?_
        simp only [Act.put, List.setIfInBounds_toArray, List.set_cons_succ, List.set_cons_zero]
        refine wpList_nil ?_
        go_upto_region 10 with fail
        refine wp_region_lit ?_
        refine wl rfl (.pointer (some ⟨q, 0 + 36, none⟩)) _ (run_fieldOp' f26_5 (.tmp 1) rfl q (0) rfl) ?_
        simp only [Act.put, List.setIfInBounds_toArray, List.set_cons_succ, List.set_cons_zero]
        refine wl rfl (.bool false) _ (run_load1 o4 (.tmp 37) rfl q (0 + 36) rfl (.bool false) ((B8.out.loc.at 0 rfl).at 36 _ (by have := rcB vc HF.out.root (r := r) 2; rw [this, HBG.out.1]; rfl))) ?_
        simp only [Act.put, List.setIfInBounds_toArray, List.set_cons_succ, List.set_cons_zero]
        refine wpList_nil ?_
        go_upto_region 12 with fail
        refine wp_region_lit ?_
        refine wl rfl (.pointer (some ⟨q, 0 + 37, none⟩)) _ (run_fieldOp' f26_6 (.tmp 1) rfl q (0) rfl) ?_
        simp only [Act.put, List.setIfInBounds_toArray, List.set_cons_succ, List.set_cons_zero]
        refine wl rfl (.bool true) _ (run_load1 o4 (.tmp 39) rfl q (0 + 37) rfl (.bool true) ((B8.out.loc.at 0 rfl).at 37 _ (by have := rcB vc HF.out.root (r := r) 3; rw [this, HBG.out.2]; rfl))) ?_
        simp only [Act.put, List.setIfInBounds_toArray, List.set_cons_succ, List.set_cons_zero]
        refine wpList_nil ?_
        go_upto_region 13 with fail
        refine wp_region_lit ?_
        refine wl rfl (.int .i64 0) _ (run_mvZ (.tmp 5) rfl (.int .i64 0) rfl) ?_
        simp only [Act.put, List.setIfInBounds_toArray, List.set_cons_succ, List.set_cons_zero]
        refine wl rfl (.int .i64 2) _ (run_binOp' (.tmp 41) (.const (.int .i64 2)) rfl _ _ _ rfl rfl rfl (by kernel_rfl)) ?_
        simp only [Act.put, List.setIfInBounds_toArray, List.set_cons_succ, List.set_cons_zero]
        refine wl rfl (.int .i64 2) _ (run_asZ (.tmp 42) rfl (.int .i64 2) rfl) ?_
        simp only [Act.put, List.setIfInBounds_toArray, List.set_cons_succ, List.set_cons_zero]
        refine wpList_nil ?_
        go_upto_region 14 with fail
        refine wp_region_lit ?_
        refine wl rfl v8 _ (run_mvZ (.tmp 4) rfl v8 rfl) ?_
        simp only [Act.put, List.setIfInBounds_toArray, List.set_cons_succ, List.set_cons_zero]
        refine wl rfl (.int .i64 2) _ (run_mvZ (.tmp 5) rfl (.int .i64 2) rfl) ?_
        simp only [Act.put, List.setIfInBounds_toArray, List.set_cons_succ, List.set_cons_zero]
        refine wl rfl (.int .u8 (2 : Nat)) _ (run_toU8n (.tmp 44) rfl 2 (by decide) rfl) ?_
        simp only [Act.put, List.setIfInBounds_toArray, List.set_cons_succ, List.set_cons_zero]
        refine wl rfl (.pointer (some ⟨q, 0 + 38, none⟩)) _ (run_fieldOp' f26_7 (.tmp 1) rfl q (0) rfl) ?_
        simp only [Act.put, List.setIfInBounds_toArray, List.set_cons_succ, List.set_cons_zero]
        refine wl rfl vc _ (run_load1 o24 (.tmp 46) rfl q (0 + 38) rfl vc ((B8.out.loc.at 0 rfl).at 38 _ (rcB vc HF.out.root 4))) ?_
        simp only [Act.put, List.setIfInBounds_toArray, List.set_cons_succ, List.set_cons_zero]
        refine wl rfl (.int .i64 (n : Nat)) _ (run_lenPn HF.out.cp HN.out (.tmp 47) rfl rfl) ?_
        simp only [Act.put, List.setIfInBounds_toArray, List.set_cons_succ, List.set_cons_zero]
        refine wl rfl (.int .u8 (n : Nat)) _ (run_toU8n (.tmp 48) rfl n (by have := HM.out.few; have := HN.out; omega) rfl) ?_
        simp only [Act.put, List.setIfInBounds_toArray, List.set_cons_succ, List.set_cons_zero]
        refine wl rfl (whole w8.heap.size 2) _ (run_litB2 (.tmp 45) (.tmp 49) rfl 2 n rfl rfl) ?_
        obtain ⟨vl, hvl⟩ : ∃ v, v = whole w8.heap.size 2 := ⟨_, rfl⟩
        obtain ⟨w9, hw⟩ : ∃ W, W = w8.alloc (.cells (bcells [2, n]).toArray 5) := ⟨_, rfl⟩
        have B9 : Hid (Bt w w9 [(q, 26, rcells r vc)] v8 (encE r.id r.length r.root ++ Fr.Frame.be 4 r.index.toNat ++ Fr.Frame.be 6 r.expiry.toNat) ∧ SliceIn w9 vl [2, n]) := ⟨hw ▸ B8.out.later (below_alloc w8 _), hvl ▸ hw ▸ whole_slice (Row.new w8 5 (bcells [2, n])) (fun c hc => by have h3 := HM.out.few; have h4 := HN.out; simp at hc; omega) (by simp)⟩
        rw [← hvl, ← hw]
        clear hvl hw B8
        simp only [Act.put, List.setIfInBounds_toArray, List.set_cons_succ, List.set_cons_zero]
        refine wl_bgrow (.tmp 43) (.tmp 50) rfl rfl w.heap.size v8 vl (encE r.id r.length r.root ++ Fr.Frame.be 4 r.index.toNat ++ Fr.Frame.be 6 r.expiry.toNat) [2, n] rfl B9.out.1.own rfl B9.out.2 (by have h1 := HM.out.id; have h2 := HF.out.root; simp [encE_length, Fr.Frame.be_length]; omega) B9.out.1.size ?_
        intro v10 w10 o_ g_
        have B10 : Hid (EnK w q r vc w10 v10 0) := (by
          show Bt _ _ _ _ _
          have h := B9.out.1.grow g_ o_
          have e : bitB r.hold 1 + bitB r.gone 2 = 2 := (by rw [HBG.out.1, HBG.out.2]; rfl)
          rw [List.take_zero]
          simpa [encH, encPs, e, ← HN.out] using h)
        clear o_ g_ B9
        simp only [Act.put, List.setIfInBounds_toArray, List.set_cons_succ, List.set_cons_zero]
        refine wl rfl v10 _ (run_asZ (.tmp 51) rfl v10 rfl) ?_
        simp only [Act.put, List.setIfInBounds_toArray, List.set_cons_succ, List.set_cons_zero]
        refine wpList_nil ?_
        go_upto_region 15 with fail
        refine wp_region_lit ?_
        refine wl rfl (.int .i64 0) _ (run_asZ (.const (.int .i64 0)) rfl (.int .i64 0) rfl) ?_
        simp only [Act.put, List.setIfInBounds_toArray, List.set_cons_succ, List.set_cons_zero]
        refine wpList_nil ?_
        clear HBG
        go_wp2_with fail
        go_loopw [4, 6] (fun vb vk W => ∃ k : Nat, vk = .int .i64 (k : Nat) ∧ k ≤ n ∧ EnK w q r vc W vb k) (fun _ vk _ => n - (intOf vk).toNat)
        case atStart => exact ⟨0, rfl, Nat.zero_le _, B10.out⟩
        case round =>
          obtain ⟨k, rfl, hk, hS0⟩ := hrel
          have HK : Hid (EnK w q r vc wr u4 k) := hS0
          clear hS0 B10
          have h8 : n ≤ 8 := (by rw [HN.out]; exact HM.out.few)
          go_upto_region 16 with fail
          refine wp_region_lit ?_
          refine wl rfl (.int .i64 (k : Nat)) _ (run_mvZ (.tmp 6) rfl (.int .i64 (k : Nat)) rfl) ?_
          simp only [Act.put, List.setIfInBounds_toArray, List.set_cons_succ, List.set_cons_zero]
          refine wl rfl (.pointer (some ⟨q, 0 + 38, none⟩)) _ (run_fieldOp' f26_7 (.tmp 1) rfl q (0) rfl) ?_
          simp only [Act.put, List.setIfInBounds_toArray, List.set_cons_succ, List.set_cons_zero]
          refine wl rfl vc _ (run_load1 o24 (.tmp 53) rfl q (0 + 38) rfl vc ((HK.out.loc.at 0 rfl).at 38 _ (rcB vc HF.out.root 4))) ?_
          simp only [Act.put, List.setIfInBounds_toArray, List.set_cons_succ, List.set_cons_zero]
          refine wl rfl (.int .i64 (n : Nat)) _ (run_lenPn HF.out.cp HN.out (.tmp 54) rfl rfl) ?_
          simp only [Act.put, List.setIfInBounds_toArray, List.set_cons_succ, List.set_cons_zero]
          refine wl rfl (.bool (decide ((k : Int) < (n : Int)))) _ (run_lssZ (.tmp 52) (.tmp 55) rfl (k : Nat) (n : Nat) rfl rfl _ rfl) ?_
          simp only [Act.put, List.setIfInBounds_toArray, List.set_cons_succ, List.set_cons_zero]
          refine wpList_nil ?_
          by_cases hlt : k < n
          · have t1 : decide ((k : Int) < (n : Int)) = true := decide_eq_true (by omega)
            rw [t1]
            clear t1
            obtain ⟨p, hp⟩ : ∃ p, r.cp[k]? = some p := ⟨_, List.getElem?_eq_getElem (by rw [← HN.out]; exact hlt)⟩
            obtain ⟨b, off, hx, hc⟩ := ix_place (HF.out.cp.later HK.out.loc.below) k p hp
            have HX : Hid ((∀ w', (Instr.indexAt 24 vc (.int .i64 (k : Nat))).run Try.prog w' = .ok (.pointer (some ⟨b, off, none⟩)) w') ∧ (∀ j u, (pcells p)[j]? = some u → wr.cell? ⟨b, off + j, none⟩ = some u) ∧ r.cp[k]? = some p ∧ ((0 ≤ p.dev ∧ p.dev ≤ 11) ∧ (0 ≤ p.pl ∧ p.pl ≤ 4095) ∧ (0 ≤ p.len ∧ p.len ≤ 255)) ∧ (encPs (r.cp.take k)).length ≤ 40) := ⟨hx, hc, hp, HM.out.ok p (List.mem_of_getElem? hp), take_len _ _ (by rw [← HN.out]; exact hk) HM.out.few⟩
            clear hx hc hp
            go_upto_region 18 with fail
            refine wp_region_lit ?_
            refine wl rfl (.pointer (some ⟨q, 0 + 38, none⟩)) _ (run_fieldOp' f26_7 (.tmp 1) rfl q (0) rfl) ?_
            simp only [Act.put, List.setIfInBounds_toArray, List.set_cons_succ, List.set_cons_zero]
            refine wl rfl vc _ (run_load1 o24 (.tmp 59) rfl q (0 + 38) rfl vc ((HK.out.loc.at 0 rfl).at 38 _ (rcB vc HF.out.root 4))) ?_
            simp only [Act.put, List.setIfInBounds_toArray, List.set_cons_succ, List.set_cons_zero]
            refine wl rfl (.int .i64 (k : Nat)) _ (run_mvZ (.tmp 6) rfl (.int .i64 (k : Nat)) rfl) ?_
            simp only [Act.put, List.setIfInBounds_toArray, List.set_cons_succ, List.set_cons_zero]
            refine wl rfl (.pointer (some ⟨b, off, none⟩)) _ (run_idx (.tmp 60) (.tmp 61) rfl vc _ _ rfl rfl HX.out.1) ?_
            simp only [Act.put, List.setIfInBounds_toArray, List.set_cons_succ, List.set_cons_zero]
            refine wl rfl (.agg (pcells p).toArray) _ (run_loadA ag43 (.tmp 62) rfl b (off) rfl (pcells p) rfl HX.out.2.1) ?_
            simp only [Act.put, List.setIfInBounds_toArray, List.set_cons_succ, List.set_cons_zero]
            refine wl rfl (ptr wr.heap.size) _ (run_allocA (pcells ⟨0, 0, 0, false⟩) zero43 rfl) ?_
            obtain ⟨q7, hq⟩ : ∃ q, q = wr.heap.size := ⟨_, rfl⟩
            obtain ⟨w7, hw⟩ : ∃ W, W = wr.alloc (.cells (pcells ⟨0, 0, 0, false⟩).toArray 43) := ⟨_, rfl⟩
            have K1 : Hid (Bt w w7 [(q, 26, rcells r vc), (q7, 43, pcells ⟨0, 0, 0, false⟩)] u4 (encH r ++ encPs (r.cp.take k))) := hq ▸ hw ▸ HK.out.box 43 (pcells ⟨0, 0, 0, false⟩) (by decide)
            rw [← hq, ← hw]
            clear hq hw
            simp only [Act.put, List.setIfInBounds_toArray, List.set_cons_succ, List.set_cons_zero]
            have hst := run_storeVar ag43 w7 q7 0 43 (pcells ⟨0, 0, 0, false⟩) (pcells p) rfl (K1.out.loc.at 1 rfl) (by simp [pcells]) (pcells_one p)
            rw [splice43] at hst
            refine wlS rfl rfl _ (run_stV (.tmp 7) (.tmp 63) rfl q7 0 rfl _ rfl hst) ?_
            obtain ⟨w8, hw⟩ : ∃ W, W = w7.setRow q7 (pcells p).toArray := ⟨_, rfl⟩
            have K2 : Hid (Bt w w8 [(q, 26, rcells r vc), (q7, 43, pcells p)] u4 (encH r ++ encPs (r.cp.take k))) := hw ▸ K1.out.set 1 rfl ((K1.out.loc.at 1 rfl).setRow (pcells p)) ((Ch.refl (· = q7) w7).setRow (g := q7) (Or.inl rfl) _)
            rw [← hw]
            clear hw hst K1
            refine wpList_nil ?_
            go_upto_region 19 with fail
            refine wp_region_lit ?_
            refine wl rfl u4 _ (run_mvZ (.tmp 4) rfl u4 rfl) ?_
            simp only [Act.put, List.setIfInBounds_toArray, List.set_cons_succ, List.set_cons_zero]
            refine wl rfl (.pointer (some ⟨q7, 0 + 0, none⟩)) _ (run_fieldOp' f43_0 (.tmp 7) rfl q7 (0) rfl) ?_
            simp only [Act.put, List.setIfInBounds_toArray, List.set_cons_succ, List.set_cons_zero]
            refine wl rfl (.int .i64 p.dev) _ (run_load1 o3 (.tmp 65) rfl q7 (0 + 0) rfl (.int .i64 p.dev) ((K2.out.loc.at 1 rfl).at 0 _ rfl)) ?_
            simp only [Act.put, List.setIfInBounds_toArray, List.set_cons_succ, List.set_cons_zero]
            refine wpList_callW eN24 [.tmp 64, .tmp 66, .const (.int .i64 1)] _ rfl rfl [u4, (.int .i64 ((p.dev.toNat : Nat) : Int)), (.int .i64 1)] (by rw [show ((p.dev.toNat : Nat) : Int) = p.dev by have := HX.out.2.2.2.1.1.1; omega]; rfl) ?_
            refine (Fr.put_grow u4 (encH r ++ encPs (r.cp.take k)) p.dev.toNat 1 w.heap.size w8 K2.out.own K2.out.size (by decide) (by have := (show (encH r ++ encPs (r.cp.take k)).length ≤ 1000 by have h1 := encH_length HM.out; have h2 := HX.out.2.2.2.2; simp; omega); simp at this ⊢; omega) (K2.out.own.hasBlock (by simp [encH, encE]))).mono ?_
            rintro e w9p ⟨v9p, rfl, o_, g_⟩
            refine ⟨_, rfl, ?_⟩
            have K3 : Hid (Bt w w9p [(q, 26, rcells r vc), (q7, 43, pcells p)] v9p (encH r ++ encPs (r.cp.take k) ++ Fr.Frame.be 1 p.dev.toNat)) := K2.out.grow g_ o_
            clear o_ g_ K2
            simp only [Act.put, List.setIfInBounds_toArray, List.set_cons_succ, List.set_cons_zero]
            refine wl rfl v9p _ (run_asZ (.tmp 67) rfl v9p rfl) ?_
            simp only [Act.put, List.setIfInBounds_toArray, List.set_cons_succ, List.set_cons_zero]
            refine wpList_nil ?_
            go_upto_region 20 with fail
            refine wp_region_lit ?_
            refine wl rfl v9p _ (run_mvZ (.tmp 4) rfl v9p rfl) ?_
            simp only [Act.put, List.setIfInBounds_toArray, List.set_cons_succ, List.set_cons_zero]
            refine wl rfl (.pointer (some ⟨q7, 0 + 1, none⟩)) _ (run_fieldOp' f43_1 (.tmp 7) rfl q7 (0) rfl) ?_
            simp only [Act.put, List.setIfInBounds_toArray, List.set_cons_succ, List.set_cons_zero]
            refine wl rfl (.int .i64 p.pl) _ (run_load1 o3 (.tmp 69) rfl q7 (0 + 1) rfl (.int .i64 p.pl) ((K3.out.loc.at 1 rfl).at 1 _ rfl)) ?_
            simp only [Act.put, List.setIfInBounds_toArray, List.set_cons_succ, List.set_cons_zero]
            refine wpList_callW eN24 [.tmp 68, .tmp 70, .const (.int .i64 2)] _ rfl rfl [v9p, (.int .i64 ((p.pl.toNat : Nat) : Int)), (.int .i64 2)] (by rw [show ((p.pl.toNat : Nat) : Int) = p.pl by have := HX.out.2.2.2.1.2.1.1; omega]; rfl) ?_
            refine (Fr.put_grow v9p (encH r ++ encPs (r.cp.take k) ++ Fr.Frame.be 1 p.dev.toNat) p.pl.toNat 2 w.heap.size w9p K3.out.own K3.out.size (by decide) (by have h1 := encH_length HM.out; have h2 := HX.out.2.2.2.2; simp [Fr.Frame.be_length]; omega) (K3.out.own.hasBlock (by simp [encH, encE]))).mono ?_
            rintro e w10p ⟨v10p, rfl, o_, g_⟩
            refine ⟨_, rfl, ?_⟩
            have K4 : Hid (Bt w w10p [(q, 26, rcells r vc), (q7, 43, pcells p)] v10p (encH r ++ encPs (r.cp.take k) ++ Fr.Frame.be 1 p.dev.toNat ++ Fr.Frame.be 2 p.pl.toNat)) := K3.out.grow g_ o_
            clear o_ g_ K3
            simp only [Act.put, List.setIfInBounds_toArray, List.set_cons_succ, List.set_cons_zero]
            refine wl rfl v10p _ (run_asZ (.tmp 71) rfl v10p rfl) ?_
            simp only [Act.put, List.setIfInBounds_toArray, List.set_cons_succ, List.set_cons_zero]
            refine wpList_nil ?_
            go_upto_region 21 with fail
            refine wp_region_lit ?_
            refine wl rfl v10p _ (run_mvZ (.tmp 4) rfl v10p rfl) ?_
            simp only [Act.put, List.setIfInBounds_toArray, List.set_cons_succ, List.set_cons_zero]
            refine wl rfl (.pointer (some ⟨q7, 0 + 2, none⟩)) _ (run_fieldOp' f43_2 (.tmp 7) rfl q7 (0) rfl) ?_
            simp only [Act.put, List.setIfInBounds_toArray, List.set_cons_succ, List.set_cons_zero]
            refine wl rfl (.int .i64 p.len) _ (run_load1 o3 (.tmp 73) rfl q7 (0 + 2) rfl (.int .i64 p.len) ((K4.out.loc.at 1 rfl).at 2 _ rfl)) ?_
            simp only [Act.put, List.setIfInBounds_toArray, List.set_cons_succ, List.set_cons_zero]
            refine wpList_callW eN24 [.tmp 72, .tmp 74, .const (.int .i64 1)] _ rfl rfl [v10p, (.int .i64 ((p.len.toNat : Nat) : Int)), (.int .i64 1)] (by rw [show ((p.len.toNat : Nat) : Int) = p.len by have := HX.out.2.2.2.1.2.2.1; omega]; rfl) ?_
            refine (Fr.put_grow v10p (encH r ++ encPs (r.cp.take k) ++ Fr.Frame.be 1 p.dev.toNat ++ Fr.Frame.be 2 p.pl.toNat) p.len.toNat 1 w.heap.size w10p K4.out.own K4.out.size (by decide) (by have h1 := encH_length HM.out; have h2 := HX.out.2.2.2.2; simp [Fr.Frame.be_length]; omega) (K4.out.own.hasBlock (by simp [encH, encE]))).mono ?_
            rintro e w11p ⟨v11p, rfl, o_, g_⟩
            refine ⟨_, rfl, ?_⟩
            have K5 : Hid (Bt w w11p [(q, 26, rcells r vc), (q7, 43, pcells p)] v11p (encH r ++ encPs (r.cp.take k) ++ Fr.Frame.be 1 p.dev.toNat ++ Fr.Frame.be 2 p.pl.toNat ++ Fr.Frame.be 1 p.len.toNat)) := K4.out.grow g_ o_
            clear o_ g_ K4
            simp only [Act.put, List.setIfInBounds_toArray, List.set_cons_succ, List.set_cons_zero]
            refine wl rfl v11p _ (run_asZ (.tmp 75) rfl v11p rfl) ?_
            simp only [Act.put, List.setIfInBounds_toArray, List.set_cons_succ, List.set_cons_zero]
            refine wpList_nil ?_
            obtain ⟨bb, hbb⟩ : ∃ b, b = p.bad := ⟨_, rfl⟩
            have HBB : Hid (p.bad = bb) := hbb.symm
            clear hbb
            cases bb with
            | false =>
              go_upto_region 22 with fail
              refine wp_region_lit ?_
              refine wl rfl (.pointer (some ⟨q7, 0 + 3, none⟩)) _ (run_fieldOp' f43_3 (.tmp 7) rfl q7 (0) rfl) ?_
              simp only [Act.put, List.setIfInBounds_toArray, List.set_cons_succ, List.set_cons_zero]
              refine wl rfl (.bool false) _ (run_load1 o4 (.tmp 76) rfl q7 (0 + 3) rfl (.bool false) ((K5.out.loc.at 1 rfl).at 3 _ (by rw [← HBB.out]; rfl))) ?_
              simp only [Act.put, List.setIfInBounds_toArray, List.set_cons_succ, List.set_cons_zero]
              refine wpList_nil ?_
              go_upto_region 24 with fail
              refine wp_region_lit ?_
              refine wl rfl v11p _ (run_mvZ (.tmp 4) rfl v11p rfl) ?_
              simp only [Act.put, List.setIfInBounds_toArray, List.set_cons_succ, List.set_cons_zero]
              refine wl rfl (whole w11p.heap.size 1) _ (run_litB1 (.const (.int .u8 0)) rfl 0 rfl) ?_
              obtain ⟨vl, hvl⟩ : ∃ v, v = whole w11p.heap.size 1 := ⟨_, rfl⟩
              obtain ⟨w12, hw⟩ : ∃ W, W = w11p.alloc (.cells (bcells [0]).toArray 5) := ⟨_, rfl⟩
              have K6 : Hid (Bt w w12 [(q, 26, rcells r vc), (q7, 43, pcells p)] v11p (encH r ++ encPs (r.cp.take k) ++ Fr.Frame.be 1 p.dev.toNat ++ Fr.Frame.be 2 p.pl.toNat ++ Fr.Frame.be 1 p.len.toNat) ∧ SliceIn w12 vl [0]) := ⟨hw ▸ K5.out.later (below_alloc w11p _), hvl ▸ hw ▸ whole_slice (Row.new w11p 5 (bcells [0])) (one_lt (by decide)) (by simp)⟩
              rw [← hvl, ← hw]
              clear hvl hw K5
              simp only [Act.put, List.setIfInBounds_toArray, List.set_cons_succ, List.set_cons_zero]
              refine wl_bgrow (.tmp 81) (.tmp 82) rfl rfl w.heap.size v11p vl (encH r ++ encPs (r.cp.take k) ++ Fr.Frame.be 1 p.dev.toNat ++ Fr.Frame.be 2 p.pl.toNat ++ Fr.Frame.be 1 p.len.toNat) [0] rfl K6.out.1.own rfl K6.out.2 (by have h1 := encH_length HM.out; have h2 := HX.out.2.2.2.2; simp [Fr.Frame.be_length]; omega) K6.out.1.size ?_
              intro v13 w13 o_ g_
              have K7 : Hid (EnK w q r vc w13 v13 (k + 1)) := (by
                show Bt _ _ _ _ _
                have h2 := (K6.out.1.grow g_ o_).drop 1
                have e1 : bitB p.bad 1 = 0 := (by rw [HBB.out]; rfl)
                rw [encPs_take _ _ _ HX.out.2.2.1]
                simpa [encP, e1] using h2)
              clear o_ g_ K6
              simp only [Act.put, List.setIfInBounds_toArray, List.set_cons_succ, List.set_cons_zero]
              refine wl rfl v13 _ (run_asZ (.tmp 83) rfl v13 rfl) ?_
              simp only [Act.put, List.setIfInBounds_toArray, List.set_cons_succ, List.set_cons_zero]
              refine wpList_nil ?_
              go_wp2_with fail
              refine ⟨⟨k + 1, by go_num, by omega, K7.out⟩, ?_⟩
              simp [intOf]; omega
            | true =>
              go_upto_region 22 with fail
              refine wp_region_lit ?_
              refine wl rfl (.pointer (some ⟨q7, 0 + 3, none⟩)) _ (run_fieldOp' f43_3 (.tmp 7) rfl q7 (0) rfl) ?_
              simp only [Act.put, List.setIfInBounds_toArray, List.set_cons_succ, List.set_cons_zero]
              refine wl rfl (.bool true) _ (run_load1 o4 (.tmp 76) rfl q7 (0 + 3) rfl (.bool true) ((K5.out.loc.at 1 rfl).at 3 _ (by rw [← HBB.out]; rfl))) ?_
              simp only [Act.put, List.setIfInBounds_toArray, List.set_cons_succ, List.set_cons_zero]
              refine wpList_nil ?_
              go_upto_region 23 with fail
              refine wp_region_lit ?_
              refine wl rfl v11p _ (run_mvZ (.tmp 4) rfl v11p rfl) ?_
              simp only [Act.put, List.setIfInBounds_toArray, List.set_cons_succ, List.set_cons_zero]
              refine wl rfl (whole w11p.heap.size 1) _ (run_litB1 (.const (.int .u8 1)) rfl 1 rfl) ?_
              obtain ⟨vl, hvl⟩ : ∃ v, v = whole w11p.heap.size 1 := ⟨_, rfl⟩
              obtain ⟨w12, hw⟩ : ∃ W, W = w11p.alloc (.cells (bcells [1]).toArray 5) := ⟨_, rfl⟩
              have K6 : Hid (Bt w w12 [(q, 26, rcells r vc), (q7, 43, pcells p)] v11p (encH r ++ encPs (r.cp.take k) ++ Fr.Frame.be 1 p.dev.toNat ++ Fr.Frame.be 2 p.pl.toNat ++ Fr.Frame.be 1 p.len.toNat) ∧ SliceIn w12 vl [1]) := ⟨hw ▸ K5.out.later (below_alloc w11p _), hvl ▸ hw ▸ whole_slice (Row.new w11p 5 (bcells [1])) (one_lt (by decide)) (by simp)⟩
              rw [← hvl, ← hw]
              clear hvl hw K5
              simp only [Act.put, List.setIfInBounds_toArray, List.set_cons_succ, List.set_cons_zero]
              refine wl_bgrow (.tmp 78) (.tmp 79) rfl rfl w.heap.size v11p vl (encH r ++ encPs (r.cp.take k) ++ Fr.Frame.be 1 p.dev.toNat ++ Fr.Frame.be 2 p.pl.toNat ++ Fr.Frame.be 1 p.len.toNat) [1] rfl K6.out.1.own rfl K6.out.2 (by have h1 := encH_length HM.out; have h2 := HX.out.2.2.2.2; simp [Fr.Frame.be_length]; omega) K6.out.1.size ?_
              intro v13 w13 o_ g_
              have K7 : Hid (EnK w q r vc w13 v13 (k + 1)) := (by
                show Bt _ _ _ _ _
                have h2 := (K6.out.1.grow g_ o_).drop 1
                have e1 : bitB p.bad 1 = 1 := (by rw [HBB.out]; rfl)
                rw [encPs_take _ _ _ HX.out.2.2.1]
                simpa [encP, e1] using h2)
              clear o_ g_ K6
              simp only [Act.put, List.setIfInBounds_toArray, List.set_cons_succ, List.set_cons_zero]
              refine wl rfl v13 _ (run_asZ (.tmp 80) rfl v13 rfl) ?_
              simp only [Act.put, List.setIfInBounds_toArray, List.set_cons_succ, List.set_cons_zero]
              refine wpList_nil ?_
              go_wp2_with fail
              refine ⟨⟨k + 1, by go_num, by omega, K7.out⟩, ?_⟩
              simp [intOf]; omega
          · have t1 : decide ((k : Int) < (n : Int)) = false := decide_eq_false (by omega)
            rw [t1]
            clear t1
            have ek : k = n := by omega
            have KE : Hid (Bt w wr [(q, 26, rcells r vc)] u4 (enc r)) := (by
              show Bt _ _ _ _ _
              have h2 : Bt _ _ _ _ _ := HK.out
              rw [ek, HN.out, List.take_length, encH_all] at h2
              exact h2)
            clear ek
            go_wp2_with fail
            rw [HPQ.out]
            exact ⟨_, _, rfl, KE.out.loc.below, Or.inr ⟨HM.out.may, KE.out.own, rfl⟩⟩
    | true =>
      cases bg with
      | false =>
        go_upto_region 9 with fail
        refine wp_region_lit ?_
        refine wl rfl (.int .i64 0) _ (run_asZ (.const (.int .i64 0)) rfl (.int .i64 0) rfl) ?_
        simp only [Act.put, List.setIfInBounds_toArray, List.set_cons_succ, List.set_cons_zero]
        refine wpList_nil ?_
        go_upto_region 10 with fail
        refine wp_region_lit ?_
        refine wl rfl (.pointer (some ⟨q, 0 + 36, none⟩)) _ (run_fieldOp' f26_5 (.tmp 1) rfl q (0) rfl) ?_
        simp only [Act.put, List.setIfInBounds_toArray, List.set_cons_succ, List.set_cons_zero]
        refine wl rfl (.bool true) _ (run_load1 o4 (.tmp 37) rfl q (0 + 36) rfl (.bool true) ((B8.out.loc.at 0 rfl).at 36 _ (by have := rcB vc HF.out.root (r := r) 2; rw [this, HBG.out.1]; rfl))) ?_
        simp only [Act.put, List.setIfInBounds_toArray, List.set_cons_succ, List.set_cons_zero]
        refine wpList_nil ?_
        go_upto_region 11 with fail
        refine wp_region_lit ?_
        refine wl rfl (.int .i64 1) _ (run_asZ (.const (.int .i64 1)) rfl (.int .i64 1) rfl) ?_
        simp only [Act.put, List.setIfInBounds_toArray, List.set_cons_succ, List.set_cons_zero]
        refine wpList_nil ?_
        go_upto_region 12 with fail
        refine wp_region_lit ?_
        refine wl rfl (.pointer (some ⟨q, 0 + 37, none⟩)) _ (run_fieldOp' f26_6 (.tmp 1) rfl q (0) rfl) ?_
        simp only [Act.put, List.setIfInBounds_toArray, List.set_cons_succ, List.set_cons_zero]
        refine wl rfl (.bool false) _ (run_load1 o4 (.tmp 39) rfl q (0 + 37) rfl (.bool false) ((B8.out.loc.at 0 rfl).at 37 _ (by have := rcB vc HF.out.root (r := r) 3; rw [this, HBG.out.2]; rfl))) ?_
        simp only [Act.put, List.setIfInBounds_toArray, List.set_cons_succ, List.set_cons_zero]
        refine wpList_nil ?_
        go_upto_region 14 with fail
        refine wp_region_lit ?_
        refine wl rfl v8 _ (run_mvZ (.tmp 4) rfl v8 rfl) ?_
        simp only [Act.put, List.setIfInBounds_toArray, List.set_cons_succ, List.set_cons_zero]
        refine wl rfl (.int .i64 1) _ (run_mvZ (.tmp 5) rfl (.int .i64 1) rfl) ?_
        simp only [Act.put, List.setIfInBounds_toArray, List.set_cons_succ, List.set_cons_zero]
        refine wl rfl (.int .u8 (1 : Nat)) _ (run_toU8n (.tmp 44) rfl 1 (by decide) rfl) ?_
        simp only [Act.put, List.setIfInBounds_toArray, List.set_cons_succ, List.set_cons_zero]
        refine wl rfl (.pointer (some ⟨q, 0 + 38, none⟩)) _ (run_fieldOp' f26_7 (.tmp 1) rfl q (0) rfl) ?_
        simp only [Act.put, List.setIfInBounds_toArray, List.set_cons_succ, List.set_cons_zero]
        refine wl rfl vc _ (run_load1 o24 (.tmp 46) rfl q (0 + 38) rfl vc ((B8.out.loc.at 0 rfl).at 38 _ (rcB vc HF.out.root 4))) ?_
        simp only [Act.put, List.setIfInBounds_toArray, List.set_cons_succ, List.set_cons_zero]
        refine wl rfl (.int .i64 (n : Nat)) _ (run_lenPn HF.out.cp HN.out (.tmp 47) rfl rfl) ?_
        simp only [Act.put, List.setIfInBounds_toArray, List.set_cons_succ, List.set_cons_zero]
        refine wl rfl (.int .u8 (n : Nat)) _ (run_toU8n (.tmp 48) rfl n (by have := HM.out.few; have := HN.out; omega) rfl) ?_
        simp only [Act.put, List.setIfInBounds_toArray, List.set_cons_succ, List.set_cons_zero]
        refine wl rfl (whole w8.heap.size 2) _ (run_litB2 (.tmp 45) (.tmp 49) rfl 1 n rfl rfl) ?_
        obtain ⟨vl, hvl⟩ : ∃ v, v = whole w8.heap.size 2 := ⟨_, rfl⟩
        obtain ⟨w9, hw⟩ : ∃ W, W = w8.alloc (.cells (bcells [1, n]).toArray 5) := ⟨_, rfl⟩
        have B9 : Hid (Bt w w9 [(q, 26, rcells r vc)] v8 (encE r.id r.length r.root ++ Fr.Frame.be 4 r.index.toNat ++ Fr.Frame.be 6 r.expiry.toNat) ∧ SliceIn w9 vl [1, n]) := ⟨hw ▸ B8.out.later (below_alloc w8 _), hvl ▸ hw ▸ whole_slice (Row.new w8 5 (bcells [1, n])) (fun c hc => by have h3 := HM.out.few; have h4 := HN.out; simp at hc; omega) (by simp)⟩
        rw [← hvl, ← hw]
        clear hvl hw B8
        simp only [Act.put, List.setIfInBounds_toArray, List.set_cons_succ, List.set_cons_zero]
        refine wl_bgrow (.tmp 43) (.tmp 50) rfl rfl w.heap.size v8 vl (encE r.id r.length r.root ++ Fr.Frame.be 4 r.index.toNat ++ Fr.Frame.be 6 r.expiry.toNat) [1, n] rfl B9.out.1.own rfl B9.out.2 (by have h1 := HM.out.id; have h2 := HF.out.root; simp [encE_length, Fr.Frame.be_length]; omega) B9.out.1.size ?_
        intro v10 w10 o_ g_
        have B10 : Hid (EnK w q r vc w10 v10 0) := (by
          show Bt _ _ _ _ _
          have h := B9.out.1.grow g_ o_
          have e : bitB r.hold 1 + bitB r.gone 2 = 1 := (by rw [HBG.out.1, HBG.out.2]; rfl)
          rw [List.take_zero]
          simpa [encH, encPs, e, ← HN.out] using h)
        clear o_ g_ B9
        simp only [Act.put, List.setIfInBounds_toArray, List.set_cons_succ, List.set_cons_zero]
        refine wl rfl v10 _ (run_asZ (.tmp 51) rfl v10 rfl) ?_
        simp only [Act.put, List.setIfInBounds_toArray, List.set_cons_succ, List.set_cons_zero]
        refine wpList_nil ?_
        go_upto_region 15 with fail
        refine wp_region_lit ?_
        refine wl rfl (.int .i64 0) _ (run_asZ (.const (.int .i64 0)) rfl (.int .i64 0) rfl) ?_
        simp only [Act.put, List.setIfInBounds_toArray, List.set_cons_succ, List.set_cons_zero]
        refine wpList_nil ?_
        clear HBG
        go_wp2_with fail
        go_loopw [4, 6] (fun vb vk W => ∃ k : Nat, vk = .int .i64 (k : Nat) ∧ k ≤ n ∧ EnK w q r vc W vb k) (fun _ vk _ => n - (intOf vk).toNat)
        case atStart => exact ⟨0, rfl, Nat.zero_le _, B10.out⟩
        case round =>
          obtain ⟨k, rfl, hk, hS0⟩ := hrel
          have HK : Hid (EnK w q r vc wr u4 k) := hS0
          clear hS0 B10
          have h8 : n ≤ 8 := (by rw [HN.out]; exact HM.out.few)
          go_upto_region 16 with fail
          refine wp_region_lit ?_
          refine wl rfl (.int .i64 (k : Nat)) _ (run_mvZ (.tmp 6) rfl (.int .i64 (k : Nat)) rfl) ?_
          simp only [Act.put, List.setIfInBounds_toArray, List.set_cons_succ, List.set_cons_zero]
          refine wl rfl (.pointer (some ⟨q, 0 + 38, none⟩)) _ (run_fieldOp' f26_7 (.tmp 1) rfl q (0) rfl) ?_
          simp only [Act.put, List.setIfInBounds_toArray, List.set_cons_succ, List.set_cons_zero]
          refine wl rfl vc _ (run_load1 o24 (.tmp 53) rfl q (0 + 38) rfl vc ((HK.out.loc.at 0 rfl).at 38 _ (rcB vc HF.out.root 4))) ?_
          simp only [Act.put, List.setIfInBounds_toArray, List.set_cons_succ, List.set_cons_zero]
          refine wl rfl (.int .i64 (n : Nat)) _ (run_lenPn HF.out.cp HN.out (.tmp 54) rfl rfl) ?_
          simp only [Act.put, List.setIfInBounds_toArray, List.set_cons_succ, List.set_cons_zero]
          refine wl rfl (.bool (decide ((k : Int) < (n : Int)))) _ (run_lssZ (.tmp 52) (.tmp 55) rfl (k : Nat) (n : Nat) rfl rfl _ rfl) ?_
          simp only [Act.put, List.setIfInBounds_toArray, List.set_cons_succ, List.set_cons_zero]
          refine wpList_nil ?_
          by_cases hlt : k < n
          · have t1 : decide ((k : Int) < (n : Int)) = true := decide_eq_true (by omega)
            rw [t1]
            clear t1
            obtain ⟨p, hp⟩ : ∃ p, r.cp[k]? = some p := ⟨_, List.getElem?_eq_getElem (by rw [← HN.out]; exact hlt)⟩
            obtain ⟨b, off, hx, hc⟩ := ix_place (HF.out.cp.later HK.out.loc.below) k p hp
            have HX : Hid ((∀ w', (Instr.indexAt 24 vc (.int .i64 (k : Nat))).run Try.prog w' = .ok (.pointer (some ⟨b, off, none⟩)) w') ∧ (∀ j u, (pcells p)[j]? = some u → wr.cell? ⟨b, off + j, none⟩ = some u) ∧ r.cp[k]? = some p ∧ ((0 ≤ p.dev ∧ p.dev ≤ 11) ∧ (0 ≤ p.pl ∧ p.pl ≤ 4095) ∧ (0 ≤ p.len ∧ p.len ≤ 255)) ∧ (encPs (r.cp.take k)).length ≤ 40) := ⟨hx, hc, hp, HM.out.ok p (List.mem_of_getElem? hp), take_len _ _ (by rw [← HN.out]; exact hk) HM.out.few⟩
            clear hx hc hp
            go_upto_region 18 with fail
            refine wp_region_lit ?_
            refine wl rfl (.pointer (some ⟨q, 0 + 38, none⟩)) _ (run_fieldOp' f26_7 (.tmp 1) rfl q (0) rfl) ?_
            simp only [Act.put, List.setIfInBounds_toArray, List.set_cons_succ, List.set_cons_zero]
            refine wl rfl vc _ (run_load1 o24 (.tmp 59) rfl q (0 + 38) rfl vc ((HK.out.loc.at 0 rfl).at 38 _ (rcB vc HF.out.root 4))) ?_
            simp only [Act.put, List.setIfInBounds_toArray, List.set_cons_succ, List.set_cons_zero]
            refine wl rfl (.int .i64 (k : Nat)) _ (run_mvZ (.tmp 6) rfl (.int .i64 (k : Nat)) rfl) ?_
            simp only [Act.put, List.setIfInBounds_toArray, List.set_cons_succ, List.set_cons_zero]
            refine wl rfl (.pointer (some ⟨b, off, none⟩)) _ (run_idx (.tmp 60) (.tmp 61) rfl vc _ _ rfl rfl HX.out.1) ?_
            simp only [Act.put, List.setIfInBounds_toArray, List.set_cons_succ, List.set_cons_zero]
            refine wl rfl (.agg (pcells p).toArray) _ (run_loadA ag43 (.tmp 62) rfl b (off) rfl (pcells p) rfl HX.out.2.1) ?_
            simp only [Act.put, List.setIfInBounds_toArray, List.set_cons_succ, List.set_cons_zero]
            refine wl rfl (ptr wr.heap.size) _ (run_allocA (pcells ⟨0, 0, 0, false⟩) zero43 rfl) ?_
            obtain ⟨q7, hq⟩ : ∃ q, q = wr.heap.size := ⟨_, rfl⟩
            obtain ⟨w7, hw⟩ : ∃ W, W = wr.alloc (.cells (pcells ⟨0, 0, 0, false⟩).toArray 43) := ⟨_, rfl⟩
            have K1 : Hid (Bt w w7 [(q, 26, rcells r vc), (q7, 43, pcells ⟨0, 0, 0, false⟩)] u4 (encH r ++ encPs (r.cp.take k))) := hq ▸ hw ▸ HK.out.box 43 (pcells ⟨0, 0, 0, false⟩) (by decide)
            rw [← hq, ← hw]
            clear hq hw
            simp only [Act.put, List.setIfInBounds_toArray, List.set_cons_succ, List.set_cons_zero]
            have hst := run_storeVar ag43 w7 q7 0 43 (pcells ⟨0, 0, 0, false⟩) (pcells p) rfl (K1.out.loc.at 1 rfl) (by simp [pcells]) (pcells_one p)
            rw [splice43] at hst
            refine wlS rfl rfl _ (run_stV (.tmp 7) (.tmp 63) rfl q7 0 rfl _ rfl hst) ?_
            obtain ⟨w8, hw⟩ : ∃ W, W = w7.setRow q7 (pcells p).toArray := ⟨_, rfl⟩
            have K2 : Hid (Bt w w8 [(q, 26, rcells r vc), (q7, 43, pcells p)] u4 (encH r ++ encPs (r.cp.take k))) := hw ▸ K1.out.set 1 rfl ((K1.out.loc.at 1 rfl).setRow (pcells p)) ((Ch.refl (· = q7) w7).setRow (g := q7) (Or.inl rfl) _)
            rw [← hw]
            clear hw hst K1
            refine wpList_nil ?_
            go_upto_region 19 with fail
            refine wp_region_lit ?_
            refine wl rfl u4 _ (run_mvZ (.tmp 4) rfl u4 rfl) ?_
            simp only [Act.put, List.setIfInBounds_toArray, List.set_cons_succ, List.set_cons_zero]
            refine wl rfl (.pointer (some ⟨q7, 0 + 0, none⟩)) _ (run_fieldOp' f43_0 (.tmp 7) rfl q7 (0) rfl) ?_
            simp only [Act.put, List.setIfInBounds_toArray, List.set_cons_succ, List.set_cons_zero]
            refine wl rfl (.int .i64 p.dev) _ (run_load1 o3 (.tmp 65) rfl q7 (0 + 0) rfl (.int .i64 p.dev) ((K2.out.loc.at 1 rfl).at 0 _ rfl)) ?_
            simp only [Act.put, List.setIfInBounds_toArray, List.set_cons_succ, List.set_cons_zero]
            refine wpList_callW eN24 [.tmp 64, .tmp 66, .const (.int .i64 1)] _ rfl rfl [u4, (.int .i64 ((p.dev.toNat : Nat) : Int)), (.int .i64 1)] (by rw [show ((p.dev.toNat : Nat) : Int) = p.dev by have := HX.out.2.2.2.1.1.1; omega]; rfl) ?_
            refine (Fr.put_grow u4 (encH r ++ encPs (r.cp.take k)) p.dev.toNat 1 w.heap.size w8 K2.out.own K2.out.size (by decide) (by have := (show (encH r ++ encPs (r.cp.take k)).length ≤ 1000 by have h1 := encH_length HM.out; have h2 := HX.out.2.2.2.2; simp; omega); simp at this ⊢; omega) (K2.out.own.hasBlock (by simp [encH, encE]))).mono ?_
            rintro e w9p ⟨v9p, rfl, o_, g_⟩
            refine ⟨_, rfl, ?_⟩
            have K3 : Hid (Bt w w9p [(q, 26, rcells r vc), (q7, 43, pcells p)] v9p (encH r ++ encPs (r.cp.take k) ++ Fr.Frame.be 1 p.dev.toNat)) := K2.out.grow g_ o_
            clear o_ g_ K2
            simp only [Act.put, List.setIfInBounds_toArray, List.set_cons_succ, List.set_cons_zero]
            refine wl rfl v9p _ (run_asZ (.tmp 67) rfl v9p rfl) ?_
            simp only [Act.put, List.setIfInBounds_toArray, List.set_cons_succ, List.set_cons_zero]
            refine wpList_nil ?_
            go_upto_region 20 with fail
            refine wp_region_lit ?_
            refine wl rfl v9p _ (run_mvZ (.tmp 4) rfl v9p rfl) ?_
            simp only [Act.put, List.setIfInBounds_toArray, List.set_cons_succ, List.set_cons_zero]
            refine wl rfl (.pointer (some ⟨q7, 0 + 1, none⟩)) _ (run_fieldOp' f43_1 (.tmp 7) rfl q7 (0) rfl) ?_
            simp only [Act.put, List.setIfInBounds_toArray, List.set_cons_succ, List.set_cons_zero]
            refine wl rfl (.int .i64 p.pl) _ (run_load1 o3 (.tmp 69) rfl q7 (0 + 1) rfl (.int .i64 p.pl) ((K3.out.loc.at 1 rfl).at 1 _ rfl)) ?_
            simp only [Act.put, List.setIfInBounds_toArray, List.set_cons_succ, List.set_cons_zero]
            refine wpList_callW eN24 [.tmp 68, .tmp 70, .const (.int .i64 2)] _ rfl rfl [v9p, (.int .i64 ((p.pl.toNat : Nat) : Int)), (.int .i64 2)] (by rw [show ((p.pl.toNat : Nat) : Int) = p.pl by have := HX.out.2.2.2.1.2.1.1; omega]; rfl) ?_
            refine (Fr.put_grow v9p (encH r ++ encPs (r.cp.take k) ++ Fr.Frame.be 1 p.dev.toNat) p.pl.toNat 2 w.heap.size w9p K3.out.own K3.out.size (by decide) (by have h1 := encH_length HM.out; have h2 := HX.out.2.2.2.2; simp [Fr.Frame.be_length]; omega) (K3.out.own.hasBlock (by simp [encH, encE]))).mono ?_
            rintro e w10p ⟨v10p, rfl, o_, g_⟩
            refine ⟨_, rfl, ?_⟩
            have K4 : Hid (Bt w w10p [(q, 26, rcells r vc), (q7, 43, pcells p)] v10p (encH r ++ encPs (r.cp.take k) ++ Fr.Frame.be 1 p.dev.toNat ++ Fr.Frame.be 2 p.pl.toNat)) := K3.out.grow g_ o_
            clear o_ g_ K3
            simp only [Act.put, List.setIfInBounds_toArray, List.set_cons_succ, List.set_cons_zero]
            refine wl rfl v10p _ (run_asZ (.tmp 71) rfl v10p rfl) ?_
            simp only [Act.put, List.setIfInBounds_toArray, List.set_cons_succ, List.set_cons_zero]
            refine wpList_nil ?_
            go_upto_region 21 with fail
            refine wp_region_lit ?_
            refine wl rfl v10p _ (run_mvZ (.tmp 4) rfl v10p rfl) ?_
            simp only [Act.put, List.setIfInBounds_toArray, List.set_cons_succ, List.set_cons_zero]
            refine wl rfl (.pointer (some ⟨q7, 0 + 2, none⟩)) _ (run_fieldOp' f43_2 (.tmp 7) rfl q7 (0) rfl) ?_
            simp only [Act.put, List.setIfInBounds_toArray, List.set_cons_succ, List.set_cons_zero]
            refine wl rfl (.int .i64 p.len) _ (run_load1 o3 (.tmp 73) rfl q7 (0 + 2) rfl (.int .i64 p.len) ((K4.out.loc.at 1 rfl).at 2 _ rfl)) ?_
            simp only [Act.put, List.setIfInBounds_toArray, List.set_cons_succ, List.set_cons_zero]
            refine wpList_callW eN24 [.tmp 72, .tmp 74, .const (.int .i64 1)] _ rfl rfl [v10p, (.int .i64 ((p.len.toNat : Nat) : Int)), (.int .i64 1)] (by rw [show ((p.len.toNat : Nat) : Int) = p.len by have := HX.out.2.2.2.1.2.2.1; omega]; rfl) ?_
            refine (Fr.put_grow v10p (encH r ++ encPs (r.cp.take k) ++ Fr.Frame.be 1 p.dev.toNat ++ Fr.Frame.be 2 p.pl.toNat) p.len.toNat 1 w.heap.size w10p K4.out.own K4.out.size (by decide) (by have h1 := encH_length HM.out; have h2 := HX.out.2.2.2.2; simp [Fr.Frame.be_length]; omega) (K4.out.own.hasBlock (by simp [encH, encE]))).mono ?_
            rintro e w11p ⟨v11p, rfl, o_, g_⟩
            refine ⟨_, rfl, ?_⟩
            have K5 : Hid (Bt w w11p [(q, 26, rcells r vc), (q7, 43, pcells p)] v11p (encH r ++ encPs (r.cp.take k) ++ Fr.Frame.be 1 p.dev.toNat ++ Fr.Frame.be 2 p.pl.toNat ++ Fr.Frame.be 1 p.len.toNat)) := K4.out.grow g_ o_
            clear o_ g_ K4
            simp only [Act.put, List.setIfInBounds_toArray, List.set_cons_succ, List.set_cons_zero]
            refine wl rfl v11p _ (run_asZ (.tmp 75) rfl v11p rfl) ?_
            simp only [Act.put, List.setIfInBounds_toArray, List.set_cons_succ, List.set_cons_zero]
            refine wpList_nil ?_
            obtain ⟨bb, hbb⟩ : ∃ b, b = p.bad := ⟨_, rfl⟩
            have HBB : Hid (p.bad = bb) := hbb.symm
            clear hbb
            cases bb with
            | false =>
              go_upto_region 22 with fail
              refine wp_region_lit ?_
              refine wl rfl (.pointer (some ⟨q7, 0 + 3, none⟩)) _ (run_fieldOp' f43_3 (.tmp 7) rfl q7 (0) rfl) ?_
              simp only [Act.put, List.setIfInBounds_toArray, List.set_cons_succ, List.set_cons_zero]
              refine wl rfl (.bool false) _ (run_load1 o4 (.tmp 76) rfl q7 (0 + 3) rfl (.bool false) ((K5.out.loc.at 1 rfl).at 3 _ (by rw [← HBB.out]; rfl))) ?_
              simp only [Act.put, List.setIfInBounds_toArray, List.set_cons_succ, List.set_cons_zero]
              refine wpList_nil ?_
              go_upto_region 24 with fail
              refine wp_region_lit ?_
              refine wl rfl v11p _ (run_mvZ (.tmp 4) rfl v11p rfl) ?_
              simp only [Act.put, List.setIfInBounds_toArray, List.set_cons_succ, List.set_cons_zero]
              refine wl rfl (whole w11p.heap.size 1) _ (run_litB1 (.const (.int .u8 0)) rfl 0 rfl) ?_
              obtain ⟨vl, hvl⟩ : ∃ v, v = whole w11p.heap.size 1 := ⟨_, rfl⟩
              obtain ⟨w12, hw⟩ : ∃ W, W = w11p.alloc (.cells (bcells [0]).toArray 5) := ⟨_, rfl⟩
              have K6 : Hid (Bt w w12 [(q, 26, rcells r vc), (q7, 43, pcells p)] v11p (encH r ++ encPs (r.cp.take k) ++ Fr.Frame.be 1 p.dev.toNat ++ Fr.Frame.be 2 p.pl.toNat ++ Fr.Frame.be 1 p.len.toNat) ∧ SliceIn w12 vl [0]) := ⟨hw ▸ K5.out.later (below_alloc w11p _), hvl ▸ hw ▸ whole_slice (Row.new w11p 5 (bcells [0])) (one_lt (by decide)) (by simp)⟩
              rw [← hvl, ← hw]
              clear hvl hw K5
              simp only [Act.put, List.setIfInBounds_toArray, List.set_cons_succ, List.set_cons_zero]
              refine wl_bgrow (.tmp 81) (.tmp 82) rfl rfl w.heap.size v11p vl (encH r ++ encPs (r.cp.take k) ++ Fr.Frame.be 1 p.dev.toNat ++ Fr.Frame.be 2 p.pl.toNat ++ Fr.Frame.be 1 p.len.toNat) [0] rfl K6.out.1.own rfl K6.out.2 (by have h1 := encH_length HM.out; have h2 := HX.out.2.2.2.2; simp [Fr.Frame.be_length]; omega) K6.out.1.size ?_
              intro v13 w13 o_ g_
              have K7 : Hid (EnK w q r vc w13 v13 (k + 1)) := (by
                show Bt _ _ _ _ _
                have h2 := (K6.out.1.grow g_ o_).drop 1
                have e1 : bitB p.bad 1 = 0 := (by rw [HBB.out]; rfl)
                rw [encPs_take _ _ _ HX.out.2.2.1]
                simpa [encP, e1] using h2)
              clear o_ g_ K6
              simp only [Act.put, List.setIfInBounds_toArray, List.set_cons_succ, List.set_cons_zero]
              refine wl rfl v13 _ (run_asZ (.tmp 83) rfl v13 rfl) ?_
              simp only [Act.put, List.setIfInBounds_toArray, List.set_cons_succ, List.set_cons_zero]
              refine wpList_nil ?_
              go_wp2_with fail
              refine ⟨⟨k + 1, by go_num, by omega, K7.out⟩, ?_⟩
              simp [intOf]; omega
            | true =>
              go_upto_region 22 with fail
              refine wp_region_lit ?_
              refine wl rfl (.pointer (some ⟨q7, 0 + 3, none⟩)) _ (run_fieldOp' f43_3 (.tmp 7) rfl q7 (0) rfl) ?_
              simp only [Act.put, List.setIfInBounds_toArray, List.set_cons_succ, List.set_cons_zero]
              refine wl rfl (.bool true) _ (run_load1 o4 (.tmp 76) rfl q7 (0 + 3) rfl (.bool true) ((K5.out.loc.at 1 rfl).at 3 _ (by rw [← HBB.out]; rfl))) ?_
              simp only [Act.put, List.setIfInBounds_toArray, List.set_cons_succ, List.set_cons_zero]
              refine wpList_nil ?_
              go_upto_region 23 with fail
              refine wp_region_lit ?_
              refine wl rfl v11p _ (run_mvZ (.tmp 4) rfl v11p rfl) ?_
              simp only [Act.put, List.setIfInBounds_toArray, List.set_cons_succ, List.set_cons_zero]
              refine wl rfl (whole w11p.heap.size 1) _ (run_litB1 (.const (.int .u8 1)) rfl 1 rfl) ?_
              obtain ⟨vl, hvl⟩ : ∃ v, v = whole w11p.heap.size 1 := ⟨_, rfl⟩
              obtain ⟨w12, hw⟩ : ∃ W, W = w11p.alloc (.cells (bcells [1]).toArray 5) := ⟨_, rfl⟩
              have K6 : Hid (Bt w w12 [(q, 26, rcells r vc), (q7, 43, pcells p)] v11p (encH r ++ encPs (r.cp.take k) ++ Fr.Frame.be 1 p.dev.toNat ++ Fr.Frame.be 2 p.pl.toNat ++ Fr.Frame.be 1 p.len.toNat) ∧ SliceIn w12 vl [1]) := ⟨hw ▸ K5.out.later (below_alloc w11p _), hvl ▸ hw ▸ whole_slice (Row.new w11p 5 (bcells [1])) (one_lt (by decide)) (by simp)⟩
              rw [← hvl, ← hw]
              clear hvl hw K5
              simp only [Act.put, List.setIfInBounds_toArray, List.set_cons_succ, List.set_cons_zero]
              refine wl_bgrow (.tmp 78) (.tmp 79) rfl rfl w.heap.size v11p vl (encH r ++ encPs (r.cp.take k) ++ Fr.Frame.be 1 p.dev.toNat ++ Fr.Frame.be 2 p.pl.toNat ++ Fr.Frame.be 1 p.len.toNat) [1] rfl K6.out.1.own rfl K6.out.2 (by have h1 := encH_length HM.out; have h2 := HX.out.2.2.2.2; simp [Fr.Frame.be_length]; omega) K6.out.1.size ?_
              intro v13 w13 o_ g_
              have K7 : Hid (EnK w q r vc w13 v13 (k + 1)) := (by
                show Bt _ _ _ _ _
                have h2 := (K6.out.1.grow g_ o_).drop 1
                have e1 : bitB p.bad 1 = 1 := (by rw [HBB.out]; rfl)
                rw [encPs_take _ _ _ HX.out.2.2.1]
                simpa [encP, e1] using h2)
              clear o_ g_ K6
              simp only [Act.put, List.setIfInBounds_toArray, List.set_cons_succ, List.set_cons_zero]
              refine wl rfl v13 _ (run_asZ (.tmp 80) rfl v13 rfl) ?_
              simp only [Act.put, List.setIfInBounds_toArray, List.set_cons_succ, List.set_cons_zero]
              refine wpList_nil ?_
              go_wp2_with fail
              refine ⟨⟨k + 1, by go_num, by omega, K7.out⟩, ?_⟩
              simp [intOf]; omega
          · have t1 : decide ((k : Int) < (n : Int)) = false := decide_eq_false (by omega)
            rw [t1]
            clear t1
            have ek : k = n := by omega
            have KE : Hid (Bt w wr [(q, 26, rcells r vc)] u4 (enc r)) := (by
              show Bt _ _ _ _ _
              have h2 : Bt _ _ _ _ _ := HK.out
              rw [ek, HN.out, List.take_length, encH_all] at h2
              exact h2)
            clear ek
            go_wp2_with fail
            rw [HPQ.out]
            exact ⟨_, _, rfl, KE.out.loc.below, Or.inr ⟨HM.out.may, KE.out.own, rfl⟩⟩
      | true =>
        go_upto_region 9 with fail
        refine wp_region_lit ?_
        refine wl rfl (.int .i64 0) _ (run_asZ (.const (.int .i64 0)) rfl (.int .i64 0) rfl) ?_
        simp only [Act.put, List.setIfInBounds_toArray, List.set_cons_succ, List.set_cons_zero]
        refine wpList_nil ?_
        go_upto_region 10 with fail
        refine wp_region_lit ?_
        refine wl rfl (.pointer (some ⟨q, 0 + 36, none⟩)) _ (run_fieldOp' f26_5 (.tmp 1) rfl q (0) rfl) ?_
        simp only [Act.put, List.setIfInBounds_toArray, List.set_cons_succ, List.set_cons_zero]
        refine wl rfl (.bool true) _ (run_load1 o4 (.tmp 37) rfl q (0 + 36) rfl (.bool true) ((B8.out.loc.at 0 rfl).at 36 _ (by have := rcB vc HF.out.root (r := r) 2; rw [this, HBG.out.1]; rfl))) ?_
        simp only [Act.put, List.setIfInBounds_toArray, List.set_cons_succ, List.set_cons_zero]
        refine wpList_nil ?_
        go_upto_region 11 with fail
        refine wp_region_lit ?_
        refine wl rfl (.int .i64 1) _ (run_asZ (.const (.int .i64 1)) rfl (.int .i64 1) rfl) ?_
        simp only [Act.put, List.setIfInBounds_toArray, List.set_cons_succ, List.set_cons_zero]
        refine wpList_nil ?_
        go_upto_region 12 with fail
        refine wp_region_lit ?_
        refine wl rfl (.pointer (some ⟨q, 0 + 37, none⟩)) _ (run_fieldOp' f26_6 (.tmp 1) rfl q (0) rfl) ?_
        simp only [Act.put, List.setIfInBounds_toArray, List.set_cons_succ, List.set_cons_zero]
        refine wl rfl (.bool true) _ (run_load1 o4 (.tmp 39) rfl q (0 + 37) rfl (.bool true) ((B8.out.loc.at 0 rfl).at 37 _ (by have := rcB vc HF.out.root (r := r) 3; rw [this, HBG.out.2]; rfl))) ?_
        simp only [Act.put, List.setIfInBounds_toArray, List.set_cons_succ, List.set_cons_zero]
        refine wpList_nil ?_
        go_upto_region 13 with fail
        refine wp_region_lit ?_
        refine wl rfl (.int .i64 1) _ (run_mvZ (.tmp 5) rfl (.int .i64 1) rfl) ?_
        simp only [Act.put, List.setIfInBounds_toArray, List.set_cons_succ, List.set_cons_zero]
        refine wl rfl (.int .i64 3) _ (run_binOp' (.tmp 41) (.const (.int .i64 2)) rfl _ _ _ rfl rfl rfl (by kernel_rfl)) ?_
        simp only [Act.put, List.setIfInBounds_toArray, List.set_cons_succ, List.set_cons_zero]
        refine wl rfl (.int .i64 3) _ (run_asZ (.tmp 42) rfl (.int .i64 3) rfl) ?_
        simp only [Act.put, List.setIfInBounds_toArray, List.set_cons_succ, List.set_cons_zero]
        refine wpList_nil ?_
        go_upto_region 14 with fail
        refine wp_region_lit ?_
        refine wl rfl v8 _ (run_mvZ (.tmp 4) rfl v8 rfl) ?_
        simp only [Act.put, List.setIfInBounds_toArray, List.set_cons_succ, List.set_cons_zero]
        refine wl rfl (.int .i64 3) _ (run_mvZ (.tmp 5) rfl (.int .i64 3) rfl) ?_
        simp only [Act.put, List.setIfInBounds_toArray, List.set_cons_succ, List.set_cons_zero]
        refine wl rfl (.int .u8 (3 : Nat)) _ (run_toU8n (.tmp 44) rfl 3 (by decide) rfl) ?_
        simp only [Act.put, List.setIfInBounds_toArray, List.set_cons_succ, List.set_cons_zero]
        refine wl rfl (.pointer (some ⟨q, 0 + 38, none⟩)) _ (run_fieldOp' f26_7 (.tmp 1) rfl q (0) rfl) ?_
        simp only [Act.put, List.setIfInBounds_toArray, List.set_cons_succ, List.set_cons_zero]
        refine wl rfl vc _ (run_load1 o24 (.tmp 46) rfl q (0 + 38) rfl vc ((B8.out.loc.at 0 rfl).at 38 _ (rcB vc HF.out.root 4))) ?_
        simp only [Act.put, List.setIfInBounds_toArray, List.set_cons_succ, List.set_cons_zero]
        refine wl rfl (.int .i64 (n : Nat)) _ (run_lenPn HF.out.cp HN.out (.tmp 47) rfl rfl) ?_
        simp only [Act.put, List.setIfInBounds_toArray, List.set_cons_succ, List.set_cons_zero]
        refine wl rfl (.int .u8 (n : Nat)) _ (run_toU8n (.tmp 48) rfl n (by have := HM.out.few; have := HN.out; omega) rfl) ?_
        simp only [Act.put, List.setIfInBounds_toArray, List.set_cons_succ, List.set_cons_zero]
        refine wl rfl (whole w8.heap.size 2) _ (run_litB2 (.tmp 45) (.tmp 49) rfl 3 n rfl rfl) ?_
        obtain ⟨vl, hvl⟩ : ∃ v, v = whole w8.heap.size 2 := ⟨_, rfl⟩
        obtain ⟨w9, hw⟩ : ∃ W, W = w8.alloc (.cells (bcells [3, n]).toArray 5) := ⟨_, rfl⟩
        have B9 : Hid (Bt w w9 [(q, 26, rcells r vc)] v8 (encE r.id r.length r.root ++ Fr.Frame.be 4 r.index.toNat ++ Fr.Frame.be 6 r.expiry.toNat) ∧ SliceIn w9 vl [3, n]) := ⟨hw ▸ B8.out.later (below_alloc w8 _), hvl ▸ hw ▸ whole_slice (Row.new w8 5 (bcells [3, n])) (fun c hc => by have h3 := HM.out.few; have h4 := HN.out; simp at hc; omega) (by simp)⟩
        rw [← hvl, ← hw]
        clear hvl hw B8
        simp only [Act.put, List.setIfInBounds_toArray, List.set_cons_succ, List.set_cons_zero]
        refine wl_bgrow (.tmp 43) (.tmp 50) rfl rfl w.heap.size v8 vl (encE r.id r.length r.root ++ Fr.Frame.be 4 r.index.toNat ++ Fr.Frame.be 6 r.expiry.toNat) [3, n] rfl B9.out.1.own rfl B9.out.2 (by have h1 := HM.out.id; have h2 := HF.out.root; simp [encE_length, Fr.Frame.be_length]; omega) B9.out.1.size ?_
        intro v10 w10 o_ g_
        have B10 : Hid (EnK w q r vc w10 v10 0) := (by
          show Bt _ _ _ _ _
          have h := B9.out.1.grow g_ o_
          have e : bitB r.hold 1 + bitB r.gone 2 = 3 := (by rw [HBG.out.1, HBG.out.2]; rfl)
          rw [List.take_zero]
          simpa [encH, encPs, e, ← HN.out] using h)
        clear o_ g_ B9
        simp only [Act.put, List.setIfInBounds_toArray, List.set_cons_succ, List.set_cons_zero]
        refine wl rfl v10 _ (run_asZ (.tmp 51) rfl v10 rfl) ?_
        simp only [Act.put, List.setIfInBounds_toArray, List.set_cons_succ, List.set_cons_zero]
        refine wpList_nil ?_
        go_upto_region 15 with fail
        refine wp_region_lit ?_
        refine wl rfl (.int .i64 0) _ (run_asZ (.const (.int .i64 0)) rfl (.int .i64 0) rfl) ?_
        simp only [Act.put, List.setIfInBounds_toArray, List.set_cons_succ, List.set_cons_zero]
        refine wpList_nil ?_
        clear HBG
        go_wp2_with fail
        go_loopw [4, 6] (fun vb vk W => ∃ k : Nat, vk = .int .i64 (k : Nat) ∧ k ≤ n ∧ EnK w q r vc W vb k) (fun _ vk _ => n - (intOf vk).toNat)
        case atStart => exact ⟨0, rfl, Nat.zero_le _, B10.out⟩
        case round =>
          obtain ⟨k, rfl, hk, hS0⟩ := hrel
          have HK : Hid (EnK w q r vc wr u4 k) := hS0
          clear hS0 B10
          have h8 : n ≤ 8 := (by rw [HN.out]; exact HM.out.few)
          go_upto_region 16 with fail
          refine wp_region_lit ?_
          refine wl rfl (.int .i64 (k : Nat)) _ (run_mvZ (.tmp 6) rfl (.int .i64 (k : Nat)) rfl) ?_
          simp only [Act.put, List.setIfInBounds_toArray, List.set_cons_succ, List.set_cons_zero]
          refine wl rfl (.pointer (some ⟨q, 0 + 38, none⟩)) _ (run_fieldOp' f26_7 (.tmp 1) rfl q (0) rfl) ?_
          simp only [Act.put, List.setIfInBounds_toArray, List.set_cons_succ, List.set_cons_zero]
          refine wl rfl vc _ (run_load1 o24 (.tmp 53) rfl q (0 + 38) rfl vc ((HK.out.loc.at 0 rfl).at 38 _ (rcB vc HF.out.root 4))) ?_
          simp only [Act.put, List.setIfInBounds_toArray, List.set_cons_succ, List.set_cons_zero]
          refine wl rfl (.int .i64 (n : Nat)) _ (run_lenPn HF.out.cp HN.out (.tmp 54) rfl rfl) ?_
          simp only [Act.put, List.setIfInBounds_toArray, List.set_cons_succ, List.set_cons_zero]
          refine wl rfl (.bool (decide ((k : Int) < (n : Int)))) _ (run_lssZ (.tmp 52) (.tmp 55) rfl (k : Nat) (n : Nat) rfl rfl _ rfl) ?_
          simp only [Act.put, List.setIfInBounds_toArray, List.set_cons_succ, List.set_cons_zero]
          refine wpList_nil ?_
          by_cases hlt : k < n
          · have t1 : decide ((k : Int) < (n : Int)) = true := decide_eq_true (by omega)
            rw [t1]
            clear t1
            obtain ⟨p, hp⟩ : ∃ p, r.cp[k]? = some p := ⟨_, List.getElem?_eq_getElem (by rw [← HN.out]; exact hlt)⟩
            obtain ⟨b, off, hx, hc⟩ := ix_place (HF.out.cp.later HK.out.loc.below) k p hp
            have HX : Hid ((∀ w', (Instr.indexAt 24 vc (.int .i64 (k : Nat))).run Try.prog w' = .ok (.pointer (some ⟨b, off, none⟩)) w') ∧ (∀ j u, (pcells p)[j]? = some u → wr.cell? ⟨b, off + j, none⟩ = some u) ∧ r.cp[k]? = some p ∧ ((0 ≤ p.dev ∧ p.dev ≤ 11) ∧ (0 ≤ p.pl ∧ p.pl ≤ 4095) ∧ (0 ≤ p.len ∧ p.len ≤ 255)) ∧ (encPs (r.cp.take k)).length ≤ 40) := ⟨hx, hc, hp, HM.out.ok p (List.mem_of_getElem? hp), take_len _ _ (by rw [← HN.out]; exact hk) HM.out.few⟩
            clear hx hc hp
            go_upto_region 18 with fail
            refine wp_region_lit ?_
            refine wl rfl (.pointer (some ⟨q, 0 + 38, none⟩)) _ (run_fieldOp' f26_7 (.tmp 1) rfl q (0) rfl) ?_
            simp only [Act.put, List.setIfInBounds_toArray, List.set_cons_succ, List.set_cons_zero]
            refine wl rfl vc _ (run_load1 o24 (.tmp 59) rfl q (0 + 38) rfl vc ((HK.out.loc.at 0 rfl).at 38 _ (rcB vc HF.out.root 4))) ?_
            simp only [Act.put, List.setIfInBounds_toArray, List.set_cons_succ, List.set_cons_zero]
            refine wl rfl (.int .i64 (k : Nat)) _ (run_mvZ (.tmp 6) rfl (.int .i64 (k : Nat)) rfl) ?_
            simp only [Act.put, List.setIfInBounds_toArray, List.set_cons_succ, List.set_cons_zero]
            refine wl rfl (.pointer (some ⟨b, off, none⟩)) _ (run_idx (.tmp 60) (.tmp 61) rfl vc _ _ rfl rfl HX.out.1) ?_
            simp only [Act.put, List.setIfInBounds_toArray, List.set_cons_succ, List.set_cons_zero]
            refine wl rfl (.agg (pcells p).toArray) _ (run_loadA ag43 (.tmp 62) rfl b (off) rfl (pcells p) rfl HX.out.2.1) ?_
            simp only [Act.put, List.setIfInBounds_toArray, List.set_cons_succ, List.set_cons_zero]
            refine wl rfl (ptr wr.heap.size) _ (run_allocA (pcells ⟨0, 0, 0, false⟩) zero43 rfl) ?_
            obtain ⟨q7, hq⟩ : ∃ q, q = wr.heap.size := ⟨_, rfl⟩
            obtain ⟨w7, hw⟩ : ∃ W, W = wr.alloc (.cells (pcells ⟨0, 0, 0, false⟩).toArray 43) := ⟨_, rfl⟩
            have K1 : Hid (Bt w w7 [(q, 26, rcells r vc), (q7, 43, pcells ⟨0, 0, 0, false⟩)] u4 (encH r ++ encPs (r.cp.take k))) := hq ▸ hw ▸ HK.out.box 43 (pcells ⟨0, 0, 0, false⟩) (by decide)
            rw [← hq, ← hw]
            clear hq hw
            simp only [Act.put, List.setIfInBounds_toArray, List.set_cons_succ, List.set_cons_zero]
            have hst := run_storeVar ag43 w7 q7 0 43 (pcells ⟨0, 0, 0, false⟩) (pcells p) rfl (K1.out.loc.at 1 rfl) (by simp [pcells]) (pcells_one p)
            rw [splice43] at hst
            refine wlS rfl rfl _ (run_stV (.tmp 7) (.tmp 63) rfl q7 0 rfl _ rfl hst) ?_
            obtain ⟨w8, hw⟩ : ∃ W, W = w7.setRow q7 (pcells p).toArray := ⟨_, rfl⟩
            have K2 : Hid (Bt w w8 [(q, 26, rcells r vc), (q7, 43, pcells p)] u4 (encH r ++ encPs (r.cp.take k))) := hw ▸ K1.out.set 1 rfl ((K1.out.loc.at 1 rfl).setRow (pcells p)) ((Ch.refl (· = q7) w7).setRow (g := q7) (Or.inl rfl) _)
            rw [← hw]
            clear hw hst K1
            refine wpList_nil ?_
            go_upto_region 19 with fail
            refine wp_region_lit ?_
            refine wl rfl u4 _ (run_mvZ (.tmp 4) rfl u4 rfl) ?_
            simp only [Act.put, List.setIfInBounds_toArray, List.set_cons_succ, List.set_cons_zero]
            refine wl rfl (.pointer (some ⟨q7, 0 + 0, none⟩)) _ (run_fieldOp' f43_0 (.tmp 7) rfl q7 (0) rfl) ?_
            simp only [Act.put, List.setIfInBounds_toArray, List.set_cons_succ, List.set_cons_zero]
            refine wl rfl (.int .i64 p.dev) _ (run_load1 o3 (.tmp 65) rfl q7 (0 + 0) rfl (.int .i64 p.dev) ((K2.out.loc.at 1 rfl).at 0 _ rfl)) ?_
            simp only [Act.put, List.setIfInBounds_toArray, List.set_cons_succ, List.set_cons_zero]
            refine wpList_callW eN24 [.tmp 64, .tmp 66, .const (.int .i64 1)] _ rfl rfl [u4, (.int .i64 ((p.dev.toNat : Nat) : Int)), (.int .i64 1)] (by rw [show ((p.dev.toNat : Nat) : Int) = p.dev by have := HX.out.2.2.2.1.1.1; omega]; rfl) ?_
            refine (Fr.put_grow u4 (encH r ++ encPs (r.cp.take k)) p.dev.toNat 1 w.heap.size w8 K2.out.own K2.out.size (by decide) (by have := (show (encH r ++ encPs (r.cp.take k)).length ≤ 1000 by have h1 := encH_length HM.out; have h2 := HX.out.2.2.2.2; simp; omega); simp at this ⊢; omega) (K2.out.own.hasBlock (by simp [encH, encE]))).mono ?_
            rintro e w9p ⟨v9p, rfl, o_, g_⟩
            refine ⟨_, rfl, ?_⟩
            have K3 : Hid (Bt w w9p [(q, 26, rcells r vc), (q7, 43, pcells p)] v9p (encH r ++ encPs (r.cp.take k) ++ Fr.Frame.be 1 p.dev.toNat)) := K2.out.grow g_ o_
            clear o_ g_ K2
            simp only [Act.put, List.setIfInBounds_toArray, List.set_cons_succ, List.set_cons_zero]
            refine wl rfl v9p _ (run_asZ (.tmp 67) rfl v9p rfl) ?_
            simp only [Act.put, List.setIfInBounds_toArray, List.set_cons_succ, List.set_cons_zero]
            refine wpList_nil ?_
            go_upto_region 20 with fail
            refine wp_region_lit ?_
            refine wl rfl v9p _ (run_mvZ (.tmp 4) rfl v9p rfl) ?_
            simp only [Act.put, List.setIfInBounds_toArray, List.set_cons_succ, List.set_cons_zero]
            refine wl rfl (.pointer (some ⟨q7, 0 + 1, none⟩)) _ (run_fieldOp' f43_1 (.tmp 7) rfl q7 (0) rfl) ?_
            simp only [Act.put, List.setIfInBounds_toArray, List.set_cons_succ, List.set_cons_zero]
            refine wl rfl (.int .i64 p.pl) _ (run_load1 o3 (.tmp 69) rfl q7 (0 + 1) rfl (.int .i64 p.pl) ((K3.out.loc.at 1 rfl).at 1 _ rfl)) ?_
            simp only [Act.put, List.setIfInBounds_toArray, List.set_cons_succ, List.set_cons_zero]
            refine wpList_callW eN24 [.tmp 68, .tmp 70, .const (.int .i64 2)] _ rfl rfl [v9p, (.int .i64 ((p.pl.toNat : Nat) : Int)), (.int .i64 2)] (by rw [show ((p.pl.toNat : Nat) : Int) = p.pl by have := HX.out.2.2.2.1.2.1.1; omega]; rfl) ?_
            refine (Fr.put_grow v9p (encH r ++ encPs (r.cp.take k) ++ Fr.Frame.be 1 p.dev.toNat) p.pl.toNat 2 w.heap.size w9p K3.out.own K3.out.size (by decide) (by have h1 := encH_length HM.out; have h2 := HX.out.2.2.2.2; simp [Fr.Frame.be_length]; omega) (K3.out.own.hasBlock (by simp [encH, encE]))).mono ?_
            rintro e w10p ⟨v10p, rfl, o_, g_⟩
            refine ⟨_, rfl, ?_⟩
            have K4 : Hid (Bt w w10p [(q, 26, rcells r vc), (q7, 43, pcells p)] v10p (encH r ++ encPs (r.cp.take k) ++ Fr.Frame.be 1 p.dev.toNat ++ Fr.Frame.be 2 p.pl.toNat)) := K3.out.grow g_ o_
            clear o_ g_ K3
            simp only [Act.put, List.setIfInBounds_toArray, List.set_cons_succ, List.set_cons_zero]
            refine wl rfl v10p _ (run_asZ (.tmp 71) rfl v10p rfl) ?_
            simp only [Act.put, List.setIfInBounds_toArray, List.set_cons_succ, List.set_cons_zero]
            refine wpList_nil ?_
            go_upto_region 21 with fail
            refine wp_region_lit ?_
            refine wl rfl v10p _ (run_mvZ (.tmp 4) rfl v10p rfl) ?_
            simp only [Act.put, List.setIfInBounds_toArray, List.set_cons_succ, List.set_cons_zero]
            refine wl rfl (.pointer (some ⟨q7, 0 + 2, none⟩)) _ (run_fieldOp' f43_2 (.tmp 7) rfl q7 (0) rfl) ?_
            simp only [Act.put, List.setIfInBounds_toArray, List.set_cons_succ, List.set_cons_zero]
            refine wl rfl (.int .i64 p.len) _ (run_load1 o3 (.tmp 73) rfl q7 (0 + 2) rfl (.int .i64 p.len) ((K4.out.loc.at 1 rfl).at 2 _ rfl)) ?_
            simp only [Act.put, List.setIfInBounds_toArray, List.set_cons_succ, List.set_cons_zero]
            refine wpList_callW eN24 [.tmp 72, .tmp 74, .const (.int .i64 1)] _ rfl rfl [v10p, (.int .i64 ((p.len.toNat : Nat) : Int)), (.int .i64 1)] (by rw [show ((p.len.toNat : Nat) : Int) = p.len by have := HX.out.2.2.2.1.2.2.1; omega]; rfl) ?_
            refine (Fr.put_grow v10p (encH r ++ encPs (r.cp.take k) ++ Fr.Frame.be 1 p.dev.toNat ++ Fr.Frame.be 2 p.pl.toNat) p.len.toNat 1 w.heap.size w10p K4.out.own K4.out.size (by decide) (by have h1 := encH_length HM.out; have h2 := HX.out.2.2.2.2; simp [Fr.Frame.be_length]; omega) (K4.out.own.hasBlock (by simp [encH, encE]))).mono ?_
            rintro e w11p ⟨v11p, rfl, o_, g_⟩
            refine ⟨_, rfl, ?_⟩
            have K5 : Hid (Bt w w11p [(q, 26, rcells r vc), (q7, 43, pcells p)] v11p (encH r ++ encPs (r.cp.take k) ++ Fr.Frame.be 1 p.dev.toNat ++ Fr.Frame.be 2 p.pl.toNat ++ Fr.Frame.be 1 p.len.toNat)) := K4.out.grow g_ o_
            clear o_ g_ K4
            simp only [Act.put, List.setIfInBounds_toArray, List.set_cons_succ, List.set_cons_zero]
            refine wl rfl v11p _ (run_asZ (.tmp 75) rfl v11p rfl) ?_
            simp only [Act.put, List.setIfInBounds_toArray, List.set_cons_succ, List.set_cons_zero]
            refine wpList_nil ?_
            obtain ⟨bb, hbb⟩ : ∃ b, b = p.bad := ⟨_, rfl⟩
            have HBB : Hid (p.bad = bb) := hbb.symm
            clear hbb
            cases bb with
            | false =>
              go_upto_region 22 with fail
              refine wp_region_lit ?_
              refine wl rfl (.pointer (some ⟨q7, 0 + 3, none⟩)) _ (run_fieldOp' f43_3 (.tmp 7) rfl q7 (0) rfl) ?_
              simp only [Act.put, List.setIfInBounds_toArray, List.set_cons_succ, List.set_cons_zero]
              refine wl rfl (.bool false) _ (run_load1 o4 (.tmp 76) rfl q7 (0 + 3) rfl (.bool false) ((K5.out.loc.at 1 rfl).at 3 _ (by rw [← HBB.out]; rfl))) ?_
              simp only [Act.put, List.setIfInBounds_toArray, List.set_cons_succ, List.set_cons_zero]
              refine wpList_nil ?_
              go_upto_region 24 with fail
              refine wp_region_lit ?_
              refine wl rfl v11p _ (run_mvZ (.tmp 4) rfl v11p rfl) ?_
              simp only [Act.put, List.setIfInBounds_toArray, List.set_cons_succ, List.set_cons_zero]
              refine wl rfl (whole w11p.heap.size 1) _ (run_litB1 (.const (.int .u8 0)) rfl 0 rfl) ?_
              obtain ⟨vl, hvl⟩ : ∃ v, v = whole w11p.heap.size 1 := ⟨_, rfl⟩
              obtain ⟨w12, hw⟩ : ∃ W, W = w11p.alloc (.cells (bcells [0]).toArray 5) := ⟨_, rfl⟩
              have K6 : Hid (Bt w w12 [(q, 26, rcells r vc), (q7, 43, pcells p)] v11p (encH r ++ encPs (r.cp.take k) ++ Fr.Frame.be 1 p.dev.toNat ++ Fr.Frame.be 2 p.pl.toNat ++ Fr.Frame.be 1 p.len.toNat) ∧ SliceIn w12 vl [0]) := ⟨hw ▸ K5.out.later (below_alloc w11p _), hvl ▸ hw ▸ whole_slice (Row.new w11p 5 (bcells [0])) (one_lt (by decide)) (by simp)⟩
              rw [← hvl, ← hw]
              clear hvl hw K5
              simp only [Act.put, List.setIfInBounds_toArray, List.set_cons_succ, List.set_cons_zero]
              refine wl_bgrow (.tmp 81) (.tmp 82) rfl rfl w.heap.size v11p vl (encH r ++ encPs (r.cp.take k) ++ Fr.Frame.be 1 p.dev.toNat ++ Fr.Frame.be 2 p.pl.toNat ++ Fr.Frame.be 1 p.len.toNat) [0] rfl K6.out.1.own rfl K6.out.2 (by have h1 := encH_length HM.out; have h2 := HX.out.2.2.2.2; simp [Fr.Frame.be_length]; omega) K6.out.1.size ?_
              intro v13 w13 o_ g_
              have K7 : Hid (EnK w q r vc w13 v13 (k + 1)) := (by
                show Bt _ _ _ _ _
                have h2 := (K6.out.1.grow g_ o_).drop 1
                have e1 : bitB p.bad 1 = 0 := (by rw [HBB.out]; rfl)
                rw [encPs_take _ _ _ HX.out.2.2.1]
                simpa [encP, e1] using h2)
              clear o_ g_ K6
              simp only [Act.put, List.setIfInBounds_toArray, List.set_cons_succ, List.set_cons_zero]
              refine wl rfl v13 _ (run_asZ (.tmp 83) rfl v13 rfl) ?_
              simp only [Act.put, List.setIfInBounds_toArray, List.set_cons_succ, List.set_cons_zero]
              refine wpList_nil ?_
              go_wp2_with fail
              refine ⟨⟨k + 1, by go_num, by omega, K7.out⟩, ?_⟩
              simp [intOf]; omega
            | true =>
              go_upto_region 22 with fail
              refine wp_region_lit ?_
              refine wl rfl (.pointer (some ⟨q7, 0 + 3, none⟩)) _ (run_fieldOp' f43_3 (.tmp 7) rfl q7 (0) rfl) ?_
              simp only [Act.put, List.setIfInBounds_toArray, List.set_cons_succ, List.set_cons_zero]
              refine wl rfl (.bool true) _ (run_load1 o4 (.tmp 76) rfl q7 (0 + 3) rfl (.bool true) ((K5.out.loc.at 1 rfl).at 3 _ (by rw [← HBB.out]; rfl))) ?_
              simp only [Act.put, List.setIfInBounds_toArray, List.set_cons_succ, List.set_cons_zero]
              refine wpList_nil ?_
              go_upto_region 23 with fail
              refine wp_region_lit ?_
              refine wl rfl v11p _ (run_mvZ (.tmp 4) rfl v11p rfl) ?_
              simp only [Act.put, List.setIfInBounds_toArray, List.set_cons_succ, List.set_cons_zero]
              refine wl rfl (whole w11p.heap.size 1) _ (run_litB1 (.const (.int .u8 1)) rfl 1 rfl) ?_
              obtain ⟨vl, hvl⟩ : ∃ v, v = whole w11p.heap.size 1 := ⟨_, rfl⟩
              obtain ⟨w12, hw⟩ : ∃ W, W = w11p.alloc (.cells (bcells [1]).toArray 5) := ⟨_, rfl⟩
              have K6 : Hid (Bt w w12 [(q, 26, rcells r vc), (q7, 43, pcells p)] v11p (encH r ++ encPs (r.cp.take k) ++ Fr.Frame.be 1 p.dev.toNat ++ Fr.Frame.be 2 p.pl.toNat ++ Fr.Frame.be 1 p.len.toNat) ∧ SliceIn w12 vl [1]) := ⟨hw ▸ K5.out.later (below_alloc w11p _), hvl ▸ hw ▸ whole_slice (Row.new w11p 5 (bcells [1])) (one_lt (by decide)) (by simp)⟩
              rw [← hvl, ← hw]
              clear hvl hw K5
              simp only [Act.put, List.setIfInBounds_toArray, List.set_cons_succ, List.set_cons_zero]
              refine wl_bgrow (.tmp 78) (.tmp 79) rfl rfl w.heap.size v11p vl (encH r ++ encPs (r.cp.take k) ++ Fr.Frame.be 1 p.dev.toNat ++ Fr.Frame.be 2 p.pl.toNat ++ Fr.Frame.be 1 p.len.toNat) [1] rfl K6.out.1.own rfl K6.out.2 (by have h1 := encH_length HM.out; have h2 := HX.out.2.2.2.2; simp [Fr.Frame.be_length]; omega) K6.out.1.size ?_
              intro v13 w13 o_ g_
              have K7 : Hid (EnK w q r vc w13 v13 (k + 1)) := (by
                show Bt _ _ _ _ _
                have h2 := (K6.out.1.grow g_ o_).drop 1
                have e1 : bitB p.bad 1 = 1 := (by rw [HBB.out]; rfl)
                rw [encPs_take _ _ _ HX.out.2.2.1]
                simpa [encP, e1] using h2)
              clear o_ g_ K6
              simp only [Act.put, List.setIfInBounds_toArray, List.set_cons_succ, List.set_cons_zero]
              refine wl rfl v13 _ (run_asZ (.tmp 80) rfl v13 rfl) ?_
              simp only [Act.put, List.setIfInBounds_toArray, List.set_cons_succ, List.set_cons_zero]
              refine wpList_nil ?_
              go_wp2_with fail
              refine ⟨⟨k + 1, by go_num, by omega, K7.out⟩, ?_⟩
              simp [intOf]; omega
          · have t1 : decide ((k : Int) < (n : Int)) = false := decide_eq_false (by omega)
            rw [t1]
            clear t1
            have ek : k = n := by omega
            have KE : Hid (Bt w wr [(q, 26, rcells r vc)] u4 (enc r)) := (by
              show Bt _ _ _ _ _
              have h2 : Bt _ _ _ _ _ := HK.out
              rw [ek, HN.out, List.take_length, encH_all] at h2
              exact h2)
            clear ek
            go_wp2_with fail
            rw [HPQ.out]
            exact ⟨_, _, rfl, KE.out.loc.below, Or.inr ⟨HM.out.may, KE.out.own, rfl⟩⟩

end Go.Proofs.Ytncjmolhofnpbaa

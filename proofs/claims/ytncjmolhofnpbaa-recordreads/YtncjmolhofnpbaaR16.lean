/- Entries written. -/
import Derived.Test.YtncjmolhofnpbaaR15
namespace Go.Proofs.Ytncjmolhofnpbaa
open Go.RowKit

theorem run_toU8n {w : World} {a : Act} {o : Oper} (x : Operand) (ho : o.op = .convert 3 5 x) (k : Nat) (h0 : k ≤ 255) (hx : a.eval x = .int .i64 (k : Nat)) : (execOp a.eval o).run Try.prog w = .ok (.value (.int .u8 (k : Nat))) w := by
  have := run_toU8 (w := w) x ho (k : Nat) ⟨by omega, by omega⟩ hx
  rw [Int.toNat_natCast] at this
  exact this
theorem in_root {w : World} {q T : Nat} {root : List Nat} (hr : Row w q T (bcells root)) (hl : root.length = 32) (hb : ∀ c ∈ root, c < 256) : SliceIn w (.slice (some ⟨q, 0, none⟩) 32 32) root :=
  ⟨_, _, by rw [hl], ⟨by omega, by omega⟩, Or.inr ⟨q, 0, rfl, fun j hj => by rw [Nat.zero_add]; exact hr.at j _ (bcells_at root j hj), lt256 root hb⟩⟩
theorem BOwn.sliceB {w : World} {base : Nat} {v : Value} {cs : List Nat} (h : BOwn w base v cs) (hb : ∀ c ∈ cs, c < 256) (hl : cs.length ≤ 1000) : SliceIn w v cs := h.slice hb (by omega)
theorem BOwn.cells1 {w : World} {base : Nat} {v : Value} {cs : List Nat} (h : BOwn w base v cs) : ∃ p n c, v = .slice p n c := by
  rcases h.2 with ⟨rfl, _⟩ | ⟨g, cap, cur, rfl, _⟩
  · exact ⟨_, _, _, rfl⟩
  · exact ⟨_, _, _, rfl⟩
/-- what Entry tells -/
def EntS (w w' : World) (id root : List Nat) (n : Int) (v : Value) (er : Int) : Prop :=
  Below w.heap.size w w' ∧ ((entB id n = false ∧ v = .slice none 0 0 ∧ er = 110) ∨ (entB id n = true ∧ BOwn w' w.heap.size v (encE id n root) ∧ er = 0))
theorem encE_eq (id root : List Nat) (n : Int) : [id.length] ++ id ++ Fr.Frame.be 2 n.toNat ++ root = encE id n root := by simp [encE]
theorem ent_bounds {id : List Nat} {n : Int} (h : entB id n = true) : id.length ≤ 16 ∧ 0 ≤ n ∧ n ≤ 512 := by
  simp [entB, nameB, inB] at h
  omega
section
variable {w : World} {ops : Array Oper} {rest : List Oper} {o : Oper} {a : Act} {Q : Exit → Act → World → Prop}
theorem wl_appS (sv x : Operand) (hgd : Region.wanted o (yielded ops a.tmps) = true) (ho : o.op = .call { callee := .builtin .append, args := #[sv, x], argTypes := #[28, 9] }) (base : Nat) (v : Value) (cs id : List Nat) (hb : ∀ c ∈ id, c < 256) (hs : a.eval sv = v) (hx : a.eval x = str id) (hown : BOwn w base v cs) (hsz : cs.length + id.length ≤ 1000) (hbase : base ≤ w.heap.size)
    (h : ∀ v' w', BOwn w' base v' (cs ++ id) → w.grownBy w' v.ownBlock → wpList Try.prog ops Q rest (a.put o.dst v') w') : wpList Try.prog ops Q (o :: rest) a w := by
  obtain ⟨v', w', hr, h1, h2⟩ := run_appS sv x ho base v cs id hb hs hx hown hsz hbase
  exact wl hgd v' w' hr (h v' w' h1 h2)
theorem wl_strBs (x : Operand) (hgd : Region.wanted o (yielded ops a.tmps) = true) (ho : o.op = .convert 9 28 x) (id : List Nat) (hb : ∀ c ∈ id, c < 256) (hl : id.length ≤ 1000) (hx : a.eval x = str id)
    (h : ∀ v' w', SliceIn w' v' id → Below w.heap.size w w' → wpList Try.prog ops Q rest (a.put o.dst v') w') : wpList Try.prog ops Q (o :: rest) a w := by
  obtain ⟨v', w', hr, h1, h2⟩ := run_strBs (w := w) x ho id hb hl hx
  exact wl hgd v' w' hr (h v' w' h1 h2)
end
set_option maxHeartbeats 1000000 in
theorem entry11_any (id root : List Nat) (n : Int) (w : World) (hid : ∀ c ∈ id, c < 256) (hr32 : root.length = 32) (hrb : ∀ c ∈ root, c < 256) : Calls Try.prog 11 #[str id, .int .i64 n, .agg (bcells root).toArray] w fun e w' => ∃ v er, e = .returned (.tuple #[v, .int .i64 er]) ∧ EntS w w' id root n v er := by
  have HF : Hid ((∀ c ∈ id, c < 256) ∧ root.length = 32 ∧ (∀ c ∈ root, c < 256)) := ⟨hid, hr32, hrb⟩
  clear hid hr32 hrb
  obtain ⟨PQ, HPQ⟩ : ∃ PQ : Ending → World → Prop, Hid (PQ = fun e w' => ∃ v er, e = .returned (.tuple #[v, .int .i64 er]) ∧ EntS w w' id root n v er) := ⟨_, rfl⟩
  rw [← HPQ.out]
  have R0 : Hid (Loc w w []) := Loc.nil (Below.refl _ w)
  go_enter Try.func11, Try.ntmps11
  go_upto_region 0 with fail
  refine wp_region_lit ?_
  refine wl rfl (ptr w.heap.size) _ (run_boxA (.tmp 2) rfl (bcells root) rfl) ?_
  have k_ := R0.out.box 23 (bcells root)
  obtain ⟨w1, hW_⟩ : ∃ W, W = w.alloc (.cells (bcells root).toArray 23) := ⟨_, rfl⟩
  obtain ⟨q, hq_⟩ : ∃ q, q = w.heap.size := ⟨_, rfl⟩
  rw [← hW_, ← hq_] at k_
  rw [← hW_, ← hq_]
  clear hq_
  have Rw1 : Hid (Loc w w1 [(q, 23, bcells root)]) := k_
  clear k_ hW_ R0
  simp only [Act.put, List.setIfInBounds_toArray, List.set_cons_succ, List.set_cons_zero]
  refine wl rfl (.slice none 0 0) _ (run_asZ (.const (.slice none 0 0)) rfl (.slice none 0 0) rfl) ?_
  simp only [Act.put, List.setIfInBounds_toArray, List.set_cons_succ, List.set_cons_zero]
  refine wl rfl (.int .i64 0) _ (run_asZ (.const (.int .i64 0)) rfl (.int .i64 0) rfl) ?_
  simp only [Act.put, List.setIfInBounds_toArray, List.set_cons_succ, List.set_cons_zero]
  refine wpList_nil ?_
  go_upto_region 1 with fail
  refine wp_region_lit ?_
  refine wl rfl (str id) _ (run_mvZ (.tmp 0) rfl (str id) rfl) ?_
  simp only [Act.put, List.setIfInBounds_toArray, List.set_cons_succ, List.set_cons_zero]
  refine wl rfl (.int .i64 n) _ (run_mvZ (.tmp 1) rfl (.int .i64 n) rfl) ?_
  simp only [Act.put, List.setIfInBounds_toArray, List.set_cons_succ, List.set_cons_zero]
  refine wpList_callW eN25 [.tmp 9, .tmp 10] _ rfl rfl [(str id), (.int .i64 n)] rfl ?_
  refine (entryHolds_any id HF.out.1 n w1).mono ?_
  rintro e w2 ⟨rfl, rfl⟩
  refine ⟨_, rfl, ?_⟩
  obtain ⟨ok, hok⟩ : ∃ ok, ok = entB id n := ⟨_, rfl⟩
  have HOK : Hid (ok = entB id n) := hok
  rw [← hok]
  clear hok
  simp only [Act.put, List.setIfInBounds_toArray, List.set_cons_succ, List.set_cons_zero]
  refine wl rfl (.bool (!ok)) _ (run_not (.tmp 11) 4 rfl ok rfl) ?_
  simp only [Act.put, List.setIfInBounds_toArray, List.set_cons_succ, List.set_cons_zero]
  refine wpList_nil ?_
  cases ok with
  | false =>
    go_wp2_with fail
    rw [HPQ.out]
    exact ⟨_, _, rfl, Rw1.out.below, Or.inl ⟨HOK.out.symm, rfl, rfl⟩⟩
  | true =>
    have HB : Hid (id.length ≤ 16 ∧ 0 ≤ n ∧ n ≤ 512) := ent_bounds HOK.out.symm
    go_upto_region 3 with fail
    refine wp_region_lit ?_
    refine wl rfl (str id) _ (run_mvZ (.tmp 0) rfl (str id) rfl) ?_
    simp only [Act.put, List.setIfInBounds_toArray, List.set_cons_succ, List.set_cons_zero]
    refine wl rfl (.int .i64 (id.length : Nat)) _ (run_lenS id (.tmp 13) rfl rfl) ?_
    simp only [Act.put, List.setIfInBounds_toArray, List.set_cons_succ, List.set_cons_zero]
    refine wl rfl (.int .u8 (id.length : Nat)) _ (run_toU8n (.tmp 14) rfl id.length (by have := HB.out.1; omega) rfl) ?_
    simp only [Act.put, List.setIfInBounds_toArray, List.set_cons_succ, List.set_cons_zero]
    refine wl rfl (whole w1.heap.size 1) _ (run_litB1 (.tmp 15) rfl id.length rfl) ?_
    obtain ⟨v2, hv2⟩ : ∃ v, v = whole w1.heap.size 1 := ⟨_, rfl⟩
    obtain ⟨w2, hw⟩ : ∃ W, W = w1.alloc (.cells (bcells [id.length]).toArray 5) := ⟨_, rfl⟩
    have B2 : Hid (Bt w w2 [(q, 23, bcells root)] v2 [id.length]) := (by
      have hb := below_alloc w1 (.cells (bcells [id.length]).toArray 5)
      refine ⟨hw ▸ Rw1.out.later hb, hv2 ▸ hw ▸ whole_own (Row.new w1 5 (bcells [id.length])) Rw1.out.below.size (by simp), fun i g T c e => ?_⟩
      match i, e with
      | 0, e => cases e; decide
      | i + 1, e => simp at e)
    rw [← hv2, ← hw]
    clear hv2 hw Rw1
    simp only [Act.put, List.setIfInBounds_toArray, List.set_cons_succ, List.set_cons_zero]
    refine wl rfl (str id) _ (run_mvZ (.tmp 0) rfl (str id) rfl) ?_
    simp only [Act.put, List.setIfInBounds_toArray, List.set_cons_succ, List.set_cons_zero]
    refine wl_appS (.tmp 16) (.tmp 17) rfl rfl w.heap.size v2 [id.length] id HF.out.1 rfl rfl B2.out.own (by simp; have := HB.out.1; omega) B2.out.size ?_
    intro v3 w3 o3 g3
    have B3 : Hid (Bt w w3 [(q, 23, bcells root)] v3 ([id.length] ++ id)) := B2.out.grow g3 o3
    clear o3 g3 B2
    simp only [Act.put, List.setIfInBounds_toArray, List.set_cons_succ, List.set_cons_zero]
    refine wl rfl v3 _ (run_asZ (.tmp 18) rfl v3 rfl) ?_
    simp only [Act.put, List.setIfInBounds_toArray, List.set_cons_succ, List.set_cons_zero]
    refine wpList_nil ?_
    go_upto_region 4 with fail
    refine wp_region_lit ?_
    refine wl rfl v3 _ (run_mvZ (.tmp 8) rfl v3 rfl) ?_
    simp only [Act.put, List.setIfInBounds_toArray, List.set_cons_succ, List.set_cons_zero]
    refine wl rfl (.int .i64 n) _ (run_mvZ (.tmp 1) rfl (.int .i64 n) rfl) ?_
    simp only [Act.put, List.setIfInBounds_toArray, List.set_cons_succ, List.set_cons_zero]
    refine wl rfl (.int .u64 (n.toNat : Nat)) _ (run_toU64 (.tmp 20) rfl n ⟨HB.out.2.1, by have := HB.out.2.2; omega⟩ rfl) ?_
    simp only [Act.put, List.setIfInBounds_toArray, List.set_cons_succ, List.set_cons_zero]
    refine wpList_callW eN21 [.tmp 19, .tmp 21, .const ((.int .i64 2))] _ rfl rfl [v3, (.int .u64 (n.toNat : Nat)), (.int .i64 2)] rfl ?_
    refine (Fr.number_yes v3 ([id.length] ++ id) n.toNat 2 w3 (B3.out.own.sliceB (fun c hc => by rcases List.mem_append.1 hc with h | h; (rw [List.mem_singleton.1 h]; have := HB.out.1; omega); exact HF.out.1 c h) (by simp; have := HB.out.1; omega)) (by decide) (by decide) (by simp; have := HB.out.1; omega)).mono ?_
    rintro e w4 ⟨v4, rfl, o4, b4⟩
    refine ⟨_, rfl, ?_⟩
    have B4 : Hid (Bt w w4 [(q, 23, bcells root)] v4 ([id.length] ++ id ++ Fr.Frame.be 2 n.toNat)) := B3.out.anew b4 o4
    clear o4 b4 B3
    simp only [Act.put, List.setIfInBounds_toArray, List.set_cons_succ, List.set_cons_zero]
    refine wl rfl v4 _ (run_asZ (.tmp 22) rfl v4 rfl) ?_
    simp only [Act.put, List.setIfInBounds_toArray, List.set_cons_succ, List.set_cons_zero]
    refine wpList_nil ?_
    go_upto_region 5 with fail
    refine wp_region_lit ?_
    refine wl rfl v4 _ (run_mvZ (.tmp 8) rfl v4 rfl) ?_
    simp only [Act.put, List.setIfInBounds_toArray, List.set_cons_succ, List.set_cons_zero]
    refine wl rfl (.slice (some ⟨q, 0, none⟩) 32 32) _ (run_slA arr23 (.tmp 5) none none rfl q 0 0 32 rfl ⟨Or.inl ⟨rfl, rfl⟩, Or.inl ⟨rfl, rfl⟩, by decide, by decide, by decide⟩) ?_
    simp only [Act.put, List.setIfInBounds_toArray, List.set_cons_succ, List.set_cons_zero]
    refine wl_bgrow (.tmp 23) (.tmp 24) rfl rfl w.heap.size v4 (.slice (some ⟨q, 0, none⟩) 32 32) ([id.length] ++ id ++ Fr.Frame.be 2 n.toNat) root rfl B4.out.own rfl (in_root (B4.out.loc.at 0 rfl) HF.out.2.1 HF.out.2.2) (by simp [Fr.Frame.be_length, HF.out.2.1]; have := HB.out.1; omega) B4.out.size ?_
    intro v5 w5 o5 g5
    have B5 : Hid (Bt w w5 [(q, 23, bcells root)] v5 (encE id n root)) := (by rw [← encE_eq]; exact B4.out.grow g5 o5)
    clear o5 g5 B4
    simp only [Act.put, List.setIfInBounds_toArray, List.set_cons_succ, List.set_cons_zero]
    refine wl rfl v5 _ (run_asZ (.tmp 25) rfl v5 rfl) ?_
    simp only [Act.put, List.setIfInBounds_toArray, List.set_cons_succ, List.set_cons_zero]
    refine wl rfl (.int .i64 0) _ (run_asZ (.const (.int .i64 0)) rfl (.int .i64 0) rfl) ?_
    simp only [Act.put, List.setIfInBounds_toArray, List.set_cons_succ, List.set_cons_zero]
    refine wpList_nil ?_
    go_wp2_with fail
    rw [HPQ.out]
    exact ⟨_, _, rfl, B5.out.loc.below, Or.inr ⟨HOK.out.symm, B5.out.own, rfl⟩⟩
set_option maxHeartbeats 1000000 in
theorem refEntry_any (id root : List Nat) (n : Int) (w : World) (hid : ∀ c ∈ id, c < 256) (hr32 : root.length = 32) (hrb : ∀ c ∈ root, c < 256) : Calls Try.prog 12 #[str id, .int .i64 n, .agg (bcells root).toArray] w fun e w' => ∃ v er, e = .returned (.tuple #[v, .int .i64 er]) ∧ EntS w w' id root n v er := by
  have HF : Hid ((∀ c ∈ id, c < 256) ∧ root.length = 32 ∧ (∀ c ∈ root, c < 256)) := ⟨hid, hr32, hrb⟩
  clear hid hr32 hrb
  obtain ⟨PQ, HPQ⟩ : ∃ PQ : Ending → World → Prop, Hid (PQ = fun e w' => ∃ v er, e = .returned (.tuple #[v, .int .i64 er]) ∧ EntS w w' id root n v er) := ⟨_, rfl⟩
  rw [← HPQ.out]
  have R0 : Hid (Loc w w []) := Loc.nil (Below.refl _ w)
  go_enter Try.func12, Try.ntmps12
  go_upto_region 0 with fail
  refine wp_region_lit ?_
  refine wl rfl (ptr w.heap.size) _ (run_boxA (.tmp 2) rfl (bcells root) rfl) ?_
  have k_ := R0.out.box 23 (bcells root)
  obtain ⟨w1, hW_⟩ : ∃ W, W = w.alloc (.cells (bcells root).toArray 23) := ⟨_, rfl⟩
  obtain ⟨q, hq_⟩ : ∃ q, q = w.heap.size := ⟨_, rfl⟩
  rw [← hW_, ← hq_] at k_
  rw [← hW_, ← hq_]
  clear hq_
  have Rw1 : Hid (Loc w w1 [(q, 23, bcells root)]) := k_
  clear k_ hW_ R0
  simp only [Act.put, List.setIfInBounds_toArray, List.set_cons_succ, List.set_cons_zero]
  refine wl rfl (.slice none 0 0) _ (run_asZ (.const (.slice none 0 0)) rfl (.slice none 0 0) rfl) ?_
  simp only [Act.put, List.setIfInBounds_toArray, List.set_cons_succ, List.set_cons_zero]
  refine wl rfl (.int .i64 0) _ (run_asZ (.const (.int .i64 0)) rfl (.int .i64 0) rfl) ?_
  simp only [Act.put, List.setIfInBounds_toArray, List.set_cons_succ, List.set_cons_zero]
  refine wpList_nil ?_
  have H1 := fun W => refName_any id HF.out.1 W
  have HE0 : entB id n = (nameB id && inB n 512) := rfl
  generalize nameB id = b0 at H1 HE0
  have HE : Hid (entB id n = (b0 && inB n 512)) := HE0
  have H : Hid (∀ W, Calls Try.prog 14 #[str id] W fun e w' => e = .returned (.bool b0) ∧ W = w') := H1
  clear H1 HE0
  obtain ⟨b1, hb1⟩ : ∃ b, decide (n < 0) = b := ⟨_, rfl⟩
  have HB1 : Hid (decide (n < 0) = b1) := hb1
  obtain ⟨b2, hb2⟩ : ∃ b, decide ((512 : Int) < n) = b := ⟨_, rfl⟩
  have HB2 : Hid (decide ((512 : Int) < n) = b2) := hb2
  clear hb1 hb2
  cases b0 with
  | false =>
    go_upto_region 1 with fail
    refine wp_region_lit ?_
    refine wl rfl (str id) _ (run_mvZ (.tmp 0) rfl (str id) rfl) ?_
    simp only [Act.put, List.setIfInBounds_toArray, List.set_cons_succ, List.set_cons_zero]
    refine wpList_callW eN14 [.tmp 9] _ rfl rfl [(str id)] rfl ?_
    refine (H.out w1).mono ?_
    rintro e w2 ⟨rfl, rfl⟩
    refine ⟨_, rfl, ?_⟩
    simp only [Act.put, List.setIfInBounds_toArray, List.set_cons_succ, List.set_cons_zero]
    refine wl rfl (.bool true) _ (run_not (.tmp 10) 4 rfl false rfl) ?_
    simp only [Act.put, List.setIfInBounds_toArray, List.set_cons_succ, List.set_cons_zero]
    refine wl rfl (.bool true) _ (run_mvZ (.tmp 11) rfl (.bool true) rfl) ?_
    simp only [Act.put, List.setIfInBounds_toArray, List.set_cons_succ, List.set_cons_zero]
    refine wpList_skip (by kernel_rfl) ?_
    simp only [Act.put, List.setIfInBounds_toArray, List.set_cons_succ, List.set_cons_zero]
    refine wpList_skip (by kernel_rfl) ?_
    simp only [Act.put, List.setIfInBounds_toArray, List.set_cons_succ, List.set_cons_zero]
    refine wl rfl (.bool true) _ (run_pickZ (.tmp 12) (.const (.bool true)) (.tmp 14) rfl true (.bool true) rfl rfl) ?_
    simp only [Act.put, List.setIfInBounds_toArray, List.set_cons_succ, List.set_cons_zero]
    refine wl rfl (.bool true) _ (run_mvZ (.tmp 15) rfl (.bool true) rfl) ?_
    simp only [Act.put, List.setIfInBounds_toArray, List.set_cons_succ, List.set_cons_zero]
    refine wpList_skip (by kernel_rfl) ?_
    simp only [Act.put, List.setIfInBounds_toArray, List.set_cons_succ, List.set_cons_zero]
    refine wpList_skip (by kernel_rfl) ?_
    simp only [Act.put, List.setIfInBounds_toArray, List.set_cons_succ, List.set_cons_zero]
    refine wl rfl (.bool true) _ (run_pickZ (.tmp 16) (.const (.bool true)) (.tmp 18) rfl true (.bool true) rfl rfl) ?_
    simp only [Act.put, List.setIfInBounds_toArray, List.set_cons_succ, List.set_cons_zero]
    refine wpList_nil ?_
    have hne : entB id n = false := (by rw [HE.out]; rfl)
    go_wp2_with fail
    rw [HPQ.out]
    exact ⟨_, _, rfl, Rw1.out.below, Or.inl ⟨hne, rfl, rfl⟩⟩
  | true =>
  cases b1 with
  | true =>
    go_upto_region 1 with fail
    refine wp_region_lit ?_
    refine wl rfl (str id) _ (run_mvZ (.tmp 0) rfl (str id) rfl) ?_
    simp only [Act.put, List.setIfInBounds_toArray, List.set_cons_succ, List.set_cons_zero]
    refine wpList_callW eN14 [.tmp 9] _ rfl rfl [(str id)] rfl ?_
    refine (H.out w1).mono ?_
    rintro e w2 ⟨rfl, rfl⟩
    refine ⟨_, rfl, ?_⟩
    simp only [Act.put, List.setIfInBounds_toArray, List.set_cons_succ, List.set_cons_zero]
    refine wl rfl (.bool false) _ (run_not (.tmp 10) 4 rfl true rfl) ?_
    simp only [Act.put, List.setIfInBounds_toArray, List.set_cons_succ, List.set_cons_zero]
    refine wl rfl (.bool false) _ (run_mvZ (.tmp 11) rfl (.bool false) rfl) ?_
    simp only [Act.put, List.setIfInBounds_toArray, List.set_cons_succ, List.set_cons_zero]
    refine wl (by kernel_rfl) (.int .i64 n) _ (run_mvZ (.tmp 1) rfl (.int .i64 n) rfl) ?_
    simp only [Act.put, List.setIfInBounds_toArray, List.set_cons_succ, List.set_cons_zero]
    refine wl (by kernel_rfl) (.bool true) _ (run_lssZ (.tmp 13) (.const (.int .i64 0)) rfl n 0 rfl rfl true HB1.out) ?_
    simp only [Act.put, List.setIfInBounds_toArray, List.set_cons_succ, List.set_cons_zero]
    refine wl rfl (.bool true) _ (run_pickZ (.tmp 12) (.const (.bool true)) (.tmp 14) rfl false (.bool true) rfl rfl) ?_
    simp only [Act.put, List.setIfInBounds_toArray, List.set_cons_succ, List.set_cons_zero]
    refine wl rfl (.bool true) _ (run_mvZ (.tmp 15) rfl (.bool true) rfl) ?_
    simp only [Act.put, List.setIfInBounds_toArray, List.set_cons_succ, List.set_cons_zero]
    refine wpList_skip (by kernel_rfl) ?_
    simp only [Act.put, List.setIfInBounds_toArray, List.set_cons_succ, List.set_cons_zero]
    refine wpList_skip (by kernel_rfl) ?_
    simp only [Act.put, List.setIfInBounds_toArray, List.set_cons_succ, List.set_cons_zero]
    refine wl rfl (.bool true) _ (run_pickZ (.tmp 16) (.const (.bool true)) (.tmp 18) rfl true (.bool true) rfl rfl) ?_
    simp only [Act.put, List.setIfInBounds_toArray, List.set_cons_succ, List.set_cons_zero]
    refine wpList_nil ?_
    have hne : entB id n = false := (by have h := of_decide_eq_true HB1.out; rw [HE.out]; simp [inB]; omega)
    go_wp2_with fail
    rw [HPQ.out]
    exact ⟨_, _, rfl, Rw1.out.below, Or.inl ⟨hne, rfl, rfl⟩⟩
  | false =>
  cases b2 with
  | true =>
    go_upto_region 1 with fail
    refine wp_region_lit ?_
    refine wl rfl (str id) _ (run_mvZ (.tmp 0) rfl (str id) rfl) ?_
    simp only [Act.put, List.setIfInBounds_toArray, List.set_cons_succ, List.set_cons_zero]
    refine wpList_callW eN14 [.tmp 9] _ rfl rfl [(str id)] rfl ?_
    refine (H.out w1).mono ?_
    rintro e w2 ⟨rfl, rfl⟩
    refine ⟨_, rfl, ?_⟩
    simp only [Act.put, List.setIfInBounds_toArray, List.set_cons_succ, List.set_cons_zero]
    refine wl rfl (.bool false) _ (run_not (.tmp 10) 4 rfl true rfl) ?_
    simp only [Act.put, List.setIfInBounds_toArray, List.set_cons_succ, List.set_cons_zero]
    refine wl rfl (.bool false) _ (run_mvZ (.tmp 11) rfl (.bool false) rfl) ?_
    simp only [Act.put, List.setIfInBounds_toArray, List.set_cons_succ, List.set_cons_zero]
    refine wl (by kernel_rfl) (.int .i64 n) _ (run_mvZ (.tmp 1) rfl (.int .i64 n) rfl) ?_
    simp only [Act.put, List.setIfInBounds_toArray, List.set_cons_succ, List.set_cons_zero]
    refine wl (by kernel_rfl) (.bool false) _ (run_lssZ (.tmp 13) (.const (.int .i64 0)) rfl n 0 rfl rfl false HB1.out) ?_
    simp only [Act.put, List.setIfInBounds_toArray, List.set_cons_succ, List.set_cons_zero]
    refine wl rfl (.bool false) _ (run_pickZ (.tmp 12) (.const (.bool true)) (.tmp 14) rfl false (.bool false) rfl rfl) ?_
    simp only [Act.put, List.setIfInBounds_toArray, List.set_cons_succ, List.set_cons_zero]
    refine wl rfl (.bool false) _ (run_mvZ (.tmp 15) rfl (.bool false) rfl) ?_
    simp only [Act.put, List.setIfInBounds_toArray, List.set_cons_succ, List.set_cons_zero]
    refine wl (by kernel_rfl) (.int .i64 n) _ (run_mvZ (.tmp 1) rfl (.int .i64 n) rfl) ?_
    simp only [Act.put, List.setIfInBounds_toArray, List.set_cons_succ, List.set_cons_zero]
    refine wl (by kernel_rfl) (.bool true) _ (run_gtrZ (.tmp 17) (.const (.int .i64 512)) rfl n 512 rfl rfl true HB2.out) ?_
    simp only [Act.put, List.setIfInBounds_toArray, List.set_cons_succ, List.set_cons_zero]
    refine wl rfl (.bool true) _ (run_pickZ (.tmp 16) (.const (.bool true)) (.tmp 18) rfl false (.bool true) rfl rfl) ?_
    simp only [Act.put, List.setIfInBounds_toArray, List.set_cons_succ, List.set_cons_zero]
    refine wpList_nil ?_
    have hne : entB id n = false := (by have h := of_decide_eq_true HB2.out; rw [HE.out]; simp [inB]; omega)
    go_wp2_with fail
    rw [HPQ.out]
    exact ⟨_, _, rfl, Rw1.out.below, Or.inl ⟨hne, rfl, rfl⟩⟩
  | false =>
    go_upto_region 1 with fail
    refine wp_region_lit ?_
    refine wl rfl (str id) _ (run_mvZ (.tmp 0) rfl (str id) rfl) ?_
    simp only [Act.put, List.setIfInBounds_toArray, List.set_cons_succ, List.set_cons_zero]
    refine wpList_callW eN14 [.tmp 9] _ rfl rfl [(str id)] rfl ?_
    refine (H.out w1).mono ?_
    rintro e w2 ⟨rfl, rfl⟩
    refine ⟨_, rfl, ?_⟩
    simp only [Act.put, List.setIfInBounds_toArray, List.set_cons_succ, List.set_cons_zero]
    refine wl rfl (.bool false) _ (run_not (.tmp 10) 4 rfl true rfl) ?_
    simp only [Act.put, List.setIfInBounds_toArray, List.set_cons_succ, List.set_cons_zero]
    refine wl rfl (.bool false) _ (run_mvZ (.tmp 11) rfl (.bool false) rfl) ?_
    simp only [Act.put, List.setIfInBounds_toArray, List.set_cons_succ, List.set_cons_zero]
    refine wl (by kernel_rfl) (.int .i64 n) _ (run_mvZ (.tmp 1) rfl (.int .i64 n) rfl) ?_
    simp only [Act.put, List.setIfInBounds_toArray, List.set_cons_succ, List.set_cons_zero]
    refine wl (by kernel_rfl) (.bool false) _ (run_lssZ (.tmp 13) (.const (.int .i64 0)) rfl n 0 rfl rfl false HB1.out) ?_
    simp only [Act.put, List.setIfInBounds_toArray, List.set_cons_succ, List.set_cons_zero]
    refine wl rfl (.bool false) _ (run_pickZ (.tmp 12) (.const (.bool true)) (.tmp 14) rfl false (.bool false) rfl rfl) ?_
    simp only [Act.put, List.setIfInBounds_toArray, List.set_cons_succ, List.set_cons_zero]
    refine wl rfl (.bool false) _ (run_mvZ (.tmp 15) rfl (.bool false) rfl) ?_
    simp only [Act.put, List.setIfInBounds_toArray, List.set_cons_succ, List.set_cons_zero]
    refine wl (by kernel_rfl) (.int .i64 n) _ (run_mvZ (.tmp 1) rfl (.int .i64 n) rfl) ?_
    simp only [Act.put, List.setIfInBounds_toArray, List.set_cons_succ, List.set_cons_zero]
    refine wl (by kernel_rfl) (.bool false) _ (run_gtrZ (.tmp 17) (.const (.int .i64 512)) rfl n 512 rfl rfl false HB2.out) ?_
    simp only [Act.put, List.setIfInBounds_toArray, List.set_cons_succ, List.set_cons_zero]
    refine wl rfl (.bool false) _ (run_pickZ (.tmp 16) (.const (.bool true)) (.tmp 18) rfl false (.bool false) rfl rfl) ?_
    simp only [Act.put, List.setIfInBounds_toArray, List.set_cons_succ, List.set_cons_zero]
    refine wpList_nil ?_
    have HOK : Hid (entB id n = true) := (by
      have h1 := of_decide_eq_false HB1.out
      have h2 := of_decide_eq_false HB2.out
      show _ = _
      rw [HE.out]
      simp [inB]
      omega)
    clear HB1 HB2 HE H
    have HB : Hid (id.length ≤ 16 ∧ 0 ≤ n ∧ n ≤ 512) := ent_bounds HOK.out
    go_upto_region 3 with fail
    refine wp_region_lit ?_
    refine wl rfl (str id) _ (run_mvZ (.tmp 0) rfl (str id) rfl) ?_
    simp only [Act.put, List.setIfInBounds_toArray, List.set_cons_succ, List.set_cons_zero]
    refine wl rfl (.int .i64 (id.length : Nat)) _ (run_lenS id (.tmp 20) rfl rfl) ?_
    simp only [Act.put, List.setIfInBounds_toArray, List.set_cons_succ, List.set_cons_zero]
    refine wl rfl (.int .u8 (id.length : Nat)) _ (run_toU8n (.tmp 21) rfl id.length (by have := HB.out.1; omega) rfl) ?_
    simp only [Act.put, List.setIfInBounds_toArray, List.set_cons_succ, List.set_cons_zero]
    refine wl rfl (whole w1.heap.size 1) _ (run_litB1 (.tmp 22) rfl id.length rfl) ?_
    obtain ⟨v2, hv2⟩ : ∃ v, v = whole w1.heap.size 1 := ⟨_, rfl⟩
    obtain ⟨w2, hw⟩ : ∃ W, W = w1.alloc (.cells (bcells [id.length]).toArray 5) := ⟨_, rfl⟩
    have B2 : Hid (Bt w w2 [(q, 23, bcells root)] v2 [id.length]) := (by
      have hb := below_alloc w1 (.cells (bcells [id.length]).toArray 5)
      refine ⟨hw ▸ Rw1.out.later hb, hv2 ▸ hw ▸ whole_own (Row.new w1 5 (bcells [id.length])) Rw1.out.below.size (by simp), fun i g T c e => ?_⟩
      match i, e with
      | 0, e => cases e; decide
      | i + 1, e => simp at e)
    rw [← hv2, ← hw]
    clear hv2 hw Rw1
    simp only [Act.put, List.setIfInBounds_toArray, List.set_cons_succ, List.set_cons_zero]
    refine wl rfl (str id) _ (run_mvZ (.tmp 0) rfl (str id) rfl) ?_
    simp only [Act.put, List.setIfInBounds_toArray, List.set_cons_succ, List.set_cons_zero]
    refine wl_strBs (.tmp 24) rfl rfl id HF.out.1 (by have := HB.out.1; omega) rfl ?_
    intro vs ws ss bs
    have S2 : Hid (SliceIn ws vs id) := ss
    have B2s : Hid (Bt w ws [(q, 23, bcells root)] v2 [id.length]) := B2.out.later bs
    clear ss bs B2
    simp only [Act.put, List.setIfInBounds_toArray, List.set_cons_succ, List.set_cons_zero]
    refine wl_bgrow (.tmp 23) (.tmp 25) rfl rfl w.heap.size v2 vs [id.length] id rfl B2s.out.own rfl S2.out (by simp; have := HB.out.1; omega) B2s.out.size ?_
    intro v3 w3 o3 g3
    have B3 : Hid (Bt w w3 [(q, 23, bcells root)] v3 ([id.length] ++ id)) := B2s.out.grow g3 o3
    clear o3 g3 B2s S2
    simp only [Act.put, List.setIfInBounds_toArray, List.set_cons_succ, List.set_cons_zero]
    refine wl rfl v3 _ (run_asZ (.tmp 26) rfl v3 rfl) ?_
    simp only [Act.put, List.setIfInBounds_toArray, List.set_cons_succ, List.set_cons_zero]
    refine wpList_nil ?_
    obtain ⟨m, hm⟩ : ∃ m : Nat, n = (m : Nat) := ⟨n.toNat, by have := HB.out.2.1; omega⟩
    subst hm
    go_upto_region 4 with fail
    refine wp_region_lit ?_
    refine wl rfl v3 _ (run_mvZ (.tmp 8) rfl v3 rfl) ?_
    simp only [Act.put, List.setIfInBounds_toArray, List.set_cons_succ, List.set_cons_zero]
    refine wl rfl (.int .i64 (m : Nat)) _ (run_mvZ (.tmp 1) rfl (.int .i64 (m : Nat)) rfl) ?_
    simp only [Act.put, List.setIfInBounds_toArray, List.set_cons_succ, List.set_cons_zero]
    refine wpList_callW eN24 [.tmp 27, .tmp 28, .const ((.int .i64 2))] _ rfl rfl [v3, (.int .i64 (m : Nat)), (.int .i64 2)] rfl ?_
    refine (Fr.put_grow v3 ([id.length] ++ id) m 2 w.heap.size w3 B3.out.own B3.out.size (by decide) (by simp; have := HB.out.1; omega) (B3.out.own.hasBlock (by simp))).mono ?_
    rintro e w4 ⟨v4, rfl, o4, g4⟩
    refine ⟨_, rfl, ?_⟩
    have B4 : Hid (Bt w w4 [(q, 23, bcells root)] v4 ([id.length] ++ id ++ Fr.Frame.be 2 m)) := B3.out.grow g4 o4
    clear o4 g4 B3
    simp only [Act.put, List.setIfInBounds_toArray, List.set_cons_succ, List.set_cons_zero]
    refine wl rfl v4 _ (run_asZ (.tmp 29) rfl v4 rfl) ?_
    simp only [Act.put, List.setIfInBounds_toArray, List.set_cons_succ, List.set_cons_zero]
    refine wpList_nil ?_
    go_upto_region 5 with fail
    refine wp_region_lit ?_
    refine wl rfl v4 _ (run_mvZ (.tmp 8) rfl v4 rfl) ?_
    simp only [Act.put, List.setIfInBounds_toArray, List.set_cons_succ, List.set_cons_zero]
    refine wl rfl (.slice (some ⟨q, 0, none⟩) 32 32) _ (run_slA arr23 (.tmp 5) none none rfl q 0 0 32 rfl ⟨Or.inl ⟨rfl, rfl⟩, Or.inl ⟨rfl, rfl⟩, by decide, by decide, by decide⟩) ?_
    simp only [Act.put, List.setIfInBounds_toArray, List.set_cons_succ, List.set_cons_zero]
    refine wl_bgrow (.tmp 30) (.tmp 31) rfl rfl w.heap.size v4 (.slice (some ⟨q, 0, none⟩) 32 32) ([id.length] ++ id ++ Fr.Frame.be 2 m) root rfl B4.out.own rfl (in_root (B4.out.loc.at 0 rfl) HF.out.2.1 HF.out.2.2) (by simp [Fr.Frame.be_length, HF.out.2.1]; have := HB.out.1; omega) B4.out.size ?_
    intro v5 w5 o5 g5
    have B5 : Hid (Bt w w5 [(q, 23, bcells root)] v5 (encE id (m : Nat) root)) := (by rw [← encE_eq, Int.toNat_natCast]; exact B4.out.grow g5 o5)
    clear o5 g5 B4
    simp only [Act.put, List.setIfInBounds_toArray, List.set_cons_succ, List.set_cons_zero]
    refine wl rfl v5 _ (run_asZ (.tmp 32) rfl v5 rfl) ?_
    simp only [Act.put, List.setIfInBounds_toArray, List.set_cons_succ, List.set_cons_zero]
    refine wl rfl (.int .i64 0) _ (run_asZ (.const (.int .i64 0)) rfl (.int .i64 0) rfl) ?_
    simp only [Act.put, List.setIfInBounds_toArray, List.set_cons_succ, List.set_cons_zero]
    refine wpList_nil ?_
    go_wp2_with fail
    rw [HPQ.out]
    exact ⟨_, _, rfl, B5.out.loc.below, Or.inr ⟨HOK.out, B5.out.own, rfl⟩⟩

end Go.Proofs.Ytncjmolhofnpbaa

/- Records written. -/
import Derived.Test.YtncjmolhofnpbaaR16
namespace Go.Proofs.Ytncjmolhofnpbaa
open Go.RowKit

theorem entry11_no (id root : List Nat) (n : Int) (w : World) (hid : ∀ c ∈ id, c < 256) (hr32 : root.length = 32) (hrb : ∀ c ∈ root, c < 256) (h : entB id n = false) : Calls Try.prog 11 #[str id, .int .i64 n, .agg (bcells root).toArray] w fun e w' => e = .returned (.tuple #[.slice none 0 0, .int .i64 110]) ∧ Below w.heap.size w w' :=
  (entry11_any id root n w hid hr32 hrb).mono fun e w' ⟨v, er, h1, h2, h3⟩ => by
    rcases h3 with ⟨_, rfl, rfl⟩ | ⟨h4, _⟩
    · exact ⟨h1, h2⟩
    · rw [h] at h4; cases h4
theorem entry11_yes (id root : List Nat) (n : Int) (w : World) (hid : ∀ c ∈ id, c < 256) (hr32 : root.length = 32) (hrb : ∀ c ∈ root, c < 256) (h : entB id n = true) : Calls Try.prog 11 #[str id, .int .i64 n, .agg (bcells root).toArray] w fun e w' => ∃ v, e = .returned (.tuple #[v, .int .i64 0]) ∧ Below w.heap.size w w' ∧ BOwn w' w.heap.size v (encE id n root) :=
  (entry11_any id root n w hid hr32 hrb).mono fun e w' ⟨v, er, h1, h2, h3⟩ => by
    rcases h3 with ⟨h4, _⟩ | ⟨_, h4, rfl⟩
    · rw [h] at h4; cases h4
    · exact ⟨v, h1, h2, h4⟩
def encH (r : Rc) : List Nat := encE r.id r.length r.root ++ Fr.Frame.be 4 r.index.toNat ++ Fr.Frame.be 6 r.expiry.toNat ++ [bitB r.hold 1 + bitB r.gone 2, r.cp.length]
theorem encH_all (r : Rc) : encH r ++ encPs r.cp = enc r := by simp [encH, enc, encT]
theorem app_lt {a b : List Nat} (ha : ∀ c ∈ a, c < 256) (hb : ∀ c ∈ b, c < 256) : ∀ c ∈ a ++ b, c < 256 := fun c hc => by
  rcases List.mem_append.1 hc with h | h
  · exact ha c h
  · exact hb c h
theorem one_lt {x : Nat} (h : x < 256) : ∀ c ∈ [x], c < 256 := fun c hc => by rw [List.mem_singleton.1 hc]; exact h
theorem encE_lt {id root : List Nat} {n : Int} (hid : ∀ c ∈ id, c < 256) (hrb : ∀ c ∈ root, c < 256) (h : id.length ≤ 16) : ∀ c ∈ encE id n root, c < 256 := by
  rw [← encE_eq]
  exact app_lt (app_lt (app_lt (one_lt (by omega)) hid) (Fr.Frame.be_lt 2 _)) hrb
theorem bit_le (b : Bool) (n : Nat) : bitB b n ≤ n := by cases b <;> simp [bitB]
theorem encP_lt (p : Pc) : ∀ c ∈ encP p, c < 256 := app_lt (Fr.Frame.be_lt _ _) (app_lt (Fr.Frame.be_lt _ _) (app_lt (Fr.Frame.be_lt _ _) (one_lt (by have := bit_le p.bad 1; omega))))
theorem encPs_lt (ps : List Pc) : ∀ c ∈ encPs ps, c < 256 := by
  induction ps with
  | nil => intro c hc; cases hc
  | cons p ps ih => exact app_lt (encP_lt p) ih
/-- what a record that may be has -/
structure MayS (w : World) (r : Rc) (vc : Value) : Prop where
  fits : Fits w r vc
  may : mayB r = true
  id : r.id.length ≤ 16
  length : 0 ≤ r.length ∧ r.length ≤ 512
  index : 0 ≤ r.index ∧ r.index ≤ 2147483647
  expiry : 0 ≤ r.expiry ∧ r.expiry ≤ 1099511627776
  few : r.cp.length ≤ 8
  ok : ∀ p ∈ r.cp, (0 ≤ p.dev ∧ p.dev ≤ 11) ∧ (0 ≤ p.pl ∧ p.pl ≤ 4095) ∧ (0 ≤ p.len ∧ p.len ≤ 255)
theorem may_s {w : World} {r : Rc} {vc : Value} (h : Fits w r vc) (hm : mayB r = true) : MayS w r vc := by
  have hk := hm
  simp only [mayB, Bool.and_eq_true] at hk
  have h1 := ent_bounds hk.1
  have hq : (0 ≤ r.index ∧ r.index ≤ 2147483647) ∧ (0 ≤ r.expiry ∧ r.expiry ≤ 1099511627776) ∧ r.cp.length ≤ 8 := by
    have h2 := hk.2
    simp [restB, inB] at h2
    omega
  have hps : r.cp.all pcB = true := by
    have := hk.2
    simp only [restB, Bool.and_eq_true] at this
    exact this.2
  refine ⟨h, hm, h1.1, h1.2, hq.1, hq.2.1, hq.2.2, fun p hp => ?_⟩
  have := List.all_eq_true.1 hps p hp
  simp [pcB, inB] at this
  omega
theorem encH_lt {w : World} {r : Rc} {vc : Value} (h : MayS w r vc) : ∀ c ∈ encH r, c < 256 := by
  unfold encH
  refine app_lt (app_lt (app_lt (encE_lt h.fits.id h.fits.bytes h.id) (Fr.Frame.be_lt 4 _)) (Fr.Frame.be_lt 6 _)) fun c hc => ?_
  have h1 := bit_le r.hold 1
  have h2 := bit_le r.gone 2
  have h3 := h.few
  simp at hc
  omega
theorem encH_length {w : World} {r : Rc} {vc : Value} (h : MayS w r vc) : (encH r).length ≤ 63 := by
  have h1 := h.fits.root
  have h2 := h.id
  simp [encH, encE_length, Fr.Frame.be_length]
  omega
theorem encPs_take (ps : List Pc) (k : Nat) (p : Pc) (h : ps[k]? = some p) : encPs (ps.take (k + 1)) = encPs (ps.take k) ++ encP p := by
  have e : ps.take (k + 1) = ps.take k ++ [p] := by rw [List.take_add_one, h]; rfl
  rw [e, encPs_snoc]
theorem take_len (ps : List Pc) (k : Nat) (hk : k ≤ ps.length) (h : ps.length ≤ 8) : (encPs (ps.take k)).length ≤ 40 := by
  rw [encPs_length, List.length_take]
  omega
theorem rootAt {w : World} {q : Nat} {r : Rc} {vc : Value} (h : Row w q 26 (rcells r vc)) (h32 : r.root.length = 32) : ∀ j v, (bcells r.root)[j]? = some v → w.cell? ⟨q, 0 + 2 + j, none⟩ = some v := fun j v hv => by
  rw [show 0 + 2 + j = 2 + j by omega]
  exact h.at (2 + j) v (rcR vc h32 j v hv)
/-- what Encode tells -/
def EncS (w w' : World) (r : Rc) (v : Value) (er : Int) : Prop :=
  Below w.heap.size w w' ∧ ((mayB r = false ∧ v = .slice none 0 0 ∧ er = 110) ∨ (mayB r = true ∧ BOwn w' w.heap.size v (enc r) ∧ er = 0))
/-- the copies that are written so far -/
def EnK (w : World) (q : Nat) (r : Rc) (vc : Value) (W : World) (vb : Value) (k : Nat) : Prop := Bt w W [(q, 26, rcells r vc)] vb (encH r ++ encPs (r.cp.take k))
theorem ty26 (q : Nat) (cs : List Value) : ∀ (i g : Nat) (T : TypeId) (c : List Value), [(q, (26 : TypeId), cs)][i]? = some (g, T, c) → T ≠ 5 := fun i g T c e => by
  match i, e with
  | 0, e => cases e; decide
  | i + 1, e => simp at e
theorem run_addU8 {w : World} {a : Act} {o : Oper} (x y : Operand) (ho : o.op = .binOp .add 5 x y 5) (m n : Nat) (h : m + n < 256) (hx : a.eval x = .int .u8 (m : Nat)) (hy : a.eval y = .int .u8 (n : Nat)) : (execOp a.eval o).run Try.prog w = .ok (.value (.int .u8 ((m + n : Nat) : Int))) w := by
  have e : (eqGuard .add 5 x y (.int .u8 (m : Nat)) (.int .u8 (n : Nat))).run Try.prog w = .ok () w := rfl
  have hr : (binOp .add 5 (.int .u8 (m : Nat)) (.int .u8 (n : Nat))).run Try.prog w = .ok (.int .u8 (IntKind.u8.wrap ((m : Int) + (n : Int)))) w := by simp [binOp, go_sem]
  have e2 : IntKind.u8.wrap ((m : Int) + (n : Int)) = ((m + n : Nat) : Int) := by
    simp [IntKind.wrap, IntKind.signed, IntKind.bits]
    omega
  simp only [execOp, ho, hx, hy, e, hr, e2, Sem.run_bind, Sem.run_pure, Result.andThen_ok]
set_option maxHeartbeats 4000000 in
theorem encode_any (r : Rc) (vc : Value) (w : World) (hf : Fits w r vc) : Calls Try.prog 9 #[.agg (rcells r vc).toArray] w fun e w' => ∃ v er, e = .returned (.tuple #[v, .int .i64 er]) ∧ EncS w w' r v er := by
  have HF : Hid (Fits w r vc) := hf
  clear hf
  obtain ⟨PQ, HPQ⟩ : ∃ PQ : Ending → World → Prop, Hid (PQ = fun e w' => ∃ v er, e = .returned (.tuple #[v, .int .i64 er]) ∧ EncS w w' r v er) := ⟨_, rfl⟩
  rw [← HPQ.out]
  have R0 : Hid (Loc w w []) := Loc.nil (Below.refl _ w)
  go_enter Try.func9, Try.ntmps9
  go_upto_region 0 with fail
  refine wp_region_lit ?_
  refine wl rfl (ptr w.heap.size) _ (run_boxA (.tmp 0) rfl (rcells r vc) rfl) ?_
  have k_ := R0.out.box 26 (rcells r vc)
  obtain ⟨w1, hW_⟩ : ∃ W, W = w.alloc (.cells (rcells r vc).toArray 26) := ⟨_, rfl⟩
  obtain ⟨q, hq_⟩ : ∃ q, q = w.heap.size := ⟨_, rfl⟩
  rw [← hW_, ← hq_] at k_
  rw [← hW_, ← hq_]
  clear hq_
  have Rw1 : Hid (Loc w w1 [(q, 26, rcells r vc)]) := k_
  clear k_ hW_ R0
  simp only [Act.put, List.setIfInBounds_toArray, List.set_cons_succ, List.set_cons_zero]
  refine wl rfl (.slice none 0 0) _ (run_asZ (.const (.slice none 0 0)) rfl (.slice none 0 0) rfl) ?_
  simp only [Act.put, List.setIfInBounds_toArray, List.set_cons_succ, List.set_cons_zero]
  refine wl rfl (.int .i64 0) _ (run_asZ (.const (.int .i64 0)) rfl (.int .i64 0) rfl) ?_
  simp only [Act.put, List.setIfInBounds_toArray, List.set_cons_succ, List.set_cons_zero]
  refine wpList_nil ?_
  obtain ⟨ok, hok⟩ : ∃ ok, ok = entB r.id r.length := ⟨_, rfl⟩
  have HOK : Hid (ok = entB r.id r.length) := hok
  clear hok
  cases ok with
  | false =>
    go_upto_region 1 with fail
    refine wp_region_lit ?_
    refine wl rfl (.pointer (some ⟨q, 0 + 0, none⟩)) _ (run_fieldOp' f26_0 (.tmp 1) rfl q (0) rfl) ?_
    simp only [Act.put, List.setIfInBounds_toArray, List.set_cons_succ, List.set_cons_zero]
    refine wl rfl (str r.id) _ (run_load1 o9 (.tmp 9) rfl q (0 + 0) rfl (str r.id) ((Rw1.out.at 0 rfl).at 0 _ (rc0 r vc))) ?_
    simp only [Act.put, List.setIfInBounds_toArray, List.set_cons_succ, List.set_cons_zero]
    refine wl rfl (.pointer (some ⟨q, 0 + 1, none⟩)) _ (run_fieldOp' f26_1 (.tmp 1) rfl q (0) rfl) ?_
    simp only [Act.put, List.setIfInBounds_toArray, List.set_cons_succ, List.set_cons_zero]
    refine wl rfl (.int .i64 r.length) _ (run_load1 o3 (.tmp 11) rfl q (0 + 1) rfl (.int .i64 r.length) ((Rw1.out.at 0 rfl).at 1 _ (rc1 r vc))) ?_
    simp only [Act.put, List.setIfInBounds_toArray, List.set_cons_succ, List.set_cons_zero]
    refine wl rfl (.pointer (some ⟨q, 0 + 2, none⟩)) _ (run_fieldOp' f26_2 (.tmp 1) rfl q (0) rfl) ?_
    simp only [Act.put, List.setIfInBounds_toArray, List.set_cons_succ, List.set_cons_zero]
    refine wl rfl (.agg (bcells r.root).toArray) _ (run_loadA ag23 (.tmp 13) rfl q (0 + 2) rfl (bcells r.root) (bc32 HF.out.root) (rootAt (Rw1.out.at 0 rfl) HF.out.root)) ?_
    simp only [Act.put, List.setIfInBounds_toArray, List.set_cons_succ, List.set_cons_zero]
    refine wpList_callW eN11 [.tmp 10, .tmp 12, .tmp 14] _ rfl rfl [(str r.id), (.int .i64 r.length), (.agg (bcells r.root).toArray)] rfl ?_
    refine (entry11_no r.id r.root r.length w1 HF.out.id HF.out.root HF.out.bytes HOK.out.symm).mono ?_
    rintro e w2 ⟨rfl, b2⟩
    refine ⟨_, rfl, ?_⟩
    have B2 : Hid (Below w.heap.size w w2) := Rw1.out.below.trans (b2.mono Rw1.out.below.size)
    clear b2
    simp only [Act.put, List.setIfInBounds_toArray, List.set_cons_succ, List.set_cons_zero]
    refine wl rfl (.tuple #[(.slice none 0 0), (.int .i64 110)]) _ (run_mvZ (.tmp 15) rfl (.tuple #[(.slice none 0 0), (.int .i64 110)]) rfl) ?_
    simp only [Act.put, List.setIfInBounds_toArray, List.set_cons_succ, List.set_cons_zero]
    refine wl rfl (.slice none 0 0) _ (run_extZ (.tmp 8) 0 rfl #[(.slice none 0 0), (.int .i64 110)] rfl (.slice none 0 0) rfl) ?_
    simp only [Act.put, List.setIfInBounds_toArray, List.set_cons_succ, List.set_cons_zero]
    refine wl rfl (.int .i64 110) _ (run_extZ (.tmp 8) 1 rfl #[(.slice none 0 0), (.int .i64 110)] rfl (.int .i64 110) rfl) ?_
    simp only [Act.put, List.setIfInBounds_toArray, List.set_cons_succ, List.set_cons_zero]
    refine wl rfl (.slice none 0 0) _ (run_asZ (.tmp 16) rfl (.slice none 0 0) rfl) ?_
    simp only [Act.put, List.setIfInBounds_toArray, List.set_cons_succ, List.set_cons_zero]
    refine wl rfl (.int .i64 110) _ (run_asZ (.tmp 17) rfl (.int .i64 110) rfl) ?_
    simp only [Act.put, List.setIfInBounds_toArray, List.set_cons_succ, List.set_cons_zero]
    refine wpList_nil ?_
    go_upto_region 2 with fail
    refine wp_region_lit ?_
    refine wl rfl (.int .i64 110) _ (run_mvZ (.tmp 5) rfl (.int .i64 110) rfl) ?_
    simp only [Act.put, List.setIfInBounds_toArray, List.set_cons_succ, List.set_cons_zero]
    refine wl rfl (.bool true) _ (run_neZ (.tmp 18) (.const (.int .i64 0)) rfl (110) (0) rfl rfl true rfl) ?_
    simp only [Act.put, List.setIfInBounds_toArray, List.set_cons_succ, List.set_cons_zero]
    refine wl rfl (.bool true) _ (run_mvZ (.tmp 19) rfl (.bool true) rfl) ?_
    simp only [Act.put, List.setIfInBounds_toArray, List.set_cons_succ, List.set_cons_zero]
    refine wpList_skip (by kernel_rfl) ?_
    simp only [Act.put, List.setIfInBounds_toArray, List.set_cons_succ, List.set_cons_zero]
    refine wpList_skip (by kernel_rfl) ?_
    simp only [Act.put, List.setIfInBounds_toArray, List.set_cons_succ, List.set_cons_zero]
    refine wpList_skip (by kernel_rfl) ?_
    simp only [Act.put, List.setIfInBounds_toArray, List.set_cons_succ, List.set_cons_zero]
    refine wl rfl (.bool true) _ (run_pickZ (.tmp 20) (.const (.bool true)) (.tmp 23) rfl true (.bool true) rfl rfl) ?_
    simp only [Act.put, List.setIfInBounds_toArray, List.set_cons_succ, List.set_cons_zero]
    refine wpList_nil ?_
    go_wp2_with fail
    rw [HPQ.out]
    exact ⟨_, _, rfl, B2.out, Or.inl ⟨by unfold mayB; rw [← HOK.out]; rfl, rfl, rfl⟩⟩
  | true =>
    go_upto_region 1 with fail
    refine wp_region_lit ?_
    refine wl rfl (.pointer (some ⟨q, 0 + 0, none⟩)) _ (run_fieldOp' f26_0 (.tmp 1) rfl q (0) rfl) ?_
    simp only [Act.put, List.setIfInBounds_toArray, List.set_cons_succ, List.set_cons_zero]
    refine wl rfl (str r.id) _ (run_load1 o9 (.tmp 9) rfl q (0 + 0) rfl (str r.id) ((Rw1.out.at 0 rfl).at 0 _ (rc0 r vc))) ?_
    simp only [Act.put, List.setIfInBounds_toArray, List.set_cons_succ, List.set_cons_zero]
    refine wl rfl (.pointer (some ⟨q, 0 + 1, none⟩)) _ (run_fieldOp' f26_1 (.tmp 1) rfl q (0) rfl) ?_
    simp only [Act.put, List.setIfInBounds_toArray, List.set_cons_succ, List.set_cons_zero]
    refine wl rfl (.int .i64 r.length) _ (run_load1 o3 (.tmp 11) rfl q (0 + 1) rfl (.int .i64 r.length) ((Rw1.out.at 0 rfl).at 1 _ (rc1 r vc))) ?_
    simp only [Act.put, List.setIfInBounds_toArray, List.set_cons_succ, List.set_cons_zero]
    refine wl rfl (.pointer (some ⟨q, 0 + 2, none⟩)) _ (run_fieldOp' f26_2 (.tmp 1) rfl q (0) rfl) ?_
    simp only [Act.put, List.setIfInBounds_toArray, List.set_cons_succ, List.set_cons_zero]
    refine wl rfl (.agg (bcells r.root).toArray) _ (run_loadA ag23 (.tmp 13) rfl q (0 + 2) rfl (bcells r.root) (bc32 HF.out.root) (rootAt (Rw1.out.at 0 rfl) HF.out.root)) ?_
    simp only [Act.put, List.setIfInBounds_toArray, List.set_cons_succ, List.set_cons_zero]
    refine wpList_callW eN11 [.tmp 10, .tmp 12, .tmp 14] _ rfl rfl [(str r.id), (.int .i64 r.length), (.agg (bcells r.root).toArray)] rfl ?_
    refine (entry11_yes r.id r.root r.length w1 HF.out.id HF.out.root HF.out.bytes HOK.out.symm).mono ?_
    rintro e w2 ⟨v2, rfl, b2, o2⟩
    refine ⟨_, rfl, ?_⟩
    have B2 : Hid (Bt w w2 [(q, 26, rcells r vc)] v2 (encE r.id r.length r.root)) := ⟨Rw1.out.later b2, o2.weakenB Rw1.out.below.size, ty26 q _⟩
    clear b2 o2 Rw1
    simp only [Act.put, List.setIfInBounds_toArray, List.set_cons_succ, List.set_cons_zero]
    refine wl rfl (.tuple #[v2, (.int .i64 0)]) _ (run_mvZ (.tmp 15) rfl (.tuple #[v2, (.int .i64 0)]) rfl) ?_
    simp only [Act.put, List.setIfInBounds_toArray, List.set_cons_succ, List.set_cons_zero]
    refine wl rfl v2 _ (run_extZ (.tmp 8) 0 rfl #[v2, (.int .i64 0)] rfl v2 rfl) ?_
    simp only [Act.put, List.setIfInBounds_toArray, List.set_cons_succ, List.set_cons_zero]
    refine wl rfl (.int .i64 0) _ (run_extZ (.tmp 8) 1 rfl #[v2, (.int .i64 0)] rfl (.int .i64 0) rfl) ?_
    simp only [Act.put, List.setIfInBounds_toArray, List.set_cons_succ, List.set_cons_zero]
    refine wl rfl v2 _ (run_asZ (.tmp 16) rfl v2 rfl) ?_
    simp only [Act.put, List.setIfInBounds_toArray, List.set_cons_succ, List.set_cons_zero]
    refine wl rfl (.int .i64 0) _ (run_asZ (.tmp 17) rfl (.int .i64 0) rfl) ?_
    simp only [Act.put, List.setIfInBounds_toArray, List.set_cons_succ, List.set_cons_zero]
    refine wpList_nil ?_
    go_upto_region 2 with fail
    refine wp_region_lit ?_
    refine wl rfl (.int .i64 0) _ (run_mvZ (.tmp 5) rfl (.int .i64 0) rfl) ?_
    simp only [Act.put, List.setIfInBounds_toArray, List.set_cons_succ, List.set_cons_zero]
    refine wl rfl (.bool false) _ (run_neZ (.tmp 18) (.const (.int .i64 0)) rfl (0) (0) rfl rfl false rfl) ?_
    simp only [Act.put, List.setIfInBounds_toArray, List.set_cons_succ, List.set_cons_zero]
    refine wl rfl (.bool false) _ (run_mvZ (.tmp 19) rfl (.bool false) rfl) ?_
    simp only [Act.put, List.setIfInBounds_toArray, List.set_cons_succ, List.set_cons_zero]
    refine wl (by kernel_rfl) (.agg (rcells r vc).toArray) _ (run_loadA ag26 (.tmp 1) rfl q (0) rfl (rcells r vc) (rcells_length vc HF.out.root) (fun j v hv => (by rw [Nat.zero_add]; exact (B2.out.loc.at 0 rfl).at j v hv))) ?_
    simp only [Act.put, List.setIfInBounds_toArray, List.set_cons_succ, List.set_cons_zero]
    refine wpList_callW eN20 [.tmp 21] _ rfl rfl [(.agg (rcells r vc).toArray)] rfl ?_
    refine (restHolds_any r vc w2 (HF.out.later B2.out.loc.below)).mono ?_
    rintro e w3 ⟨rfl, b3⟩
    refine ⟨_, rfl, ?_⟩
    have B3 : Hid (Bt w w3 [(q, 26, rcells r vc)] v2 (encE r.id r.length r.root)) := B2.out.later b3
    obtain ⟨ro, hro⟩ : ∃ ro, ro = restB r := ⟨_, rfl⟩
    have HRO : Hid (ro = restB r) := hro
    rw [← hro]
    clear hro b3 B2
    simp only [Act.put, List.setIfInBounds_toArray, List.set_cons_succ, List.set_cons_zero]
    refine wl (by kernel_rfl) (.bool (!ro)) _ (run_not (.tmp 22) 4 rfl ro rfl) ?_
    simp only [Act.put, List.setIfInBounds_toArray, List.set_cons_succ, List.set_cons_zero]
    refine wl rfl (.bool (!ro)) _ (run_pickZ (.tmp 20) (.const (.bool true)) (.tmp 23) rfl false (.bool (!ro)) rfl rfl) ?_
    simp only [Act.put, List.setIfInBounds_toArray, List.set_cons_succ, List.set_cons_zero]
    refine wpList_nil ?_
    cases ro with
    | false =>
      go_wp2_with fail
      rw [HPQ.out]
      exact ⟨_, _, rfl, B3.out.loc.below, Or.inl ⟨by unfold mayB; rw [← HOK.out, ← HRO.out]; rfl, rfl, rfl⟩⟩
    | true =>
      have HM : Hid (MayS w r vc) := may_s HF.out (by unfold mayB; rw [← HOK.out, ← HRO.out]; rfl)
      clear HOK HRO
      go_upto_region 4 with fail
      refine wp_region_lit ?_
      refine wl rfl v2 _ (run_mvZ (.tmp 4) rfl v2 rfl) ?_
      simp only [Act.put, List.setIfInBounds_toArray, List.set_cons_succ, List.set_cons_zero]
      refine wl rfl (.pointer (some ⟨q, 0 + 34, none⟩)) _ (run_fieldOp' f26_3 (.tmp 1) rfl q (0) rfl) ?_
      simp only [Act.put, List.setIfInBounds_toArray, List.set_cons_succ, List.set_cons_zero]
      refine wl rfl (.int .i64 r.index) _ (run_load1 o3 (.tmp 26) rfl q (0 + 34) rfl (.int .i64 r.index) ((B3.out.loc.at 0 rfl).at 34 _ (rcB vc HF.out.root 0))) ?_
      simp only [Act.put, List.setIfInBounds_toArray, List.set_cons_succ, List.set_cons_zero]
      refine wl rfl (.int .u64 (r.index.toNat : Nat)) _ (run_toU64 (.tmp 27) rfl r.index ⟨HM.out.index.1, by have := HM.out.index.2; omega⟩ rfl) ?_
      simp only [Act.put, List.setIfInBounds_toArray, List.set_cons_succ, List.set_cons_zero]
      refine wpList_callW eN21 [.tmp 25, .tmp 28, .const ((.int .i64 4))] _ rfl rfl [v2, (.int .u64 (r.index.toNat : Nat)), (.int .i64 4)] rfl ?_
      refine (Fr.number_yes v2 (encE r.id r.length r.root) r.index.toNat 4 w3 (B3.out.own.sliceB (encE_lt HF.out.id HF.out.bytes HM.out.id) (show (encE r.id r.length r.root).length ≤ 1000 by rw [encE_length]; have := HM.out.id; have := HF.out.root; omega)) (by decide) (by decide) (by have := (show (encE r.id r.length r.root).length ≤ 1000 by rw [encE_length]; have := HM.out.id; have := HF.out.root; omega); omega)).mono ?_
      rintro e w4 ⟨v4, rfl, o_, b_⟩
      refine ⟨_, rfl, ?_⟩
      have B4 : Hid (Bt w w4 [(q, 26, rcells r vc)] v4 (encE r.id r.length r.root ++ Fr.Frame.be 4 r.index.toNat)) := B3.out.anew b_ o_
      clear o_ b_ B3
      simp only [Act.put, List.setIfInBounds_toArray, List.set_cons_succ, List.set_cons_zero]
      refine wl rfl v4 _ (run_asZ (.tmp 29) rfl v4 rfl) ?_
      simp only [Act.put, List.setIfInBounds_toArray, List.set_cons_succ, List.set_cons_zero]
      refine wpList_nil ?_
      go_upto_region 5 with fail
      refine wp_region_lit ?_
      refine wl rfl v4 _ (run_mvZ (.tmp 4) rfl v4 rfl) ?_
      simp only [Act.put, List.setIfInBounds_toArray, List.set_cons_succ, List.set_cons_zero]
      refine wl rfl (.pointer (some ⟨q, 0 + 35, none⟩)) _ (run_fieldOp' f26_4 (.tmp 1) rfl q (0) rfl) ?_
      simp only [Act.put, List.setIfInBounds_toArray, List.set_cons_succ, List.set_cons_zero]
      refine wl rfl (.int .i64 r.expiry) _ (run_load1 o3 (.tmp 31) rfl q (0 + 35) rfl (.int .i64 r.expiry) ((B4.out.loc.at 0 rfl).at 35 _ (rcB vc HF.out.root 1))) ?_
      simp only [Act.put, List.setIfInBounds_toArray, List.set_cons_succ, List.set_cons_zero]
      refine wl rfl (.int .u64 (r.expiry.toNat : Nat)) _ (run_toU64 (.tmp 32) rfl r.expiry HM.out.expiry rfl) ?_
      simp only [Act.put, List.setIfInBounds_toArray, List.set_cons_succ, List.set_cons_zero]
      refine wpList_callW eN21 [.tmp 30, .tmp 33, .const ((.int .i64 6))] _ rfl rfl [v4, (.int .u64 (r.expiry.toNat : Nat)), (.int .i64 6)] rfl ?_
      refine (Fr.number_yes v4 (encE r.id r.length r.root ++ Fr.Frame.be 4 r.index.toNat) r.expiry.toNat 6 w4 (B4.out.own.sliceB (app_lt (encE_lt HF.out.id HF.out.bytes HM.out.id) (Fr.Frame.be_lt 4 _)) (show (encE r.id r.length r.root ++ Fr.Frame.be 4 r.index.toNat).length ≤ 1000 by rw [List.length_append, encE_length, Fr.Frame.be_length]; have := HM.out.id; have := HF.out.root; omega)) (by decide) (by decide) (by have := (show (encE r.id r.length r.root ++ Fr.Frame.be 4 r.index.toNat).length ≤ 1000 by rw [List.length_append, encE_length, Fr.Frame.be_length]; have := HM.out.id; have := HF.out.root; omega); omega)).mono ?_
      rintro e w5 ⟨v5, rfl, o_, b_⟩
      refine ⟨_, rfl, ?_⟩
      have B5 : Hid (Bt w w5 [(q, 26, rcells r vc)] v5 (encE r.id r.length r.root ++ Fr.Frame.be 4 r.index.toNat ++ Fr.Frame.be 6 r.expiry.toNat)) := B4.out.anew b_ o_
      clear o_ b_ B4
      simp only [Act.put, List.setIfInBounds_toArray, List.set_cons_succ, List.set_cons_zero]
      refine wl rfl v5 _ (run_asZ (.tmp 34) rfl v5 rfl) ?_
      simp only [Act.put, List.setIfInBounds_toArray, List.set_cons_succ, List.set_cons_zero]
      refine wpList_nil ?_
      go_upto_region 6 with fail
      refine wp_region_held (S := fun X => Row X q 26 (rcells r vc)) (by kernel_rfl) ?_
      show wpAnyH _ _ _ _ _ 15 (Array.replicate 15 false) _ _
      obtain ⟨X, hX⟩ : ∃ X : World, X = { w5 with drawn := w5.drawn + 1 } := ⟨_, rfl⟩
      rw [← hX]
      have hS : Bt w X [(q, 26, rcells r vc)] v5 (encE r.id r.length r.root ++ Fr.Frame.be 4 r.index.toNat ++ Fr.Frame.be 6 r.expiry.toNat) := (by rw [hX]; exact B5.out.later ⟨rfl, rfl, rfl, Nat.le_refl _, fun _ _ => rfl⟩)
      clear B5
      clear hX
      refine takeH (i := 0) (some 35) rfl rfl (by kernel_rfl) (by kernel_rfl) (by kernel_rfl) (fun _ _ _ h => h) (gRun rfl v5 fun _ h => run_mvZ (.tmp 4) rfl v5 rfl) (hS.loc.at 0 rfl) ?_
      simp only [Act.put, List.setIfInBounds_toArray, List.set_cons_succ, List.set_cons_zero]
      refine takeH (i := 1) (some 36) rfl rfl (by kernel_rfl) (by kernel_rfl) (by kernel_rfl) (fun _ _ _ h => h) (gRun rfl (.pointer (some ⟨q, 0 + 36, none⟩)) fun _ h => run_fieldOp' f26_5 (.tmp 1) rfl q (0) rfl) (hS.loc.at 0 rfl) ?_
      simp only [Act.put, List.setIfInBounds_toArray, List.set_cons_succ, List.set_cons_zero]
      refine takeH (i := 2) (some 37) rfl rfl (by kernel_rfl) (by kernel_rfl) (by kernel_rfl) (fun _ _ _ h => h) (gRun rfl (.bool r.hold) fun _ h => run_load1 o4 (.tmp 36) rfl q (0 + 36) rfl (.bool r.hold) (h.at 36 _ (rcB vc HF.out.root 2))) (hS.loc.at 0 rfl) ?_
      simp only [Act.put, List.setIfInBounds_toArray, List.set_cons_succ, List.set_cons_zero]
      refine takeH (i := 4) (some 39) rfl rfl (by kernel_rfl) (by kernel_rfl) (by kernel_rfl) (fun _ _ _ h => h) (gRun rfl (.pointer (some ⟨q, 0 + 37, none⟩)) fun _ h => run_fieldOp' f26_6 (.tmp 1) rfl q (0) rfl) (hS.loc.at 0 rfl) ?_
      simp only [Act.put, List.setIfInBounds_toArray, List.set_cons_succ, List.set_cons_zero]
      refine takeH (i := 5) (some 40) rfl rfl (by kernel_rfl) (by kernel_rfl) (by kernel_rfl) (fun _ _ _ h => h) (gRun rfl (.bool r.gone) fun _ h => run_load1 o4 (.tmp 39) rfl q (0 + 37) rfl (.bool r.gone) (h.at 37 _ (rcB vc HF.out.root 3))) (hS.loc.at 0 rfl) ?_
      simp only [Act.put, List.setIfInBounds_toArray, List.set_cons_succ, List.set_cons_zero]
      refine takeH (i := 8) (some 43) rfl rfl (by kernel_rfl) (by kernel_rfl) (by kernel_rfl) (fun _ _ _ h => h) (gRun rfl (.pointer (some ⟨q, 0 + 38, none⟩)) fun _ h => run_fieldOp' f26_7 (.tmp 1) rfl q (0) rfl) (hS.loc.at 0 rfl) ?_
      simp only [Act.put, List.setIfInBounds_toArray, List.set_cons_succ, List.set_cons_zero]
      refine takeH (i := 9) (some 44) rfl rfl (by kernel_rfl) (by kernel_rfl) (by kernel_rfl) (fun _ _ _ h => h) (gRun rfl vc fun _ h => run_load1 o24 (.tmp 43) rfl q (0 + 38) rfl vc (h.at 38 _ (rcB vc HF.out.root 4))) (hS.loc.at 0 rfl) ?_
      simp only [Act.put, List.setIfInBounds_toArray, List.set_cons_succ, List.set_cons_zero]
      refine takeH (i := 10) (some 45) rfl rfl (by kernel_rfl) (by kernel_rfl) (by kernel_rfl) (fun _ _ _ h => h) (gRun rfl (.int .i64 (r.cp.length : Nat)) fun _ h => run_lenP HF.out.cp (.tmp 44) rfl rfl) (hS.loc.at 0 rfl) ?_
      simp only [Act.put, List.setIfInBounds_toArray, List.set_cons_succ, List.set_cons_zero]
      refine takeH (i := 11) (some 46) rfl rfl (by kernel_rfl) (by kernel_rfl) (by kernel_rfl) (fun _ _ _ h => h) (gRun rfl (.int .u8 (r.cp.length : Nat)) fun _ h => run_toU8n (.tmp 45) rfl r.cp.length (by have := HM.out.few; omega) rfl) (hS.loc.at 0 rfl) ?_
      simp only [Act.put, List.setIfInBounds_toArray, List.set_cons_succ, List.set_cons_zero]
      refine oneH (i := 3) (by kernel_rfl) ?_
      refine opCallG (some 38) rfl rfl rfl 22 _ (run_call eN22 [.tmp 37, .const (.int .u8 1)] _ rfl [(.bool r.hold), (.int .u8 1)] rfl) ?_
      refine (flag_any r.hold 1 X).mono ?_
      rintro e wf ⟨rfl, rfl⟩
      refine ⟨_, rfl, ?_⟩
      refine ⟨hS.loc.at 0 rfl, ?_⟩
      simp only [Act.put, List.setIfInBounds_toArray, List.set_cons_succ, List.set_cons_zero]
      refine oneH (i := 6) (by kernel_rfl) ?_
      refine opCallG (some 41) rfl rfl rfl 22 _ (run_call eN22 [.tmp 40, .const (.int .u8 2)] _ rfl [(.bool r.gone), (.int .u8 2)] rfl) ?_
      refine (flag_any r.gone 2 X).mono ?_
      rintro e wf ⟨rfl, rfl⟩
      refine ⟨_, rfl, ?_⟩
      refine ⟨hS.loc.at 0 rfl, ?_⟩
      simp only [Act.put, List.setIfInBounds_toArray, List.set_cons_succ, List.set_cons_zero]
      refine takeH (i := 7) (some 42) rfl rfl (by kernel_rfl) (by kernel_rfl) (by kernel_rfl) (fun _ _ _ h => h) (gRun rfl (.int .u8 ((bitB r.hold 1 + bitB r.gone 2 : Nat) : Int)) fun _ h => run_addU8 (.tmp 38) (.tmp 41) rfl (bitB r.hold 1) (bitB r.gone 2) (by have := bit_le r.hold 1; have := bit_le r.gone 2; omega) rfl rfl) (hS.loc.at 0 rfl) ?_
      simp only [Act.put, List.setIfInBounds_toArray, List.set_cons_succ, List.set_cons_zero]
      refine oneH (i := 12) (by kernel_rfl) ?_
      refine opValueG (some 47) rfl rfl rfl _ _ (run_litB2 (.tmp 42) (.tmp 46) rfl (bitB r.hold 1 + bitB r.gone 2) (r.cp.length) rfl rfl) ?_
      obtain ⟨vl, hvl⟩ : ∃ v, v = whole X.heap.size 2 := ⟨_, rfl⟩
      obtain ⟨X1, hw⟩ : ∃ W, W = X.alloc (.cells (bcells [bitB r.hold 1 + bitB r.gone 2, r.cp.length]).toArray 5) := ⟨_, rfl⟩
      have hL : Bt w X1 [(q, 26, rcells r vc)] v5 (encE r.id r.length r.root ++ Fr.Frame.be 4 r.index.toNat ++ Fr.Frame.be 6 r.expiry.toNat) := hw ▸ hS.later (below_alloc X _)
      have hl : SliceIn X1 vl [bitB r.hold 1 + bitB r.gone 2, r.cp.length] := hvl ▸ hw ▸ whole_slice (Row.new X 5 (bcells [bitB r.hold 1 + bitB r.gone 2, r.cp.length])) (fun c hc => by have h1 := bit_le r.hold 1; have h2 := bit_le r.gone 2; have h3 := HM.out.few; simp at hc; omega) (by simp)
      rw [← hvl, ← hw]
      clear hvl hw hS
      refine ⟨hL.loc.at 0 rfl, ?_⟩
      simp only [Act.put, List.setIfInBounds_toArray, List.set_cons_succ, List.set_cons_zero]
      obtain ⟨v6, X2, hrun, o_, g_⟩ := run_bappend w.heap.size 28 v5 vl (encE r.id r.length r.root ++ Fr.Frame.be 4 r.index.toNat ++ Fr.Frame.be 6 r.expiry.toNat) [bitB r.hold 1 + bitB r.gone 2, r.cp.length] hL.own hl (by have := (show (encE r.id r.length r.root ++ Fr.Frame.be 4 r.index.toNat).length ≤ 1000 by rw [List.length_append, encE_length, Fr.Frame.be_length]; have := HM.out.id; have := HF.out.root; omega); simp [Fr.Frame.be_length] at this ⊢; omega) hL.size
      refine oneH (i := 13) (by kernel_rfl) ?_
      refine opValueG (some 48) rfl rfl rfl v6 X2 (run_append (.tmp 35) (.tmp 47) rfl v5 vl v6 rfl rfl hrun) ?_
      have hN : Bt w X2 [(q, 26, rcells r vc)] v6 (encE r.id r.length r.root ++ Fr.Frame.be 4 r.index.toNat ++ Fr.Frame.be 6 r.expiry.toNat ++ [bitB r.hold 1 + bitB r.gone 2, r.cp.length]) := hL.grow g_ o_
      clear hrun o_ g_ hL hl
      refine ⟨hN.loc.at 0 rfl, ?_⟩
      simp only [Act.put, List.setIfInBounds_toArray, List.set_cons_succ, List.set_cons_zero]
      refine takeH (i := 14) (some 4) rfl rfl (by kernel_rfl) (by kernel_rfl) (by kernel_rfl) (fun _ _ _ h => h) (gRun rfl v6 fun _ h => run_asZ (.tmp 48) rfl v6 rfl) (hN.loc.at 0 rfl) ?_
      simp only [Act.put, List.setIfInBounds_toArray, List.set_cons_succ, List.set_cons_zero]
      refine wpAnyH_done (by kernel_rfl) ?_ _
      have B6 : Hid (EnK w q r vc X2 v6 0) := (by show Bt _ _ _ _ _; rw [List.take_zero]; simpa [encH, encPs] using hN)
      clear hN
      obtain ⟨n, hn⟩ : ∃ n, n = r.cp.length := ⟨_, rfl⟩
      have HN : Hid (n = r.cp.length) := hn
      clear hn
      obtain ⟨w6, hw6⟩ : ∃ W, W = X2 := ⟨_, rfl⟩
      rw [← hw6] at B6 ⊢
      clear hw6
      go_upto_region 7 with fail
      refine wp_region_lit ?_
      refine wl rfl (.pointer (some ⟨q, 0 + 38, none⟩)) _ (run_fieldOp' f26_7 (.tmp 1) rfl q (0) rfl) ?_
      simp only [Act.put, List.setIfInBounds_toArray, List.set_cons_succ, List.set_cons_zero]
      refine wl rfl vc _ (run_load1 o24 (.tmp 49) rfl q (0 + 38) rfl vc ((B6.out.loc.at 0 rfl).at 38 _ (rcB vc HF.out.root 4))) ?_
      simp only [Act.put, List.setIfInBounds_toArray, List.set_cons_succ, List.set_cons_zero]
      refine wl rfl (.int .i64 (n : Nat)) _ (run_lenPn HF.out.cp HN.out (.tmp 50) rfl rfl) ?_
      simp only [Act.put, List.setIfInBounds_toArray, List.set_cons_succ, List.set_cons_zero]
      refine wl rfl (.int .i64 0) _ (run_mvZ (.const (.int .i64 0)) rfl (.int .i64 0) rfl) ?_
      simp only [Act.put, List.setIfInBounds_toArray, List.set_cons_succ, List.set_cons_zero]
      refine wpList_nil ?_
      go_wp2_with fail
      go_loopw [4, 52] (fun vb vk W => ∃ k : Nat, vk = .int .i64 (k : Nat) ∧ k ≤ n ∧ EnK w q r vc W vb k) (fun _ vk _ => n - (intOf vk).toNat)
      case atStart => exact ⟨0, rfl, Nat.zero_le _, B6.out⟩
      case round =>
        obtain ⟨k, rfl, hk, hS0⟩ := hrel
        have HK : Hid (EnK w q r vc wr u4 k) := hS0
        clear hS0 B6
        have h8 : n ≤ 8 := (by rw [HN.out]; exact HM.out.few)
        by_cases hlt : k < n
        · have t1 : decide ((k : Int) < (n : Int)) = true := decide_eq_true (by omega)
          obtain ⟨p, hp⟩ : ∃ p, r.cp[k]? = some p := ⟨_, List.getElem?_eq_getElem (by rw [← HN.out]; exact hlt)⟩
          obtain ⟨b, off, hx, hc⟩ := ix_place (HF.out.cp.later HK.out.loc.below) k p hp
          have HX : Hid ((∀ w', (Instr.indexAt 24 vc (.int .i64 (k : Nat))).run Try.prog w' = .ok (.pointer (some ⟨b, off, none⟩)) w') ∧ (∀ j u, (pcells p)[j]? = some u → wr.cell? ⟨b, off + j, none⟩ = some u) ∧ r.cp[k]? = some p ∧ ((0 ≤ p.dev ∧ p.dev ≤ 11) ∧ (0 ≤ p.pl ∧ p.pl ≤ 4095) ∧ (0 ≤ p.len ∧ p.len ≤ 255)) ∧ (encPs (r.cp.take k)).length ≤ 40) := ⟨hx, hc, hp, HM.out.ok p (List.mem_of_getElem? hp), take_len _ _ (by rw [← HN.out]; exact hk) HM.out.few⟩
          clear hx hc hp
          go_upto_region 9 with fail
          refine wp_region_lit ?_
          refine wl rfl (.pointer (some ⟨b, off, none⟩)) _ (run_idx (.tmp 50) (.tmp 52) rfl vc _ _ rfl rfl HX.out.1) ?_
          simp only [Act.put, List.setIfInBounds_toArray, List.set_cons_succ, List.set_cons_zero]
          refine wl rfl (.agg (pcells p).toArray) _ (run_loadA ag43 (.tmp 54) rfl b (off) rfl (pcells p) rfl HX.out.2.1) ?_
          simp only [Act.put, List.setIfInBounds_toArray, List.set_cons_succ, List.set_cons_zero]
          refine wl rfl (ptr wr.heap.size) _ (run_allocA (pcells ⟨0, 0, 0, false⟩) zero43 rfl) ?_
          obtain ⟨q7, hq⟩ : ∃ q, q = wr.heap.size := ⟨_, rfl⟩
          obtain ⟨w7, hw⟩ : ∃ W, W = wr.alloc (.cells (pcells ⟨0, 0, 0, false⟩).toArray 43) := ⟨_, rfl⟩
          have K1 : Hid (Bt w w7 [(q, 26, rcells r vc), (q7, 43, pcells ⟨0, 0, 0, false⟩)] u4 (encH r ++ encPs (r.cp.take k))) := hq ▸ hw ▸ HK.out.box 43 (pcells ⟨0, 0, 0, false⟩) (by decide)
          rw [← hq, ← hw]
          clear hq hw
          simp only [Act.put, List.setIfInBounds_toArray, List.set_cons_succ, List.set_cons_zero]
          have hst := run_storeVar ag43 w7 q7 0 43 (pcells ⟨0, 0, 0, false⟩) (pcells p) rfl (K1.out.loc.at 1 rfl) (by simp [pcells]) (pcells_one p)
          rw [splice43] at hst
          refine wlS rfl rfl _ (run_stV (.tmp 7) (.tmp 55) rfl q7 0 rfl _ rfl hst) ?_
          obtain ⟨w8, hw⟩ : ∃ W, W = w7.setRow q7 (pcells p).toArray := ⟨_, rfl⟩
          have K2 : Hid (Bt w w8 [(q, 26, rcells r vc), (q7, 43, pcells p)] u4 (encH r ++ encPs (r.cp.take k))) := hw ▸ K1.out.set 1 rfl ((K1.out.loc.at 1 rfl).setRow (pcells p)) ((Ch.refl (· = q7) w7).setRow (g := q7) (Or.inl rfl) _)
          rw [← hw]
          clear hw hst K1
          refine wpList_nil ?_
          go_upto_region 10 with fail
          refine wp_region_lit ?_
          refine wl rfl u4 _ (run_mvZ (.tmp 4) rfl u4 rfl) ?_
          simp only [Act.put, List.setIfInBounds_toArray, List.set_cons_succ, List.set_cons_zero]
          refine wl rfl (.pointer (some ⟨q7, 0 + 0, none⟩)) _ (run_fieldOp' f43_0 (.tmp 7) rfl q7 (0) rfl) ?_
          simp only [Act.put, List.setIfInBounds_toArray, List.set_cons_succ, List.set_cons_zero]
          refine wl rfl (.int .i64 p.dev) _ (run_load1 o3 (.tmp 57) rfl q7 (0 + 0) rfl (.int .i64 p.dev) ((K2.out.loc.at 1 rfl).at 0 _ rfl)) ?_
          simp only [Act.put, List.setIfInBounds_toArray, List.set_cons_succ, List.set_cons_zero]
          refine wl rfl (.int .u8 (p.dev.toNat : Nat)) _ (run_toU8 (.tmp 58) rfl p.dev ⟨HX.out.2.2.2.1.1.1, by have := HX.out.2.2.2.1.1.2; omega⟩ rfl) ?_
          simp only [Act.put, List.setIfInBounds_toArray, List.set_cons_succ, List.set_cons_zero]
          refine wl rfl (whole w8.heap.size 1) _ (run_litB1 (.tmp 59) rfl (p.dev.toNat) rfl) ?_
          obtain ⟨vl, hvl⟩ : ∃ v, v = whole w8.heap.size 1 := ⟨_, rfl⟩
          obtain ⟨w9, hw⟩ : ∃ W, W = w8.alloc (.cells (bcells [p.dev.toNat]).toArray 5) := ⟨_, rfl⟩
          have K3 : Hid (Bt w w9 [(q, 26, rcells r vc), (q7, 43, pcells p)] u4 (encH r ++ encPs (r.cp.take k)) ∧ SliceIn w9 vl [p.dev.toNat]) := ⟨hw ▸ K2.out.later (below_alloc w8 _), hvl ▸ hw ▸ whole_slice (Row.new w8 5 (bcells [p.dev.toNat])) (one_lt (by have := HX.out.2.2.2.1.1; omega)) (by simp)⟩
          rw [← hvl, ← hw]
          clear hvl hw K2
          simp only [Act.put, List.setIfInBounds_toArray, List.set_cons_succ, List.set_cons_zero]
          refine wl_bgrow (.tmp 56) (.tmp 60) rfl rfl w.heap.size u4 vl (encH r ++ encPs (r.cp.take k)) [p.dev.toNat] rfl K3.out.1.own rfl K3.out.2 (by have := (show (encH r ++ encPs (r.cp.take k) ++ [p.dev.toNat]).length ≤ 1000 by have h1 := encH_length HM.out; have h2 := HX.out.2.2.2.2; simp; omega); simp at this ⊢; omega) K3.out.1.size ?_
          intro v10 w10 o_ g_
          have K4 : Hid (Bt w w10 [(q, 26, rcells r vc), (q7, 43, pcells p)] v10 (encH r ++ encPs (r.cp.take k) ++ [p.dev.toNat])) := K3.out.1.grow g_ o_
          clear o_ g_ K3
          simp only [Act.put, List.setIfInBounds_toArray, List.set_cons_succ, List.set_cons_zero]
          refine wl rfl v10 _ (run_asZ (.tmp 61) rfl v10 rfl) ?_
          simp only [Act.put, List.setIfInBounds_toArray, List.set_cons_succ, List.set_cons_zero]
          refine wpList_nil ?_
          go_upto_region 11 with fail
          refine wp_region_lit ?_
          refine wl rfl v10 _ (run_mvZ (.tmp 4) rfl v10 rfl) ?_
          simp only [Act.put, List.setIfInBounds_toArray, List.set_cons_succ, List.set_cons_zero]
          refine wl rfl (.pointer (some ⟨q7, 0 + 1, none⟩)) _ (run_fieldOp' f43_1 (.tmp 7) rfl q7 (0) rfl) ?_
          simp only [Act.put, List.setIfInBounds_toArray, List.set_cons_succ, List.set_cons_zero]
          refine wl rfl (.int .i64 p.pl) _ (run_load1 o3 (.tmp 63) rfl q7 (0 + 1) rfl (.int .i64 p.pl) ((K4.out.loc.at 1 rfl).at 1 _ rfl)) ?_
          simp only [Act.put, List.setIfInBounds_toArray, List.set_cons_succ, List.set_cons_zero]
          refine wl rfl (.int .u64 (p.pl.toNat : Nat)) _ (run_toU64 (.tmp 64) rfl p.pl ⟨HX.out.2.2.2.1.2.1.1, by have := HX.out.2.2.2.1.2.1.2; omega⟩ rfl) ?_
          simp only [Act.put, List.setIfInBounds_toArray, List.set_cons_succ, List.set_cons_zero]
          refine wpList_callW eN21 [.tmp 62, .tmp 65, .const ((.int .i64 2))] _ rfl rfl [v10, (.int .u64 (p.pl.toNat : Nat)), (.int .i64 2)] rfl ?_
          refine (Fr.number_yes v10 (encH r ++ encPs (r.cp.take k) ++ [p.dev.toNat]) p.pl.toNat 2 w10 (K4.out.own.sliceB (app_lt (app_lt (encH_lt HM.out) (encPs_lt _)) (one_lt (by have := HX.out.2.2.2.1.1; omega))) (show (encH r ++ encPs (r.cp.take k) ++ [p.dev.toNat]).length ≤ 1000 by have h1 := encH_length HM.out; have h2 := HX.out.2.2.2.2; simp; omega)) (by decide) (by decide) (by have := (show (encH r ++ encPs (r.cp.take k) ++ [p.dev.toNat]).length ≤ 1000 by have h1 := encH_length HM.out; have h2 := HX.out.2.2.2.2; simp; omega); omega)).mono ?_
          rintro e w11 ⟨v11, rfl, o_, b_⟩
          refine ⟨_, rfl, ?_⟩
          have K5 : Hid (Bt w w11 [(q, 26, rcells r vc), (q7, 43, pcells p)] v11 (encH r ++ encPs (r.cp.take k) ++ [p.dev.toNat] ++ Fr.Frame.be 2 p.pl.toNat)) := K4.out.anew b_ o_
          clear o_ b_ K4
          simp only [Act.put, List.setIfInBounds_toArray, List.set_cons_succ, List.set_cons_zero]
          refine wl rfl v11 _ (run_asZ (.tmp 66) rfl v11 rfl) ?_
          simp only [Act.put, List.setIfInBounds_toArray, List.set_cons_succ, List.set_cons_zero]
          refine wpList_nil ?_
          go_upto_region 12 with fail
          refine wp_region_held (S := fun X => Row X q7 43 (pcells p)) (by kernel_rfl) ?_
          show wpAnyH _ _ _ _ _ 10 (Array.replicate 10 false) _ _
          obtain ⟨X, hX⟩ : ∃ X : World, X = { w11 with drawn := w11.drawn + 1 } := ⟨_, rfl⟩
          rw [← hX]
          have hS : Bt w X [(q, 26, rcells r vc), (q7, 43, pcells p)] v11 (encH r ++ encPs (r.cp.take k) ++ [p.dev.toNat] ++ Fr.Frame.be 2 p.pl.toNat) := (by rw [hX]; exact K5.out.later ⟨rfl, rfl, rfl, Nat.le_refl _, fun _ _ => rfl⟩)
          clear K5
          clear hX
          refine takeH (i := 0) (some 67) rfl rfl (by kernel_rfl) (by kernel_rfl) (by kernel_rfl) (fun _ _ _ h => h) (gRun rfl v11 fun _ h => run_mvZ (.tmp 4) rfl v11 rfl) (hS.loc.at 1 rfl) ?_
          simp only [Act.put, List.setIfInBounds_toArray, List.set_cons_succ, List.set_cons_zero]
          refine takeH (i := 1) (some 68) rfl rfl (by kernel_rfl) (by kernel_rfl) (by kernel_rfl) (fun _ _ _ h => h) (gRun rfl (.pointer (some ⟨q7, 0 + 2, none⟩)) fun _ h => run_fieldOp' f43_2 (.tmp 7) rfl q7 (0) rfl) (hS.loc.at 1 rfl) ?_
          simp only [Act.put, List.setIfInBounds_toArray, List.set_cons_succ, List.set_cons_zero]
          refine takeH (i := 2) (some 69) rfl rfl (by kernel_rfl) (by kernel_rfl) (by kernel_rfl) (fun _ _ _ h => h) (gRun rfl (.int .i64 p.len) fun _ h => run_load1 o3 (.tmp 68) rfl q7 (0 + 2) rfl (.int .i64 p.len) (h.at 2 _ rfl)) (hS.loc.at 1 rfl) ?_
          simp only [Act.put, List.setIfInBounds_toArray, List.set_cons_succ, List.set_cons_zero]
          refine takeH (i := 3) (some 70) rfl rfl (by kernel_rfl) (by kernel_rfl) (by kernel_rfl) (fun _ _ _ h => h) (gRun rfl (.int .u8 (p.len.toNat : Nat)) fun _ h => run_toU8 (.tmp 69) rfl p.len HX.out.2.2.2.1.2.2 rfl) (hS.loc.at 1 rfl) ?_
          simp only [Act.put, List.setIfInBounds_toArray, List.set_cons_succ, List.set_cons_zero]
          refine takeH (i := 4) (some 71) rfl rfl (by kernel_rfl) (by kernel_rfl) (by kernel_rfl) (fun _ _ _ h => h) (gRun rfl (.pointer (some ⟨q7, 0 + 3, none⟩)) fun _ h => run_fieldOp' f43_3 (.tmp 7) rfl q7 (0) rfl) (hS.loc.at 1 rfl) ?_
          simp only [Act.put, List.setIfInBounds_toArray, List.set_cons_succ, List.set_cons_zero]
          refine takeH (i := 5) (some 72) rfl rfl (by kernel_rfl) (by kernel_rfl) (by kernel_rfl) (fun _ _ _ h => h) (gRun rfl (.bool p.bad) fun _ h => run_load1 o4 (.tmp 71) rfl q7 (0 + 3) rfl (.bool p.bad) (h.at 3 _ rfl)) (hS.loc.at 1 rfl) ?_
          simp only [Act.put, List.setIfInBounds_toArray, List.set_cons_succ, List.set_cons_zero]
          refine oneH (i := 6) (by kernel_rfl) ?_
          refine opCallG (some 73) rfl rfl rfl 22 _ (run_call eN22 [.tmp 72, .const (.int .u8 1)] _ rfl [(.bool p.bad), (.int .u8 1)] rfl) ?_
          refine (flag_any p.bad 1 X).mono ?_
          rintro e wf ⟨rfl, rfl⟩
          refine ⟨_, rfl, ?_⟩
          refine ⟨hS.loc.at 1 rfl, ?_⟩
          simp only [Act.put, List.setIfInBounds_toArray, List.set_cons_succ, List.set_cons_zero]
          refine oneH (i := 7) (by kernel_rfl) ?_
          refine opValueG (some 74) rfl rfl rfl _ _ (run_litB2 (.tmp 70) (.tmp 73) rfl (p.len.toNat) (bitB p.bad 1) rfl rfl) ?_
          obtain ⟨vl, hvl⟩ : ∃ v, v = whole X.heap.size 2 := ⟨_, rfl⟩
          obtain ⟨X1, hw⟩ : ∃ W, W = X.alloc (.cells (bcells [p.len.toNat, bitB p.bad 1]).toArray 5) := ⟨_, rfl⟩
          have hL : Bt w X1 [(q, 26, rcells r vc), (q7, 43, pcells p)] v11 (encH r ++ encPs (r.cp.take k) ++ [p.dev.toNat] ++ Fr.Frame.be 2 p.pl.toNat) := hw ▸ hS.later (below_alloc X _)
          have hl : SliceIn X1 vl [p.len.toNat, bitB p.bad 1] := hvl ▸ hw ▸ whole_slice (Row.new X 5 (bcells [p.len.toNat, bitB p.bad 1])) (fun c hc => by have h1 := bit_le p.bad 1; have h2 := HX.out.2.2.2.1.2.2; simp at hc; omega) (by simp)
          rw [← hvl, ← hw]
          clear hvl hw hS
          refine ⟨hL.loc.at 1 rfl, ?_⟩
          simp only [Act.put, List.setIfInBounds_toArray, List.set_cons_succ, List.set_cons_zero]
          obtain ⟨v12, X2, hrun, o_, g_⟩ := run_bappend w.heap.size 28 v11 vl (encH r ++ encPs (r.cp.take k) ++ [p.dev.toNat] ++ Fr.Frame.be 2 p.pl.toNat) [p.len.toNat, bitB p.bad 1] hL.own hl (by have := (show (encH r ++ encPs (r.cp.take k) ++ [p.dev.toNat] ++ Fr.Frame.be 2 p.pl.toNat).length ≤ 1000 by have h1 := encH_length HM.out; have h2 := HX.out.2.2.2.2; simp [Fr.Frame.be_length]; omega); simp [Fr.Frame.be_length] at this ⊢; omega) hL.size
          refine oneH (i := 8) (by kernel_rfl) ?_
          refine opValueG (some 75) rfl rfl rfl v12 X2 (run_append (.tmp 67) (.tmp 74) rfl v11 vl v12 rfl rfl hrun) ?_
          have hN : Bt w X2 [(q, 26, rcells r vc), (q7, 43, pcells p)] v12 (encH r ++ encPs (r.cp.take k) ++ [p.dev.toNat] ++ Fr.Frame.be 2 p.pl.toNat ++ [p.len.toNat, bitB p.bad 1]) := hL.grow g_ o_
          clear hrun o_ g_ hL hl
          refine ⟨hN.loc.at 1 rfl, ?_⟩
          simp only [Act.put, List.setIfInBounds_toArray, List.set_cons_succ, List.set_cons_zero]
          refine takeH (i := 9) (some 4) rfl rfl (by kernel_rfl) (by kernel_rfl) (by kernel_rfl) (fun _ _ _ h => h) (gRun rfl v12 fun _ h => run_asZ (.tmp 75) rfl v12 rfl) (hN.loc.at 1 rfl) ?_
          simp only [Act.put, List.setIfInBounds_toArray, List.set_cons_succ, List.set_cons_zero]
          refine wpAnyH_done (by kernel_rfl) ?_ _
          have K6 : Hid (EnK w q r vc X2 v12 (k + 1)) := (by
            show Bt _ _ _ _ _
            have h2 := hN.drop 1
            have e1 := be_one p.dev.toNat (by have := HX.out.2.2.2.1.1; omega)
            have e2 := be_one p.len.toNat (by have := HX.out.2.2.2.1.2.2; omega)
            rw [encPs_take _ _ _ HX.out.2.2.1]
            simpa [encP, e1, e2] using h2)
          clear hN
          go_wp2_with fail
          refine ⟨⟨k + 1, by go_num, by omega, K6.out⟩, ?_⟩
          simp [intOf]; omega
        · have t1 : decide ((k : Int) < (n : Int)) = false := decide_eq_false (by omega)
          have ek : k = n := by omega
          have KE : Hid (Bt w wr [(q, 26, rcells r vc)] u4 (enc r)) := (by
            show Bt _ _ _ _ _
            have h2 : Bt _ _ _ _ _ := HK.out
            rw [ek, HN.out, List.take_length, encH_all] at h2
            exact h2)
          clear ek
          go_wp2_with fail
          rw [HPQ.out]
          exact ⟨_, _, rfl, KE.out.loc.below, Or.inr ⟨HM.out.may, KE.out.own, rfl⟩⟩

end Go.Proofs.Ytncjmolhofnpbaa

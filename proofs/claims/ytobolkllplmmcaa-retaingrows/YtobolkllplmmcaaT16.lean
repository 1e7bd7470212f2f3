/- RetainGrows. -/
import Derived.Test.YtobolkllplmmcaaT15
import Derived.Test.YtobolkllplmmcaaOpen
namespace Go.Proofs.Ytobolkllplmmcaa
open Go.RowKit

/-- places that came in, or of one's own -/
def CpAt (w W : World) (v : Value) (ps : List Pc) : Prop := PlIn w v ps ∨ POwn W w.heap.size v ps
theorem CpAt.later {w W W' : World} {v : Value} {ps : List Pc} (h : CpAt w W v ps) (hb : Below W.heap.size W W') : CpAt w W' v ps := h.elim Or.inl fun h => Or.inr (h.later hb)
theorem CpAt.off {w W W' : World} {v : Value} {ps : List Pc} (h : CpAt w W v ps) {q T : Nat} {rs : List Value} (hr : Row W q T rs) (hT : T ≠ 47) (hc : Ch (· = q) W W') : CpAt w W' v ps := h.elim Or.inl fun h => Or.inr (h.off hr hT hc)
/-- a record's root, and how many places it has -/
def Rg (r : Rc) : Prop := (r.root.length = 32 ∧ ∀ c ∈ r.root, c < 256) ∧ (r.cp.length + 1) * 32 ≤ 140737488355328
theorem CpAt.fit {w W : World} {v : Value} {r : Rc} (h : CpAt w W v r.cp) (hk : Rg r) (hb : Below w.heap.size w W) : Fits W r v := by
  rcases h with h | h
  · exact ⟨hk.1.1, hk.1.2, h.later hb⟩
  · exact h.fitR hk.1 (by have := hk.2; omega)
theorem CpAt.sl {w W : World} {v : Value} {ps : List Pc} (h : CpAt w W v ps) : ∃ p n c, v = .slice p n c := h.elim (fun h => h.isSlice) fun h => h.isSl
theorem CpAt.rok {w W : World} {v : Value} {r : Rc} (h : CpAt w W v r.cp) (hk : Rg r) : Rok r v := ⟨hk.1.1, hk.1.2, h.sl⟩
theorem Rg.max {r : Rc} (h : Rg r) : r.cp.length ≤ 9223372036854775807 := by have := h.2; omega
theorem Rg.zero : Rg rz := ⟨rz_root, by decide⟩
def aLock (r : Rc) (z : Int) : Rc := { r with expiry := max r.expiry z }
def aHold (r : Rc) (b : Bool) : Rc := { r with hold := b }
def aDel (r : Rc) : Rc := { r with gone := true, cp := [] }
theorem Rg.lock {r : Rc} (h : Rg r) (z : Int) : Rg (aLock r z) := h
theorem Rg.hold {r : Rc} (h : Rg r) (b : Bool) : Rg (aHold r b) := h
theorem Rg.del {r : Rc} (h : Rg r) : Rg (aDel r) := ⟨h.1, by show (0 + 1) * 32 ≤ 140737488355328; decide⟩
theorem run_rem2 {w : World} {a : Act} {o : Oper} (x : Operand) (ho : o.op = .binOp .rem 3 x (.const (.int .i64 2)) 3) (z : Int) (hx : a.eval x = .int .i64 z) : (execOp a.eval o).run Try.prog w = .ok (.value (.int .i64 (z.tmod 2))) w := by
  have e : (a.eval (.const (.int .i64 2))) = .int .i64 2 := rfl
  simp only [execOp, ho, hx, e]
  simp [go_sem]
theorem OdsIn.get {w : World} {v : Value} {l : List Od} (h : OdsIn w v l) (i : Nat) (o : Od) (hi : l[i]? = some o) : o.ok ∧ ∃ b off, (∀ w', (Instr.indexAt 41 v (.int .i64 (i : Nat))).run Try.prog w' = .ok (.pointer (some ⟨b, off, none⟩)) w') ∧ w.cell? ⟨b, off + 0, none⟩ = some (.int .i64 o.k) ∧ w.cell? ⟨b, off + 1, none⟩ = some (.int .i64 o.n) := by
  obtain ⟨_, _, _, _, h⟩ := h
  exact h i o hi
theorem sl41 : Try.prog.underlying 41 = some (.slice (Try.prog.elem 41)) := by kernel_rfl
theorem run_lenD {w0 w : World} {a : Act} {o : Oper} {v : Value} {l : List Od} (hin : OdsIn w0 v l) (x : Operand) (ho : o.op = .call { callee := .builtin .len, args := #[x], argTypes := #[41] }) (hx : a.eval x = v) : (execOp a.eval o).run Try.prog w = .ok (.value (.int .i64 (l.length : Nat))) w := by
  obtain ⟨p, cap, rfl, _⟩ := hin
  exact run_lenZ sl41 x ho p _ cap hx
theorem f44_0 : FieldAt 44 0 0 := fun w g off => by kernel_rfl
theorem f44_1 : FieldAt 44 1 1 := fun w g off => by kernel_rfl
theorem aS {α : Type} (l : List α) (i : Nat) (a : α) : l.toArray.setIfInBounds i a = (l.set i a).toArray := List.setIfInBounds_toArray ..
theorem aC {α : Type} (x : α) (l : List α) (n : Nat) (a : α) : (x :: l).set (n + 1) a = x :: l.set n a := List.set_cons_succ ..
theorem aZ {α : Type} (x : α) (l : List α) (a : α) : (x :: l).set 0 a = a :: l := List.set_cons_zero ..
section
variable {ops : Array Oper} {Q : Exit → Act → World → Prop} {S : World → Prop} {a : Act} {w : World} {listed : Array Bool} {fuel : Nat}
/-- shorter: the three conditions and the last one by themselves -/
theorem tH (i : Nat) (s : Nat) {oi : Oper} {v : Value} (hi : ops[i]? = some oi) (hd : oi.dst = some s)
    (hy : YieldsIf Try.prog ops S oi v a) (hS : S w)
    (h : wpAnyH Try.prog .any ops Q S fuel (listed.setIfInBounds i true) (a.put (some s) v) w)
    (hk : (Region.noSelect ops && Region.free .any ops listed i && (Region.ready .any ops listed).contains i) = true := by kernel_rfl)
    (hQ : ∀ c a w, Q (.panic c) (a.put (some s) v) w → Q (.panic c) a w := by exact fun _ _ _ h => h) : wpAnyH Try.prog .any ops Q S (fuel + 1) listed a w := by
  simp only [Bool.and_eq_true] at hk
  exact takeH (some s) hi hd hk.1.1 hk.1.2 hk.2 hQ hy hS h
end
set_option maxHeartbeats 40000000 in
set_option maxRecDepth 100000 in
theorem grows_any (r : Rc) (vc vl : Value) (l : List Od) (w : World) (hf : Fits w r vc) (hl : OdsIn w vl l) (hz : (r.cp.length + 1) * 32 ≤ 140737488355328) : Calls Try.prog 7 #[.agg (rcells r vc).toArray, vl] w fun e w' => e = .returned (.bool true) ∧ Below w.heap.size w w' := by
 obtain ⟨m, hm⟩ : ∃ m, m = l.length := ⟨_, rfl⟩
 have HF : Hid (Fits w r vc ∧ OdsIn w vl l ∧ m = l.length ∧ m ≤ 9223372036854775807 ∧ Rg r) := ⟨hf, hl, hm, by obtain ⟨_, _, _, h, _⟩ := hl; rw [hm]; exact h, ⟨hf.root, hf.bytes⟩, hz⟩
 clear hf hl hz hm
 obtain ⟨PQ, hPQ⟩ : ∃ PQ : Ending → World → Prop, PQ = fun (e : Ending) (w' : World) => e = .returned (.bool true) ∧ Below w.heap.size w w' := ⟨_, rfl⟩
 have HPQ : Hid (PQ = fun (e : Ending) (w' : World) => e = .returned (.bool true) ∧ Below w.heap.size w w') := hPQ
 rw [← hPQ]
 clear hPQ
 have R0 : Hid (Loc w w []) := Loc.nil (Below.refl _ w)
 go_enter Try.func7, Try.ntmps7
 go_upto_region 0 with fail
 refine wp_region_lit ?_
 refine wl rfl (ptr w.heap.size) _ (run_boxA (.tmp 0) rfl (rcells r vc) rfl) ?_
 have k_ := R0.out.box 26 (rcells r vc)
 obtain ⟨w1, hW_⟩ : ∃ W, W = w.alloc (.cells (rcells r vc).toArray 26) := ⟨_, rfl⟩
 obtain ⟨q1, hq_⟩ : ∃ q, q = w.heap.size := ⟨_, rfl⟩
 rw [← hW_, ← hq_] at k_
 rw [← hW_, ← hq_]
 clear hq_
 have Rw1 : Hid (Loc w w1 [(q1, 26, rcells r vc)]) := k_
 clear k_ hW_ R0
 simp only [Act.put, aS, aC, aZ]
 refine wl rfl (.bool false) _ (run_asZ (.const (.bool false)) rfl (.bool false) rfl) ?_
 simp only [Act.put, aS, aC, aZ]
 refine wpList_nil ?_
 go_upto_region 1 with fail
 refine wp_region_lit ?_
 refine wpList_callW eN9 [] _ rfl rfl [] rfl ?_
 refine (shown_any w1).mono ?_
 rintro e w2 ⟨rfl, b_⟩
 refine ⟨_, rfl, ?_⟩
 have Rw2 : Hid (Loc w w2 [(q1, 26, rcells r vc)]) := Rw1.out.later b_
 clear Rw1 b_
 simp only [Act.put, aS, aC, aZ]
 refine wl rfl (.bool true) _ (run_asZ (.tmp 11) rfl (.bool true) rfl) ?_
 simp only [Act.put, aS, aC, aZ]
 refine wpList_nil ?_
 go_upto_region 2 with fail
 refine wp_region_lit ?_
 refine wl rfl (.bool true) _ (run_mvZ (.tmp 5) rfl (.bool true) rfl) ?_
 simp only [Act.put, aS, aC, aZ]
 refine wl rfl (.bool false) _ (run_not (.tmp 12) 4 rfl true rfl) ?_
 simp only [Act.put, aS, aC, aZ]
 refine wpList_nil ?_
 go_upto_region 4 with fail
 refine wp_region_lit ?_
 refine wl rfl (.int .i64 0) _ (run_asZ (.const (.int .i64 0)) rfl (.int .i64 0) rfl) ?_
 simp only [Act.put, aS, aC, aZ]
 refine wpList_nil ?_
 go_wp2_with fail
 go_loopw [6] (fun v6 W => ∃ i : Nat, v6 = .int .i64 (i : Nat) ∧ i ≤ m ∧ Hid (∃ R vR, Loc w W [(q1, 26, rcells R vR)] ∧ CpAt w W vR R.cp ∧ Rg R)) (fun v6 _ => m - (intOf v6).toNat)
 case atStart => exact ⟨0, rfl, Nat.zero_le _, ⟨r, vc, Rw2.out, Or.inl HF.out.1.cp, HF.out.2.2.2.2⟩⟩
 case round =>
  clear Rw2
  obtain ⟨i, rfl, hi, hS_⟩ := hrel
  obtain ⟨R, vR, h1_, h2_, h3_⟩ := hS_.out
  have RA : Hid (Loc w wr [(q1, 26, rcells R vR)]) := h1_
  have HC : Hid (CpAt w wr vR R.cp) := h2_
  have HG : Hid (Rg R) := h3_
  clear h1_ h2_ h3_ hS_
  by_cases hlt : i < m
  ·have HD : Hid (decide (i < m) = true) := decide_eq_true hlt
   go_upto_region 5 with fail
   refine wp_region_lit ?_
   refine wl rfl (.int .i64 (i : Nat)) _ (run_mvZ (.tmp 6) rfl (.int .i64 (i : Nat)) rfl) ?_
   simp only [Act.put, aS, aC, aZ]
   refine wl rfl vl _ (run_mvZ (.tmp 1) rfl vl rfl) ?_
   simp only [Act.put, aS, aC, aZ]
   refine wl rfl (.int .i64 (m : Nat)) _ ((by rw [HF.out.2.2.1]; exact run_lenD HF.out.2.1 (.tmp 15) rfl rfl)) ?_
   simp only [Act.put, aS, aC, aZ]
   refine wl rfl (.bool true) _ (run_lssN (.tmp 14) (.tmp 16) rfl i m rfl rfl true HD.out) ?_
   simp only [Act.put, aS, aC, aZ]
   refine wpList_nil ?_
   obtain ⟨op, hop⟩ : ∃ x, l[i]? = some x := ⟨_, List.getElem?_eq_getElem (by rw [← HF.out.2.2.1]; exact hlt)⟩
   obtain ⟨hok, b, o, i1_, c1_, c2_⟩ := HF.out.2.1.get i op hop
   obtain ⟨kz, hkz⟩ : ∃ z, z = op.k := ⟨_, rfl⟩
   obtain ⟨z, hzz⟩ : ∃ z, z = op.n := ⟨_, rfl⟩
   rw [← hkz] at c1_
   rw [← hzz] at c2_
   obtain ⟨kd, hkd⟩ : ∃ z, z = kindS kz := ⟨_, rfl⟩
   have HKi : Hid (∀ U, Calls Try.prog 21 #[.int .i64 kz] U fun e w' => e = .returned (.int .i64 kd) ∧ U = w') := fun U => hkd ▸ kind_any kz (by rw [hkz]; exact hok.1) U
   have HOd : Hid ((∀ w', (Instr.indexAt 41 vl (.int .i64 (i : Nat))).run Try.prog w' = .ok (.pointer (some ⟨b, o, none⟩)) w') ∧ w.cell? ⟨b, o + 0, none⟩ = some (.int .i64 kz) ∧ w.cell? ⟨b, o + 1, none⟩ = some (.int .i64 z)) := ⟨i1_, c1_, c2_⟩
   clear hop hok i1_ c1_ c2_ hkz hzz hkd
   go_upto_region 7 with fail
   refine wp_region_lit ?_
   refine wl rfl (.agg (rcells R vR).toArray) _ (run_loadA ag26 (.tmp 2) rfl q1 (0) rfl (rcells R vR) ((HC.out.rok HG.out)).len (RA.out.rows 0 rfl)) ?_
   simp only [Act.put, aS, aC, aZ]
   refine wpList_callW eN10 [.tmp 20] _ rfl rfl [(.agg (rcells R vR).toArray)] rfl ?_
   refine (copied_any R vR wr (HC.out.fit HG.out RA.out.below) (by have := HG.out.2; omega)).mono ?_
   rintro e w11 ⟨vw, rfl, b_, o_⟩
   refine ⟨_, rfl, ?_⟩
   have HCx : Hid (CpAt w w11 vR R.cp) := HC.out.later b_
   clear HC
   have HC := HCx
   clear HCx
   have H2 : Hid (POwn w11 w.heap.size vw R.cp) := o_.weaken RA.out.below.size
   clear o_
   have Rw11 : Hid (Loc w w11 [(q1, 26, rcells R vR)]) := RA.out.later b_
   clear RA b_
   simp only [Act.put, aS, aC, aZ]
   refine wl rfl (ptr w11.heap.size) _ (run_allocA (rcells rz (.slice none 0 0)) zero26 rfl) ?_
   have k_ := Rw11.out.box 26 (rcells rz (.slice none 0 0))
   have hB_ := below_alloc w11 (.cells (rcells rz (.slice none 0 0)).toArray 26)
   obtain ⟨w12, hW_⟩ : ∃ U_ : World, U_ = w11.alloc (.cells (rcells rz (.slice none 0 0)).toArray 26) := ⟨_, rfl⟩
   obtain ⟨q2, hq_⟩ : ∃ q, q = w11.heap.size := ⟨_, rfl⟩
   rw [← hW_, ← hq_] at k_
   rw [← hW_] at hB_
   rw [← hW_, ← hq_]
   clear hq_
   have HCx : Hid (CpAt w w12 vR R.cp) := HC.out.later hB_
   clear HC
   have HC := HCx
   clear HCx
   have H2x : Hid (POwn w12 w.heap.size vw R.cp) := H2.out.later hB_
   clear H2
   have H2 := H2x
   clear H2x
   have Rw12 : Hid (Loc w w12 [(q1, 26, rcells R vR), (q2, 26, rcells rz (.slice none 0 0))]) := k_
   clear k_ hW_ Rw11
   clear hB_
   simp only [Act.put, aS, aC, aZ]
   obtain ⟨hst_, k_, hC_⟩ := Rw12.out.st26 1 rfl (Rok.nil).len (rcells R vw) ((show Rok R vw from ⟨HG.out.1.1, HG.out.1.2, H2.out.isSl⟩)).len ((show Rok R vw from ⟨HG.out.1.1, HG.out.1.2, H2.out.isSl⟩)).one
   have hR_ := Rw12.out.at 1 rfl
   refine wlS rfl rfl _ (run_stV (.tmp 7) (.tmp 21) rfl q2 0 rfl _ rfl hst_) ?_
   obtain ⟨w13, hW_⟩ : ∃ U_ : World, U_ = w12.setRow q2 (rcells R vw).toArray := ⟨_, rfl⟩
   rw [← hW_] at k_ hC_ ⊢
   clear hst_
   have HCx : Hid (CpAt w w13 vR R.cp) := HC.out.off hR_ (by decide) hC_
   clear HC
   have HC := HCx
   clear HCx
   have H2x : Hid (POwn w13 w.heap.size vw R.cp) := H2.out.off hR_ (by decide) hC_
   clear H2
   have H2 := H2x
   clear H2x
   have Rw13 : Hid (Loc w w13 [(q1, 26, rcells R vR), (q2, 26, rcells R vw)]) := k_
   clear k_ hW_ Rw12
   clear hC_ hR_
   refine wpList_nil ?_
   go_upto_region 8 with fail
   refine wp_region_lit ?_
   refine wl rfl (.int .i64 0) _ (run_asZ (.const (.int .i64 0)) rfl (.int .i64 0) rfl) ?_
   simp only [Act.put, aS, aC, aZ]
   refine wpList_nil ?_
   go_upto_region 9 with fail
   refine wp_region_lit ?_
   refine wl rfl (.agg (rcells rz (.slice none 0 0)).toArray) _ (run_bld26 rfl) ?_
   simp only [Act.put, aS, aC, aZ]
   refine wl rfl (ptr w13.heap.size) _ (run_allocA (rcells rz (.slice none 0 0)) zero26 rfl) ?_
   have k_ := Rw13.out.box 26 (rcells rz (.slice none 0 0))
   have hB_ := below_alloc w13 (.cells (rcells rz (.slice none 0 0)).toArray 26)
   obtain ⟨w14, hW_⟩ : ∃ U_ : World, U_ = w13.alloc (.cells (rcells rz (.slice none 0 0)).toArray 26) := ⟨_, rfl⟩
   obtain ⟨q3, hq_⟩ : ∃ q, q = w13.heap.size := ⟨_, rfl⟩
   rw [← hW_, ← hq_] at k_
   rw [← hW_] at hB_
   rw [← hW_, ← hq_]
   clear hq_
   have HCx : Hid (CpAt w w14 vR R.cp) := HC.out.later hB_
   clear HC
   have HC := HCx
   clear HCx
   have H2x : Hid (POwn w14 w.heap.size vw R.cp) := H2.out.later hB_
   clear H2
   have H2 := H2x
   clear H2x
   have Rw14 : Hid (Loc w w14 [(q1, 26, rcells R vR), (q2, 26, rcells R vw), (q3, 26, rcells rz (.slice none 0 0))]) := k_
   clear k_ hW_ Rw13
   clear hB_
   simp only [Act.put, aS, aC, aZ]
   obtain ⟨hst_, k_, hC_⟩ := Rw14.out.st26 2 rfl (Rok.nil).len (rcells rz (.slice none 0 0)) (Rok.nil).len (Rok.nil).one
   have hR_ := Rw14.out.at 2 rfl
   refine wlS rfl rfl _ (run_stV (.tmp 9) (.tmp 22) rfl q3 0 rfl _ rfl hst_) ?_
   obtain ⟨w15, hW_⟩ : ∃ U_ : World, U_ = w14.setRow q3 (rcells rz (.slice none 0 0)).toArray := ⟨_, rfl⟩
   rw [← hW_] at k_ hC_ ⊢
   clear hst_
   have HCx : Hid (CpAt w w15 vR R.cp) := HC.out.off hR_ (by decide) hC_
   clear HC
   have HC := HCx
   clear HCx
   have H2x : Hid (POwn w15 w.heap.size vw R.cp) := H2.out.off hR_ (by decide) hC_
   clear H2
   have H2 := H2x
   clear H2x
   have Rw15 : Hid (Loc w w15 [(q1, 26, rcells R vR), (q2, 26, rcells R vw), (q3, 26, rcells rz (.slice none 0 0))]) := k_
   clear k_ hW_ Rw14
   clear hC_ hR_
   refine wpList_nil ?_
   go_upto_region 10 with fail
   refine wp_region_lit ?_
   refine wl rfl vl _ (run_mvZ (.tmp 1) rfl vl rfl) ?_
   simp only [Act.put, aS, aC, aZ]
   refine wl rfl (.int .i64 (i : Nat)) _ (run_mvZ (.tmp 6) rfl (.int .i64 (i : Nat)) rfl) ?_
   simp only [Act.put, aS, aC, aZ]
   refine wl rfl (.pointer (some ⟨b, o, none⟩)) _ (run_idx (.tmp 23) (.tmp 24) rfl vl _ _ rfl rfl HOd.out.1) ?_
   simp only [Act.put, aS, aC, aZ]
   refine wl rfl (.pointer (some ⟨b, o + 0, none⟩)) _ (run_fieldOp' f44_0 (.tmp 25) rfl b (o) rfl) ?_
   simp only [Act.put, aS, aC, aZ]
   refine wl rfl (.int .i64 kz) _ (run_load1 o3 (.tmp 26) rfl b (o + 0) rfl (.int .i64 kz) (cell_later HOd.out.2.1 Rw15.out.below)) ?_
   simp only [Act.put, aS, aC, aZ]
   refine wpList_callW eN21 [.tmp 27] _ rfl rfl [(.int .i64 kz)] rfl ?_
   refine (HKi.out w15).mono ?_
   rintro e w' ⟨rfl, rfl⟩
   refine ⟨_, rfl, ?_⟩
   simp only [Act.put, aS, aC, aZ]
   refine wpList_nil ?_
   by_cases hk0 : kd = 0
   ·have HKD : Hid (decide (kd = 0) = true) := decide_eq_true hk0
    by_cases hn : z < 0 ∨ 1099511627776 < z
    ·by_cases hg : R.gone = true
     ·as_aux_lemma =>
      have HGo : Hid (R.gone = true) := hg
      clear hg
      have HSp : Hid (lockS R z = (rz, 1)) := by rw [lockS, if_pos hn]; exact rfl
      go_upto_region 15 with fail
      refine wp_region_lit ?_
      refine wl rfl (.bool true) _ (run_eqZ (.tmp 28) (.const (.int .i64 0)) rfl kd 0 rfl rfl true HKD.out) ?_
      simp only [Act.put, aS, aC, aZ]
      refine wl rfl (.bool true) _ (run_asZ (.tmp 84) rfl (.bool true) rfl) ?_
      simp only [Act.put, aS, aC, aZ]
      refine wpList_nil ?_
      have HCl : Hid (∀ U, Fits U R vR → Calls Try.prog 11 #[.agg (rcells R vR).toArray, .int .i64 z] U fun e w' => ∃ v', e = .returned (.tuple #[.agg (rcells rz v').toArray, .int .i64 1]) ∧ Below U.heap.size U w' ∧ POwn w' U.heap.size v' rz.cp) := fun U h => by
       have h_ := lock_any R vR z U h (by have := HG.out.2; omega)
       rw [HSp.out] at h_
       exact h_
      go_upto_region 16 with fail
      refine wp_region_held (S := fun X => Loc w X [(q1, 26, rcells R vR), (q2, 26, rcells R vw)]) (by kernel_rfl) ?_
      show wpAnyH _ _ _ _ _ 12 (Array.replicate 12 false) _ _
      obtain ⟨X, hX⟩ : ∃ X : World, X = { w15 with drawn := w15.drawn + 1 } := ⟨_, rfl⟩
      rw [← hX]
      have RX : Hid (Loc w X [(q1, 26, rcells R vR), (q2, 26, rcells R vw), (q3, 26, rcells rz (.slice none 0 0))]) := by rw [hX]; exact Rw15.out.drew
      have HCx : Hid (CpAt w X vR R.cp) := by rw [hX]; exact HC.out.later (Below.drewN (Below.refl _ _) 1)
      have H2x : Hid (POwn X w.heap.size vw R.cp) := by rw [hX]; exact H2.out.later (Below.drewN (Below.refl _ _) 1)
      have RS : Hid (Loc w X [(q1, 26, rcells R vR), (q2, 26, rcells R vw)]) := RX.out.take 2
      clear HC
      have HC := HCx
      clear HCx
      clear H2
      have H2 := H2x
      clear H2x
      clear Rw15
      clear hX
      refine tH 0 86 rfl rfl (gRun rfl (.agg (rcells R vR).toArray) fun _ h => run_loadA ag26 (.tmp 2) rfl q1 (0) rfl (rcells R vR) ((HC.out.rok HG.out)).len (h.rows 0 rfl)) RS.out ?_
      simp only [Act.put, aS, aC, aZ]
      refine tH 1 87 rfl rfl (gRun rfl vl fun _ h => run_mvZ (.tmp 1) rfl vl rfl) RS.out ?_
      simp only [Act.put, aS, aC, aZ]
      refine tH 2 88 rfl rfl (gRun rfl (.int .i64 (i : Nat)) fun _ h => run_mvZ (.tmp 6) rfl (.int .i64 (i : Nat)) rfl) RS.out ?_
      simp only [Act.put, aS, aC, aZ]
      refine tH 3 89 rfl rfl (gRun rfl (.pointer (some ⟨b, o, none⟩)) fun _ h => run_idx (.tmp 87) (.tmp 88) rfl vl _ _ rfl rfl HOd.out.1) RS.out ?_
      simp only [Act.put, aS, aC, aZ]
      refine tH 4 90 rfl rfl (gRun rfl (.pointer (some ⟨b, o + 1, none⟩)) fun _ h => run_fieldOp' f44_1 (.tmp 89) rfl b (o) rfl) RS.out ?_
      simp only [Act.put, aS, aC, aZ]
      refine tH 5 91 rfl rfl (gRun rfl (.int .i64 z) fun _ h => run_load1 o3 (.tmp 90) rfl b (o + 1) rfl (.int .i64 z) (cell_later HOd.out.2.2 h.below)) RS.out ?_
      simp only [Act.put, aS, aC, aZ]
      refine oneH (i := 6) (by kernel_rfl) ?_
      refine opCallG (some 92) rfl rfl rfl 11 _ (run_call eN11 [.tmp 86, .tmp 91] _ rfl [(.agg (rcells R vR).toArray), (.int .i64 z)] rfl) ?_
      refine (HCl.out X (HC.out.fit HG.out RX.out.below)).mono ?_
      rintro e w16 ⟨v3, rfl, b_, o_⟩
      refine ⟨_, rfl, ?_⟩
      have RSx : Hid (Loc w w16 [(q1, 26, rcells R vR), (q2, 26, rcells R vw)]) := RS.out.later b_
      clear RS
      have RS := RSx
      clear RSx
      have HCx : Hid (CpAt w w16 vR R.cp) := HC.out.later b_
      clear HC
      have HC := HCx
      clear HCx
      have H2x : Hid (POwn w16 w.heap.size vw R.cp) := H2.out.later b_
      clear H2
      have H2 := H2x
      clear H2x
      have H3 : Hid (POwn w16 w.heap.size v3 rz.cp) := o_.weaken RX.out.below.size
      clear o_ HCl
      have Rw16 : Hid (Loc w w16 [(q1, 26, rcells R vR), (q2, 26, rcells R vw), (q3, 26, rcells rz (.slice none 0 0))]) := RX.out.later b_
      clear RX b_
      refine ⟨RS.out, ?_⟩
      simp only [Act.put, aS, aC, aZ]
      refine tH 7 85 rfl rfl (gRun rfl (.tuple #[(.agg (rcells rz v3).toArray), (.int .i64 1)]) fun _ h => run_mvZ (.tmp 92) rfl (.tuple #[(.agg (rcells rz v3).toArray), (.int .i64 1)]) rfl) RS.out ?_
      simp only [Act.put, aS, aC, aZ]
      refine tH 8 93 rfl rfl (gRun rfl (.agg (rcells rz v3).toArray) fun _ h => run_extZ (.tmp 85) 0 rfl #[(.agg (rcells rz v3).toArray), (.int .i64 1)] rfl (.agg (rcells rz v3).toArray) rfl) RS.out ?_
      simp only [Act.put, aS, aC, aZ]
      refine tH 9 94 rfl rfl (gRun rfl (.int .i64 1) fun _ h => run_extZ (.tmp 85) 1 rfl #[(.agg (rcells rz v3).toArray), (.int .i64 1)] rfl (.int .i64 1) rfl) RS.out ?_
      simp only [Act.put, aS, aC, aZ]
      obtain ⟨hst_, k_, hC_⟩ := Rw16.out.st26 2 rfl (Rok.nil).len (rcells rz v3) ((show Rok rz v3 from ⟨(Rg.zero).1.1, (Rg.zero).1.2, H3.out.isSl⟩)).len ((show Rok rz v3 from ⟨(Rg.zero).1.1, (Rg.zero).1.2, H3.out.isSl⟩)).one
      have hR_ := Rw16.out.at 2 rfl
      refine oneH (i := 10) (by kernel_rfl) ?_
      refine opSkipZ rfl rfl rfl _ (run_stV (.tmp 9) (.tmp 93) rfl q3 0 rfl _ rfl hst_) ?_
      obtain ⟨w17, hW_⟩ : ∃ U_ : World, U_ = w16.setRow q3 (rcells rz v3).toArray := ⟨_, rfl⟩
      rw [← hW_] at k_ hC_ ⊢
      clear hst_
      have HCx : Hid (CpAt w w17 vR R.cp) := HC.out.off hR_ (by decide) hC_
      clear HC
      have HC := HCx
      clear HCx
      have H2x : Hid (POwn w17 w.heap.size vw R.cp) := H2.out.off hR_ (by decide) hC_
      clear H2
      have H2 := H2x
      clear H2x
      have H3x : Hid (POwn w17 w.heap.size v3 rz.cp) := H3.out.off hR_ (by decide) hC_
      clear H3
      have H3 := H3x
      clear H3x
      have Rw17 : Hid (Loc w w17 [(q1, 26, rcells R vR), (q2, 26, rcells R vw), (q3, 26, rcells rz v3)]) := k_
      clear k_ hW_ Rw16
      clear hC_ hR_
      clear RS
      have RS : Hid (Loc w w17 [(q1, 26, rcells R vR), (q2, 26, rcells R vw)]) := Rw17.out.take 2
      refine ⟨RS.out, ?_⟩
      refine tH 11 8 rfl rfl (gRun rfl (.int .i64 1) fun _ h => run_asZ (.tmp 94) rfl (.int .i64 1) rfl) RS.out ?_
      simp only [Act.put, aS, aC, aZ]
      refine wpAnyH_done (by kernel_rfl) ?_ _
      clear RS
      go_upto_region 17 with fail
      refine wp_region_held (S := fun X => Loc w X [(q1, 26, rcells R vR), (q2, 26, rcells R vw), (q3, 26, rcells rz v3)]) (by kernel_rfl) ?_
      show wpAnyH _ _ _ _ _ 47 (Array.replicate 47 false) _ _
      obtain ⟨Y, hX⟩ : ∃ Y : World, Y = { w17 with drawn := w17.drawn + 1 } := ⟨_, rfl⟩
      rw [← hX]
      have RX : Hid (Loc w Y [(q1, 26, rcells R vR), (q2, 26, rcells R vw), (q3, 26, rcells rz v3)]) := by rw [hX]; exact Rw17.out.drew
      have HCx : Hid (CpAt w Y vR R.cp) := by rw [hX]; exact HC.out.later (Below.drewN (Below.refl _ _) 1)
      have H2x : Hid (POwn Y w.heap.size vw R.cp) := by rw [hX]; exact H2.out.later (Below.drewN (Below.refl _ _) 1)
      have H3x : Hid (POwn Y w.heap.size v3 rz.cp) := by rw [hX]; exact H3.out.later (Below.drewN (Below.refl _ _) 1)
      have RS : Hid (Loc w Y [(q1, 26, rcells R vR), (q2, 26, rcells R vw), (q3, 26, rcells rz v3)]) := RX.out
      clear HC
      have HC := HCx
      clear HCx
      clear H2
      have H2 := H2x
      clear H2x
      clear H3
      have H3 := H3x
      clear H3x
      clear Rw17
      clear hX
      refine tH 0 95 rfl rfl (gRun rfl (.int .i64 1) fun _ h => run_mvZ (.tmp 8) rfl (.int .i64 1) rfl) RS.out ?_
      simp only [Act.put, aS, aC, aZ]
      refine tH 1 96 rfl rfl (gRun rfl (.bool false) fun _ h => run_eqZ (.tmp 95) (.const (.int .i64 0)) rfl (1) (0) rfl rfl false rfl) RS.out ?_
      simp only [Act.put, aS, aC, aZ]
      refine tH 2 97 rfl rfl (gRun rfl (.bool false) fun _ h => run_mvZ (.tmp 96) rfl (.bool false) rfl) RS.out ?_
      simp only [Act.put, aS, aC, aZ]
      refine tH 3 98 rfl rfl (Or.inr ⟨by kernel_rfl, rfl⟩) RS.out ?_
      simp only [Act.put, aS, aC, aZ]
      refine tH 4 99 rfl rfl (Or.inr ⟨by kernel_rfl, rfl⟩) RS.out ?_
      simp only [Act.put, aS, aC, aZ]
      refine tH 5 100 rfl rfl (Or.inr ⟨by kernel_rfl, rfl⟩) RS.out ?_
      simp only [Act.put, aS, aC, aZ]
      refine tH 6 101 rfl rfl (Or.inr ⟨by kernel_rfl, rfl⟩) RS.out ?_
      simp only [Act.put, aS, aC, aZ]
      refine tH 7 102 rfl rfl (Or.inr ⟨by kernel_rfl, rfl⟩) RS.out ?_
      simp only [Act.put, aS, aC, aZ]
      refine tH 8 103 rfl rfl (Or.inr ⟨by kernel_rfl, rfl⟩) RS.out ?_
      simp only [Act.put, aS, aC, aZ]
      refine tH 9 104 rfl rfl (Or.inr ⟨by kernel_rfl, rfl⟩) RS.out ?_
      simp only [Act.put, aS, aC, aZ]
      refine tH 10 105 rfl rfl (Or.inr ⟨by kernel_rfl, rfl⟩) RS.out ?_
      simp only [Act.put, aS, aC, aZ]
      refine tH 11 106 rfl rfl (Or.inr ⟨by kernel_rfl, rfl⟩) RS.out ?_
      simp only [Act.put, aS, aC, aZ]
      refine tH 12 107 rfl rfl (Or.inr ⟨by kernel_rfl, rfl⟩) RS.out ?_
      simp only [Act.put, aS, aC, aZ]
      refine tH 13 108 rfl rfl (Or.inr ⟨by kernel_rfl, rfl⟩) RS.out ?_
      simp only [Act.put, aS, aC, aZ]
      refine tH 14 109 rfl rfl (Or.inr ⟨by kernel_rfl, rfl⟩) RS.out ?_
      simp only [Act.put, aS, aC, aZ]
      refine tH 15 110 rfl rfl (Or.inr ⟨by kernel_rfl, rfl⟩) RS.out ?_
      simp only [Act.put, aS, aC, aZ]
      refine tH 16 111 rfl rfl (Or.inr ⟨by kernel_rfl, rfl⟩) RS.out ?_
      simp only [Act.put, aS, aC, aZ]
      refine tH 17 112 rfl rfl (Or.inr ⟨by kernel_rfl, rfl⟩) RS.out ?_
      simp only [Act.put, aS, aC, aZ]
      refine tH 18 113 rfl rfl (Or.inr ⟨by kernel_rfl, rfl⟩) RS.out ?_
      simp only [Act.put, aS, aC, aZ]
      refine tH 19 114 rfl rfl (Or.inr ⟨by kernel_rfl, rfl⟩) RS.out ?_
      simp only [Act.put, aS, aC, aZ]
      refine tH 20 115 rfl rfl (Or.inr ⟨by kernel_rfl, rfl⟩) RS.out ?_
      simp only [Act.put, aS, aC, aZ]
      refine tH 21 116 rfl rfl (Or.inr ⟨by kernel_rfl, rfl⟩) RS.out ?_
      simp only [Act.put, aS, aC, aZ]
      refine tH 22 117 rfl rfl (Or.inr ⟨by kernel_rfl, rfl⟩) RS.out ?_
      simp only [Act.put, aS, aC, aZ]
      refine tH 23 118 rfl rfl (Or.inr ⟨by kernel_rfl, rfl⟩) RS.out ?_
      simp only [Act.put, aS, aC, aZ]
      refine tH 24 119 rfl rfl (Or.inr ⟨by kernel_rfl, rfl⟩) RS.out ?_
      simp only [Act.put, aS, aC, aZ]
      refine tH 25 120 rfl rfl (Or.inr ⟨by kernel_rfl, rfl⟩) RS.out ?_
      simp only [Act.put, aS, aC, aZ]
      refine tH 26 121 rfl rfl (Or.inr ⟨by kernel_rfl, rfl⟩) RS.out ?_
      simp only [Act.put, aS, aC, aZ]
      refine tH 27 122 rfl rfl (Or.inr ⟨by kernel_rfl, rfl⟩) RS.out ?_
      simp only [Act.put, aS, aC, aZ]
      refine tH 28 123 rfl rfl (Or.inr ⟨by kernel_rfl, rfl⟩) RS.out ?_
      simp only [Act.put, aS, aC, aZ]
      refine tH 29 124 rfl rfl (Or.inr ⟨by kernel_rfl, rfl⟩) RS.out ?_
      simp only [Act.put, aS, aC, aZ]
      refine tH 30 125 rfl rfl (Or.inr ⟨by kernel_rfl, rfl⟩) RS.out ?_
      simp only [Act.put, aS, aC, aZ]
      refine tH 31 126 rfl rfl (Or.inr ⟨by kernel_rfl, rfl⟩) RS.out ?_
      simp only [Act.put, aS, aC, aZ]
      refine tH 32 127 rfl rfl (Or.inr ⟨by kernel_rfl, rfl⟩) RS.out ?_
      simp only [Act.put, aS, aC, aZ]
      refine tH 33 128 rfl rfl (Or.inr ⟨by kernel_rfl, rfl⟩) RS.out ?_
      simp only [Act.put, aS, aC, aZ]
      refine tH 34 129 rfl rfl (Or.inr ⟨by kernel_rfl, rfl⟩) RS.out ?_
      simp only [Act.put, aS, aC, aZ]
      refine tH 35 130 rfl rfl (Or.inr ⟨by kernel_rfl, rfl⟩) RS.out ?_
      simp only [Act.put, aS, aC, aZ]
      refine tH 36 131 rfl rfl (Or.inr ⟨by kernel_rfl, rfl⟩) RS.out ?_
      simp only [Act.put, aS, aC, aZ]
      refine tH 37 132 rfl rfl (Or.inr ⟨by kernel_rfl, rfl⟩) RS.out ?_
      simp only [Act.put, aS, aC, aZ]
      refine tH 38 133 rfl rfl (Or.inr ⟨by kernel_rfl, rfl⟩) RS.out ?_
      simp only [Act.put, aS, aC, aZ]
      refine tH 39 134 rfl rfl (Or.inr ⟨by kernel_rfl, rfl⟩) RS.out ?_
      simp only [Act.put, aS, aC, aZ]
      refine tH 40 135 rfl rfl (Or.inr ⟨by kernel_rfl, rfl⟩) RS.out ?_
      simp only [Act.put, aS, aC, aZ]
      refine tH 41 136 rfl rfl (Or.inr ⟨by kernel_rfl, rfl⟩) RS.out ?_
      simp only [Act.put, aS, aC, aZ]
      refine tH 42 137 rfl rfl (Or.inr ⟨by kernel_rfl, rfl⟩) RS.out ?_
      simp only [Act.put, aS, aC, aZ]
      refine tH 43 138 rfl rfl (Or.inr ⟨by kernel_rfl, rfl⟩) RS.out ?_
      simp only [Act.put, aS, aC, aZ]
      refine tH 44 139 rfl rfl (Or.inr ⟨by kernel_rfl, rfl⟩) RS.out ?_
      simp only [Act.put, aS, aC, aZ]
      refine tH 45 140 rfl rfl (Or.inr ⟨by kernel_rfl, rfl⟩) RS.out ?_
      simp only [Act.put, aS, aC, aZ]
      refine tH 46 141 rfl rfl (gRun rfl (.bool false) fun _ h => run_pickZ (.tmp 97) (.tmp 140) (.const (.bool false)) rfl false (.bool false) rfl rfl) RS.out ?_
      simp only [Act.put, aS, aC, aZ]
      refine wpAnyH_done (by kernel_rfl) ?_ _
      clear RS
      go_upto_region 23 with fail
      refine wp_region_lit ?_
      refine wl rfl (.int .i64 1) _ (run_mvZ (.tmp 8) rfl (.int .i64 1) rfl) ?_
      simp only [Act.put, aS, aC, aZ]
      refine wl rfl (.bool false) _ (run_eqZ (.tmp 181) (.const (.int .i64 0)) rfl (1) (0) rfl rfl false rfl) ?_
      simp only [Act.put, aS, aC, aZ]
      refine wpList_nil ?_
      go_upto_region 27 with fail
      refine wp_region_lit ?_
      refine wl rfl (.agg (rcells R vR).toArray) _ (run_loadA ag26 (.tmp 2) rfl q1 (0) rfl (rcells R vR) ((HC.out.rok HG.out)).len (RX.out.rows 0 rfl)) ?_
      simp only [Act.put, aS, aC, aZ]
      refine wl rfl (.agg (rcells R vw).toArray) _ (run_loadA ag26 (.tmp 7) rfl q2 (0) rfl (rcells R vw) ((show Rok R vw from ⟨HG.out.1.1, HG.out.1.2, H2.out.isSl⟩)).len (RX.out.rows 1 rfl)) ?_
      simp only [Act.put, aS, aC, aZ]
      refine wpList_callW eN13 [.tmp 214, .tmp 215] _ rfl rfl [(.agg (rcells R vR).toArray), (.agg (rcells R vw).toArray)] rfl ?_
      refine (same_yes R vR vw Y (HC.out.fit HG.out RX.out.below) (H2.out.fitR HG.out.1 HG.out.max)).mono ?_
      rintro e w18 ⟨rfl, b_⟩
      refine ⟨_, rfl, ?_⟩
      have HCx : Hid (CpAt w w18 vR R.cp) := HC.out.later b_
      clear HC
      have HC := HCx
      clear HCx
      have H2x : Hid (POwn w18 w.heap.size vw R.cp) := H2.out.later b_
      clear H2
      have H2 := H2x
      clear H2x
      have H3x : Hid (POwn w18 w.heap.size v3 rz.cp) := H3.out.later b_
      clear H3
      have H3 := H3x
      clear H3x
      have Rw18 : Hid (Loc w w18 [(q1, 26, rcells R vR), (q2, 26, rcells R vw), (q3, 26, rcells rz v3)]) := RX.out.later b_
      clear RX b_
      simp only [Act.put, aS, aC, aZ]
      refine wl rfl (.bool false) _ (run_not (.tmp 216) 4 rfl true rfl) ?_
      simp only [Act.put, aS, aC, aZ]
      refine wl rfl (.bool false) _ (run_mvZ (.tmp 217) rfl (.bool false) rfl) ?_
      simp only [Act.put, aS, aC, aZ]
      refine wl (by kernel_rfl) (.agg (rcells rz v3).toArray) _ (run_loadA ag26 (.tmp 9) rfl q3 (0) rfl (rcells rz v3) ((show Rok rz v3 from ⟨(Rg.zero).1.1, (Rg.zero).1.2, H3.out.isSl⟩)).len (Rw18.out.rows 2 rfl)) ?_
      simp only [Act.put, aS, aC, aZ]
      refine wl (by kernel_rfl) (.agg (rcells rz (.slice none 0 0)).toArray) _ (run_bld26 rfl) ?_
      simp only [Act.put, aS, aC, aZ]
      refine wpList_callW eN13 [.tmp 219, .tmp 220] _ (by kernel_rfl) rfl [(.agg (rcells rz v3).toArray), (.agg (rcells rz (.slice none 0 0)).toArray)] rfl ?_
      refine (same_yes rz v3 (.slice none 0 0) w18 (H3.out.fitR rz_root (by decide)) (Rok.nil.fits (PlIn.nil _))).mono ?_
      rintro e w19 ⟨rfl, b_⟩
      refine ⟨_, rfl, ?_⟩
      have HCx : Hid (CpAt w w19 vR R.cp) := HC.out.later b_
      clear HC
      have HC := HCx
      clear HCx
      have H2x : Hid (POwn w19 w.heap.size vw R.cp) := H2.out.later b_
      clear H2
      have H2 := H2x
      clear H2x
      have H3x : Hid (POwn w19 w.heap.size v3 rz.cp) := H3.out.later b_
      clear H3
      have H3 := H3x
      clear H3x
      have Rw19 : Hid (Loc w w19 [(q1, 26, rcells R vR), (q2, 26, rcells R vw), (q3, 26, rcells rz v3)]) := Rw18.out.later b_
      clear Rw18 b_
      simp only [Act.put, aS, aC, aZ]
      refine wl (by kernel_rfl) (.bool false) _ (run_not (.tmp 221) 4 rfl true rfl) ?_
      simp only [Act.put, aS, aC, aZ]
      refine wl rfl (.bool false) _ (run_pickZ (.tmp 218) (.const (.bool true)) (.tmp 222) rfl false (.bool false) rfl rfl) ?_
      simp only [Act.put, aS, aC, aZ]
      refine wl rfl (.bool false) _ (run_mvZ (.tmp 223) rfl (.bool false) rfl) ?_
      simp only [Act.put, aS, aC, aZ]
      refine wl (by kernel_rfl) (.pointer (some ⟨q2, 0 + 37, none⟩)) _ (run_fieldOp' f26_6 (.tmp 7) rfl q2 (0) rfl) ?_
      simp only [Act.put, aS, aC, aZ]
      refine wl (by kernel_rfl) (.bool true) _ (run_load1 o4 (.tmp 225) rfl q2 (0 + 37) rfl (.bool true) (Rw19.out.fld 1 rfl ((show Rok R vw from ⟨HG.out.1.1, HG.out.1.2, H2.out.isSl⟩)).root 3 _ (by rw [← HGo.out]; rfl))) ?_
      simp only [Act.put, aS, aC, aZ]
      refine wl (by kernel_rfl) (.bool true) _ (run_mvZ (.tmp 226) rfl (.bool true) rfl) ?_
      simp only [Act.put, aS, aC, aZ]
      refine wl (by kernel_rfl) (.int .i64 1) _ (run_mvZ (.tmp 8) rfl (.int .i64 1) rfl) ?_
      simp only [Act.put, aS, aC, aZ]
      refine wl (by kernel_rfl) (.bool true) _ (run_neZ (.tmp 228) (.const (.int .i64 213)) rfl (1) (213) rfl rfl true rfl) ?_
      simp only [Act.put, aS, aC, aZ]
      refine wl (by kernel_rfl) (.bool true) _ (run_pickZ (.tmp 227) (.tmp 229) (.const (.bool false)) rfl true (.bool true) rfl rfl) ?_
      simp only [Act.put, aS, aC, aZ]
      refine wl (by kernel_rfl) (.bool true) _ (run_mvZ (.tmp 230) rfl (.bool true) rfl) ?_
      simp only [Act.put, aS, aC, aZ]
      refine wl (by kernel_rfl) (.int .i64 1) _ (run_mvZ (.tmp 8) rfl (.int .i64 1) rfl) ?_
      simp only [Act.put, aS, aC, aZ]
      refine wl (by kernel_rfl) (.bool false) _ (run_neZ (.tmp 232) (.const (.int .i64 1)) rfl (1) (1) rfl rfl false rfl) ?_
      simp only [Act.put, aS, aC, aZ]
      refine wl (by kernel_rfl) (.bool false) _ (run_pickZ (.tmp 231) (.tmp 233) (.const (.bool false)) rfl true (.bool false) rfl rfl) ?_
      simp only [Act.put, aS, aC, aZ]
      refine wl rfl (.bool false) _ (run_pickZ (.tmp 224) (.const (.bool true)) (.tmp 234) rfl false (.bool false) rfl rfl) ?_
      simp only [Act.put, aS, aC, aZ]
      refine wpList_nil ?_
      go_upto_region 6 with fail
      refine wp_region_lit ?_
      refine wl rfl (.int .i64 (i : Nat)) _ (run_mvZ (.tmp 6) rfl (.int .i64 (i : Nat)) rfl) ?_
      simp only [Act.put, aS, aC, aZ]
      refine wl rfl (.int .i64 ((i + 1 : Nat))) _ (run_addI (.tmp 18) rfl i m hlt HF.out.2.2.2.1 rfl) ?_
      simp only [Act.put, aS, aC, aZ]
      refine wl rfl (.int .i64 ((i + 1 : Nat))) _ (run_asZ (.tmp 19) rfl (.int .i64 ((i + 1 : Nat))) rfl) ?_
      simp only [Act.put, aS, aC, aZ]
      refine wpList_nil ?_
      go_wp2_with fail
      exact ⟨⟨i + 1, rfl, by omega, ⟨R, vR, Rw19.out.take 1, HC.out, HG.out⟩⟩, by simp [intOf]; omega⟩
     have HGo : Hid (R.gone = false) := eq_false_of_ne_true hg
     clear hg
     ·as_aux_lemma =>
      have HSp : Hid (lockS R z = (rz, 1)) := by rw [lockS, if_pos hn]; exact rfl
      go_upto_region 15 with fail
      refine wp_region_lit ?_
      refine wl rfl (.bool true) _ (run_eqZ (.tmp 28) (.const (.int .i64 0)) rfl kd 0 rfl rfl true HKD.out) ?_
      simp only [Act.put, aS, aC, aZ]
      refine wl rfl (.bool true) _ (run_asZ (.tmp 84) rfl (.bool true) rfl) ?_
      simp only [Act.put, aS, aC, aZ]
      refine wpList_nil ?_
      have HCl : Hid (∀ U, Fits U R vR → Calls Try.prog 11 #[.agg (rcells R vR).toArray, .int .i64 z] U fun e w' => ∃ v', e = .returned (.tuple #[.agg (rcells rz v').toArray, .int .i64 1]) ∧ Below U.heap.size U w' ∧ POwn w' U.heap.size v' rz.cp) := fun U h => by
       have h_ := lock_any R vR z U h (by have := HG.out.2; omega)
       rw [HSp.out] at h_
       exact h_
      go_upto_region 16 with fail
      refine wp_region_held (S := fun X => Loc w X [(q1, 26, rcells R vR), (q2, 26, rcells R vw)]) (by kernel_rfl) ?_
      show wpAnyH _ _ _ _ _ 12 (Array.replicate 12 false) _ _
      obtain ⟨X, hX⟩ : ∃ X : World, X = { w15 with drawn := w15.drawn + 1 } := ⟨_, rfl⟩
      rw [← hX]
      have RX : Hid (Loc w X [(q1, 26, rcells R vR), (q2, 26, rcells R vw), (q3, 26, rcells rz (.slice none 0 0))]) := by rw [hX]; exact Rw15.out.drew
      have HCx : Hid (CpAt w X vR R.cp) := by rw [hX]; exact HC.out.later (Below.drewN (Below.refl _ _) 1)
      have H2x : Hid (POwn X w.heap.size vw R.cp) := by rw [hX]; exact H2.out.later (Below.drewN (Below.refl _ _) 1)
      have RS : Hid (Loc w X [(q1, 26, rcells R vR), (q2, 26, rcells R vw)]) := RX.out.take 2
      clear HC
      have HC := HCx
      clear HCx
      clear H2
      have H2 := H2x
      clear H2x
      clear Rw15
      clear hX
      refine tH 0 86 rfl rfl (gRun rfl (.agg (rcells R vR).toArray) fun _ h => run_loadA ag26 (.tmp 2) rfl q1 (0) rfl (rcells R vR) ((HC.out.rok HG.out)).len (h.rows 0 rfl)) RS.out ?_
      simp only [Act.put, aS, aC, aZ]
      refine tH 1 87 rfl rfl (gRun rfl vl fun _ h => run_mvZ (.tmp 1) rfl vl rfl) RS.out ?_
      simp only [Act.put, aS, aC, aZ]
      refine tH 2 88 rfl rfl (gRun rfl (.int .i64 (i : Nat)) fun _ h => run_mvZ (.tmp 6) rfl (.int .i64 (i : Nat)) rfl) RS.out ?_
      simp only [Act.put, aS, aC, aZ]
      refine tH 3 89 rfl rfl (gRun rfl (.pointer (some ⟨b, o, none⟩)) fun _ h => run_idx (.tmp 87) (.tmp 88) rfl vl _ _ rfl rfl HOd.out.1) RS.out ?_
      simp only [Act.put, aS, aC, aZ]
      refine tH 4 90 rfl rfl (gRun rfl (.pointer (some ⟨b, o + 1, none⟩)) fun _ h => run_fieldOp' f44_1 (.tmp 89) rfl b (o) rfl) RS.out ?_
      simp only [Act.put, aS, aC, aZ]
      refine tH 5 91 rfl rfl (gRun rfl (.int .i64 z) fun _ h => run_load1 o3 (.tmp 90) rfl b (o + 1) rfl (.int .i64 z) (cell_later HOd.out.2.2 h.below)) RS.out ?_
      simp only [Act.put, aS, aC, aZ]
      refine oneH (i := 6) (by kernel_rfl) ?_
      refine opCallG (some 92) rfl rfl rfl 11 _ (run_call eN11 [.tmp 86, .tmp 91] _ rfl [(.agg (rcells R vR).toArray), (.int .i64 z)] rfl) ?_
      refine (HCl.out X (HC.out.fit HG.out RX.out.below)).mono ?_
      rintro e w16 ⟨v3, rfl, b_, o_⟩
      refine ⟨_, rfl, ?_⟩
      have RSx : Hid (Loc w w16 [(q1, 26, rcells R vR), (q2, 26, rcells R vw)]) := RS.out.later b_
      clear RS
      have RS := RSx
      clear RSx
      have HCx : Hid (CpAt w w16 vR R.cp) := HC.out.later b_
      clear HC
      have HC := HCx
      clear HCx
      have H2x : Hid (POwn w16 w.heap.size vw R.cp) := H2.out.later b_
      clear H2
      have H2 := H2x
      clear H2x
      have H3 : Hid (POwn w16 w.heap.size v3 rz.cp) := o_.weaken RX.out.below.size
      clear o_ HCl
      have Rw16 : Hid (Loc w w16 [(q1, 26, rcells R vR), (q2, 26, rcells R vw), (q3, 26, rcells rz (.slice none 0 0))]) := RX.out.later b_
      clear RX b_
      refine ⟨RS.out, ?_⟩
      simp only [Act.put, aS, aC, aZ]
      refine tH 7 85 rfl rfl (gRun rfl (.tuple #[(.agg (rcells rz v3).toArray), (.int .i64 1)]) fun _ h => run_mvZ (.tmp 92) rfl (.tuple #[(.agg (rcells rz v3).toArray), (.int .i64 1)]) rfl) RS.out ?_
      simp only [Act.put, aS, aC, aZ]
      refine tH 8 93 rfl rfl (gRun rfl (.agg (rcells rz v3).toArray) fun _ h => run_extZ (.tmp 85) 0 rfl #[(.agg (rcells rz v3).toArray), (.int .i64 1)] rfl (.agg (rcells rz v3).toArray) rfl) RS.out ?_
      simp only [Act.put, aS, aC, aZ]
      refine tH 9 94 rfl rfl (gRun rfl (.int .i64 1) fun _ h => run_extZ (.tmp 85) 1 rfl #[(.agg (rcells rz v3).toArray), (.int .i64 1)] rfl (.int .i64 1) rfl) RS.out ?_
      simp only [Act.put, aS, aC, aZ]
      obtain ⟨hst_, k_, hC_⟩ := Rw16.out.st26 2 rfl (Rok.nil).len (rcells rz v3) ((show Rok rz v3 from ⟨(Rg.zero).1.1, (Rg.zero).1.2, H3.out.isSl⟩)).len ((show Rok rz v3 from ⟨(Rg.zero).1.1, (Rg.zero).1.2, H3.out.isSl⟩)).one
      have hR_ := Rw16.out.at 2 rfl
      refine oneH (i := 10) (by kernel_rfl) ?_
      refine opSkipZ rfl rfl rfl _ (run_stV (.tmp 9) (.tmp 93) rfl q3 0 rfl _ rfl hst_) ?_
      obtain ⟨w17, hW_⟩ : ∃ U_ : World, U_ = w16.setRow q3 (rcells rz v3).toArray := ⟨_, rfl⟩
      rw [← hW_] at k_ hC_ ⊢
      clear hst_
      have HCx : Hid (CpAt w w17 vR R.cp) := HC.out.off hR_ (by decide) hC_
      clear HC
      have HC := HCx
      clear HCx
      have H2x : Hid (POwn w17 w.heap.size vw R.cp) := H2.out.off hR_ (by decide) hC_
      clear H2
      have H2 := H2x
      clear H2x
      have H3x : Hid (POwn w17 w.heap.size v3 rz.cp) := H3.out.off hR_ (by decide) hC_
      clear H3
      have H3 := H3x
      clear H3x
      have Rw17 : Hid (Loc w w17 [(q1, 26, rcells R vR), (q2, 26, rcells R vw), (q3, 26, rcells rz v3)]) := k_
      clear k_ hW_ Rw16
      clear hC_ hR_
      clear RS
      have RS : Hid (Loc w w17 [(q1, 26, rcells R vR), (q2, 26, rcells R vw)]) := Rw17.out.take 2
      refine ⟨RS.out, ?_⟩
      refine tH 11 8 rfl rfl (gRun rfl (.int .i64 1) fun _ h => run_asZ (.tmp 94) rfl (.int .i64 1) rfl) RS.out ?_
      simp only [Act.put, aS, aC, aZ]
      refine wpAnyH_done (by kernel_rfl) ?_ _
      clear RS
      go_upto_region 17 with fail
      refine wp_region_held (S := fun X => Loc w X [(q1, 26, rcells R vR), (q2, 26, rcells R vw), (q3, 26, rcells rz v3)]) (by kernel_rfl) ?_
      show wpAnyH _ _ _ _ _ 47 (Array.replicate 47 false) _ _
      obtain ⟨Y, hX⟩ : ∃ Y : World, Y = { w17 with drawn := w17.drawn + 1 } := ⟨_, rfl⟩
      rw [← hX]
      have RX : Hid (Loc w Y [(q1, 26, rcells R vR), (q2, 26, rcells R vw), (q3, 26, rcells rz v3)]) := by rw [hX]; exact Rw17.out.drew
      have HCx : Hid (CpAt w Y vR R.cp) := by rw [hX]; exact HC.out.later (Below.drewN (Below.refl _ _) 1)
      have H2x : Hid (POwn Y w.heap.size vw R.cp) := by rw [hX]; exact H2.out.later (Below.drewN (Below.refl _ _) 1)
      have H3x : Hid (POwn Y w.heap.size v3 rz.cp) := by rw [hX]; exact H3.out.later (Below.drewN (Below.refl _ _) 1)
      have RS : Hid (Loc w Y [(q1, 26, rcells R vR), (q2, 26, rcells R vw), (q3, 26, rcells rz v3)]) := RX.out
      clear HC
      have HC := HCx
      clear HCx
      clear H2
      have H2 := H2x
      clear H2x
      clear H3
      have H3 := H3x
      clear H3x
      clear Rw17
      clear hX
      refine tH 0 95 rfl rfl (gRun rfl (.int .i64 1) fun _ h => run_mvZ (.tmp 8) rfl (.int .i64 1) rfl) RS.out ?_
      simp only [Act.put, aS, aC, aZ]
      refine tH 1 96 rfl rfl (gRun rfl (.bool false) fun _ h => run_eqZ (.tmp 95) (.const (.int .i64 0)) rfl (1) (0) rfl rfl false rfl) RS.out ?_
      simp only [Act.put, aS, aC, aZ]
      refine tH 2 97 rfl rfl (gRun rfl (.bool false) fun _ h => run_mvZ (.tmp 96) rfl (.bool false) rfl) RS.out ?_
      simp only [Act.put, aS, aC, aZ]
      refine tH 3 98 rfl rfl (Or.inr ⟨by kernel_rfl, rfl⟩) RS.out ?_
      simp only [Act.put, aS, aC, aZ]
      refine tH 4 99 rfl rfl (Or.inr ⟨by kernel_rfl, rfl⟩) RS.out ?_
      simp only [Act.put, aS, aC, aZ]
      refine tH 5 100 rfl rfl (Or.inr ⟨by kernel_rfl, rfl⟩) RS.out ?_
      simp only [Act.put, aS, aC, aZ]
      refine tH 6 101 rfl rfl (Or.inr ⟨by kernel_rfl, rfl⟩) RS.out ?_
      simp only [Act.put, aS, aC, aZ]
      refine tH 7 102 rfl rfl (Or.inr ⟨by kernel_rfl, rfl⟩) RS.out ?_
      simp only [Act.put, aS, aC, aZ]
      refine tH 8 103 rfl rfl (Or.inr ⟨by kernel_rfl, rfl⟩) RS.out ?_
      simp only [Act.put, aS, aC, aZ]
      refine tH 9 104 rfl rfl (Or.inr ⟨by kernel_rfl, rfl⟩) RS.out ?_
      simp only [Act.put, aS, aC, aZ]
      refine tH 10 105 rfl rfl (Or.inr ⟨by kernel_rfl, rfl⟩) RS.out ?_
      simp only [Act.put, aS, aC, aZ]
      refine tH 11 106 rfl rfl (Or.inr ⟨by kernel_rfl, rfl⟩) RS.out ?_
      simp only [Act.put, aS, aC, aZ]
      refine tH 12 107 rfl rfl (Or.inr ⟨by kernel_rfl, rfl⟩) RS.out ?_
      simp only [Act.put, aS, aC, aZ]
      refine tH 13 108 rfl rfl (Or.inr ⟨by kernel_rfl, rfl⟩) RS.out ?_
      simp only [Act.put, aS, aC, aZ]
      refine tH 14 109 rfl rfl (Or.inr ⟨by kernel_rfl, rfl⟩) RS.out ?_
      simp only [Act.put, aS, aC, aZ]
      refine tH 15 110 rfl rfl (Or.inr ⟨by kernel_rfl, rfl⟩) RS.out ?_
      simp only [Act.put, aS, aC, aZ]
      refine tH 16 111 rfl rfl (Or.inr ⟨by kernel_rfl, rfl⟩) RS.out ?_
      simp only [Act.put, aS, aC, aZ]
      refine tH 17 112 rfl rfl (Or.inr ⟨by kernel_rfl, rfl⟩) RS.out ?_
      simp only [Act.put, aS, aC, aZ]
      refine tH 18 113 rfl rfl (Or.inr ⟨by kernel_rfl, rfl⟩) RS.out ?_
      simp only [Act.put, aS, aC, aZ]
      refine tH 19 114 rfl rfl (Or.inr ⟨by kernel_rfl, rfl⟩) RS.out ?_
      simp only [Act.put, aS, aC, aZ]
      refine tH 20 115 rfl rfl (Or.inr ⟨by kernel_rfl, rfl⟩) RS.out ?_
      simp only [Act.put, aS, aC, aZ]
      refine tH 21 116 rfl rfl (Or.inr ⟨by kernel_rfl, rfl⟩) RS.out ?_
      simp only [Act.put, aS, aC, aZ]
      refine tH 22 117 rfl rfl (Or.inr ⟨by kernel_rfl, rfl⟩) RS.out ?_
      simp only [Act.put, aS, aC, aZ]
      refine tH 23 118 rfl rfl (Or.inr ⟨by kernel_rfl, rfl⟩) RS.out ?_
      simp only [Act.put, aS, aC, aZ]
      refine tH 24 119 rfl rfl (Or.inr ⟨by kernel_rfl, rfl⟩) RS.out ?_
      simp only [Act.put, aS, aC, aZ]
      refine tH 25 120 rfl rfl (Or.inr ⟨by kernel_rfl, rfl⟩) RS.out ?_
      simp only [Act.put, aS, aC, aZ]
      refine tH 26 121 rfl rfl (Or.inr ⟨by kernel_rfl, rfl⟩) RS.out ?_
      simp only [Act.put, aS, aC, aZ]
      refine tH 27 122 rfl rfl (Or.inr ⟨by kernel_rfl, rfl⟩) RS.out ?_
      simp only [Act.put, aS, aC, aZ]
      refine tH 28 123 rfl rfl (Or.inr ⟨by kernel_rfl, rfl⟩) RS.out ?_
      simp only [Act.put, aS, aC, aZ]
      refine tH 29 124 rfl rfl (Or.inr ⟨by kernel_rfl, rfl⟩) RS.out ?_
      simp only [Act.put, aS, aC, aZ]
      refine tH 30 125 rfl rfl (Or.inr ⟨by kernel_rfl, rfl⟩) RS.out ?_
      simp only [Act.put, aS, aC, aZ]
      refine tH 31 126 rfl rfl (Or.inr ⟨by kernel_rfl, rfl⟩) RS.out ?_
      simp only [Act.put, aS, aC, aZ]
      refine tH 32 127 rfl rfl (Or.inr ⟨by kernel_rfl, rfl⟩) RS.out ?_
      simp only [Act.put, aS, aC, aZ]
      refine tH 33 128 rfl rfl (Or.inr ⟨by kernel_rfl, rfl⟩) RS.out ?_
      simp only [Act.put, aS, aC, aZ]
      refine tH 34 129 rfl rfl (Or.inr ⟨by kernel_rfl, rfl⟩) RS.out ?_
      simp only [Act.put, aS, aC, aZ]
      refine tH 35 130 rfl rfl (Or.inr ⟨by kernel_rfl, rfl⟩) RS.out ?_
      simp only [Act.put, aS, aC, aZ]
      refine tH 36 131 rfl rfl (Or.inr ⟨by kernel_rfl, rfl⟩) RS.out ?_
      simp only [Act.put, aS, aC, aZ]
      refine tH 37 132 rfl rfl (Or.inr ⟨by kernel_rfl, rfl⟩) RS.out ?_
      simp only [Act.put, aS, aC, aZ]
      refine tH 38 133 rfl rfl (Or.inr ⟨by kernel_rfl, rfl⟩) RS.out ?_
      simp only [Act.put, aS, aC, aZ]
      refine tH 39 134 rfl rfl (Or.inr ⟨by kernel_rfl, rfl⟩) RS.out ?_
      simp only [Act.put, aS, aC, aZ]
      refine tH 40 135 rfl rfl (Or.inr ⟨by kernel_rfl, rfl⟩) RS.out ?_
      simp only [Act.put, aS, aC, aZ]
      refine tH 41 136 rfl rfl (Or.inr ⟨by kernel_rfl, rfl⟩) RS.out ?_
      simp only [Act.put, aS, aC, aZ]
      refine tH 42 137 rfl rfl (Or.inr ⟨by kernel_rfl, rfl⟩) RS.out ?_
      simp only [Act.put, aS, aC, aZ]
      refine tH 43 138 rfl rfl (Or.inr ⟨by kernel_rfl, rfl⟩) RS.out ?_
      simp only [Act.put, aS, aC, aZ]
      refine tH 44 139 rfl rfl (Or.inr ⟨by kernel_rfl, rfl⟩) RS.out ?_
      simp only [Act.put, aS, aC, aZ]
      refine tH 45 140 rfl rfl (Or.inr ⟨by kernel_rfl, rfl⟩) RS.out ?_
      simp only [Act.put, aS, aC, aZ]
      refine tH 46 141 rfl rfl (gRun rfl (.bool false) fun _ h => run_pickZ (.tmp 97) (.tmp 140) (.const (.bool false)) rfl false (.bool false) rfl rfl) RS.out ?_
      simp only [Act.put, aS, aC, aZ]
      refine wpAnyH_done (by kernel_rfl) ?_ _
      clear RS
      go_upto_region 23 with fail
      refine wp_region_lit ?_
      refine wl rfl (.int .i64 1) _ (run_mvZ (.tmp 8) rfl (.int .i64 1) rfl) ?_
      simp only [Act.put, aS, aC, aZ]
      refine wl rfl (.bool false) _ (run_eqZ (.tmp 181) (.const (.int .i64 0)) rfl (1) (0) rfl rfl false rfl) ?_
      simp only [Act.put, aS, aC, aZ]
      refine wpList_nil ?_
      go_upto_region 27 with fail
      refine wp_region_lit ?_
      refine wl rfl (.agg (rcells R vR).toArray) _ (run_loadA ag26 (.tmp 2) rfl q1 (0) rfl (rcells R vR) ((HC.out.rok HG.out)).len (RX.out.rows 0 rfl)) ?_
      simp only [Act.put, aS, aC, aZ]
      refine wl rfl (.agg (rcells R vw).toArray) _ (run_loadA ag26 (.tmp 7) rfl q2 (0) rfl (rcells R vw) ((show Rok R vw from ⟨HG.out.1.1, HG.out.1.2, H2.out.isSl⟩)).len (RX.out.rows 1 rfl)) ?_
      simp only [Act.put, aS, aC, aZ]
      refine wpList_callW eN13 [.tmp 214, .tmp 215] _ rfl rfl [(.agg (rcells R vR).toArray), (.agg (rcells R vw).toArray)] rfl ?_
      refine (same_yes R vR vw Y (HC.out.fit HG.out RX.out.below) (H2.out.fitR HG.out.1 HG.out.max)).mono ?_
      rintro e w18 ⟨rfl, b_⟩
      refine ⟨_, rfl, ?_⟩
      have HCx : Hid (CpAt w w18 vR R.cp) := HC.out.later b_
      clear HC
      have HC := HCx
      clear HCx
      have H2x : Hid (POwn w18 w.heap.size vw R.cp) := H2.out.later b_
      clear H2
      have H2 := H2x
      clear H2x
      have H3x : Hid (POwn w18 w.heap.size v3 rz.cp) := H3.out.later b_
      clear H3
      have H3 := H3x
      clear H3x
      have Rw18 : Hid (Loc w w18 [(q1, 26, rcells R vR), (q2, 26, rcells R vw), (q3, 26, rcells rz v3)]) := RX.out.later b_
      clear RX b_
      simp only [Act.put, aS, aC, aZ]
      refine wl rfl (.bool false) _ (run_not (.tmp 216) 4 rfl true rfl) ?_
      simp only [Act.put, aS, aC, aZ]
      refine wl rfl (.bool false) _ (run_mvZ (.tmp 217) rfl (.bool false) rfl) ?_
      simp only [Act.put, aS, aC, aZ]
      refine wl (by kernel_rfl) (.agg (rcells rz v3).toArray) _ (run_loadA ag26 (.tmp 9) rfl q3 (0) rfl (rcells rz v3) ((show Rok rz v3 from ⟨(Rg.zero).1.1, (Rg.zero).1.2, H3.out.isSl⟩)).len (Rw18.out.rows 2 rfl)) ?_
      simp only [Act.put, aS, aC, aZ]
      refine wl (by kernel_rfl) (.agg (rcells rz (.slice none 0 0)).toArray) _ (run_bld26 rfl) ?_
      simp only [Act.put, aS, aC, aZ]
      refine wpList_callW eN13 [.tmp 219, .tmp 220] _ (by kernel_rfl) rfl [(.agg (rcells rz v3).toArray), (.agg (rcells rz (.slice none 0 0)).toArray)] rfl ?_
      refine (same_yes rz v3 (.slice none 0 0) w18 (H3.out.fitR rz_root (by decide)) (Rok.nil.fits (PlIn.nil _))).mono ?_
      rintro e w19 ⟨rfl, b_⟩
      refine ⟨_, rfl, ?_⟩
      have HCx : Hid (CpAt w w19 vR R.cp) := HC.out.later b_
      clear HC
      have HC := HCx
      clear HCx
      have H2x : Hid (POwn w19 w.heap.size vw R.cp) := H2.out.later b_
      clear H2
      have H2 := H2x
      clear H2x
      have H3x : Hid (POwn w19 w.heap.size v3 rz.cp) := H3.out.later b_
      clear H3
      have H3 := H3x
      clear H3x
      have Rw19 : Hid (Loc w w19 [(q1, 26, rcells R vR), (q2, 26, rcells R vw), (q3, 26, rcells rz v3)]) := Rw18.out.later b_
      clear Rw18 b_
      simp only [Act.put, aS, aC, aZ]
      refine wl (by kernel_rfl) (.bool false) _ (run_not (.tmp 221) 4 rfl true rfl) ?_
      simp only [Act.put, aS, aC, aZ]
      refine wl rfl (.bool false) _ (run_pickZ (.tmp 218) (.const (.bool true)) (.tmp 222) rfl false (.bool false) rfl rfl) ?_
      simp only [Act.put, aS, aC, aZ]
      refine wl rfl (.bool false) _ (run_mvZ (.tmp 223) rfl (.bool false) rfl) ?_
      simp only [Act.put, aS, aC, aZ]
      refine wl (by kernel_rfl) (.pointer (some ⟨q2, 0 + 37, none⟩)) _ (run_fieldOp' f26_6 (.tmp 7) rfl q2 (0) rfl) ?_
      simp only [Act.put, aS, aC, aZ]
      refine wl (by kernel_rfl) (.bool false) _ (run_load1 o4 (.tmp 225) rfl q2 (0 + 37) rfl (.bool false) (Rw19.out.fld 1 rfl ((show Rok R vw from ⟨HG.out.1.1, HG.out.1.2, H2.out.isSl⟩)).root 3 _ (by rw [← HGo.out]; rfl))) ?_
      simp only [Act.put, aS, aC, aZ]
      refine wl (by kernel_rfl) (.bool false) _ (run_mvZ (.tmp 226) rfl (.bool false) rfl) ?_
      simp only [Act.put, aS, aC, aZ]
      with_reducible refine wpList_skip (by kernel_rfl) ?_
      simp only [Act.put, aS, aC, aZ]
      with_reducible refine wpList_skip (by kernel_rfl) ?_
      simp only [Act.put, aS, aC, aZ]
      refine wl (by kernel_rfl) (.bool false) _ (run_pickZ (.tmp 227) (.tmp 229) (.const (.bool false)) rfl false (.bool false) rfl rfl) ?_
      simp only [Act.put, aS, aC, aZ]
      refine wl (by kernel_rfl) (.bool false) _ (run_mvZ (.tmp 230) rfl (.bool false) rfl) ?_
      simp only [Act.put, aS, aC, aZ]
      with_reducible refine wpList_skip (by kernel_rfl) ?_
      simp only [Act.put, aS, aC, aZ]
      with_reducible refine wpList_skip (by kernel_rfl) ?_
      simp only [Act.put, aS, aC, aZ]
      refine wl (by kernel_rfl) (.bool false) _ (run_pickZ (.tmp 231) (.tmp 233) (.const (.bool false)) rfl false (.bool false) rfl rfl) ?_
      simp only [Act.put, aS, aC, aZ]
      refine wl rfl (.bool false) _ (run_pickZ (.tmp 224) (.const (.bool true)) (.tmp 234) rfl false (.bool false) rfl rfl) ?_
      simp only [Act.put, aS, aC, aZ]
      refine wpList_nil ?_
      go_upto_region 6 with fail
      refine wp_region_lit ?_
      refine wl rfl (.int .i64 (i : Nat)) _ (run_mvZ (.tmp 6) rfl (.int .i64 (i : Nat)) rfl) ?_
      simp only [Act.put, aS, aC, aZ]
      refine wl rfl (.int .i64 ((i + 1 : Nat))) _ (run_addI (.tmp 18) rfl i m hlt HF.out.2.2.2.1 rfl) ?_
      simp only [Act.put, aS, aC, aZ]
      refine wl rfl (.int .i64 ((i + 1 : Nat))) _ (run_asZ (.tmp 19) rfl (.int .i64 ((i + 1 : Nat))) rfl) ?_
      simp only [Act.put, aS, aC, aZ]
      refine wpList_nil ?_
      go_wp2_with fail
      exact ⟨⟨i + 1, rfl, by omega, ⟨R, vR, Rw19.out.take 1, HC.out, HG.out⟩⟩, by simp [intOf]; omega⟩
    by_cases hg : R.gone = true
    ·as_aux_lemma =>
     have HGo : Hid (R.gone = true) := hg
     clear hg
     have HSp : Hid (lockS R z = (rz, 213)) := by rw [lockS, if_neg (by omega), if_pos HGo.out]; exact rfl
     go_upto_region 15 with fail
     refine wp_region_lit ?_
     refine wl rfl (.bool true) _ (run_eqZ (.tmp 28) (.const (.int .i64 0)) rfl kd 0 rfl rfl true HKD.out) ?_
     simp only [Act.put, aS, aC, aZ]
     refine wl rfl (.bool true) _ (run_asZ (.tmp 84) rfl (.bool true) rfl) ?_
     simp only [Act.put, aS, aC, aZ]
     refine wpList_nil ?_
     have HCl : Hid (∀ U, Fits U R vR → Calls Try.prog 11 #[.agg (rcells R vR).toArray, .int .i64 z] U fun e w' => ∃ v', e = .returned (.tuple #[.agg (rcells rz v').toArray, .int .i64 213]) ∧ Below U.heap.size U w' ∧ POwn w' U.heap.size v' rz.cp) := fun U h => by
      have h_ := lock_any R vR z U h (by have := HG.out.2; omega)
      rw [HSp.out] at h_
      exact h_
     go_upto_region 16 with fail
     refine wp_region_held (S := fun X => Loc w X [(q1, 26, rcells R vR), (q2, 26, rcells R vw)]) (by kernel_rfl) ?_
     show wpAnyH _ _ _ _ _ 12 (Array.replicate 12 false) _ _
     obtain ⟨X, hX⟩ : ∃ X : World, X = { w15 with drawn := w15.drawn + 1 } := ⟨_, rfl⟩
     rw [← hX]
     have RX : Hid (Loc w X [(q1, 26, rcells R vR), (q2, 26, rcells R vw), (q3, 26, rcells rz (.slice none 0 0))]) := by rw [hX]; exact Rw15.out.drew
     have HCx : Hid (CpAt w X vR R.cp) := by rw [hX]; exact HC.out.later (Below.drewN (Below.refl _ _) 1)
     have H2x : Hid (POwn X w.heap.size vw R.cp) := by rw [hX]; exact H2.out.later (Below.drewN (Below.refl _ _) 1)
     have RS : Hid (Loc w X [(q1, 26, rcells R vR), (q2, 26, rcells R vw)]) := RX.out.take 2
     clear HC
     have HC := HCx
     clear HCx
     clear H2
     have H2 := H2x
     clear H2x
     clear Rw15
     clear hX
     refine tH 0 86 rfl rfl (gRun rfl (.agg (rcells R vR).toArray) fun _ h => run_loadA ag26 (.tmp 2) rfl q1 (0) rfl (rcells R vR) ((HC.out.rok HG.out)).len (h.rows 0 rfl)) RS.out ?_
     simp only [Act.put, aS, aC, aZ]
     refine tH 1 87 rfl rfl (gRun rfl vl fun _ h => run_mvZ (.tmp 1) rfl vl rfl) RS.out ?_
     simp only [Act.put, aS, aC, aZ]
     refine tH 2 88 rfl rfl (gRun rfl (.int .i64 (i : Nat)) fun _ h => run_mvZ (.tmp 6) rfl (.int .i64 (i : Nat)) rfl) RS.out ?_
     simp only [Act.put, aS, aC, aZ]
     refine tH 3 89 rfl rfl (gRun rfl (.pointer (some ⟨b, o, none⟩)) fun _ h => run_idx (.tmp 87) (.tmp 88) rfl vl _ _ rfl rfl HOd.out.1) RS.out ?_
     simp only [Act.put, aS, aC, aZ]
     refine tH 4 90 rfl rfl (gRun rfl (.pointer (some ⟨b, o + 1, none⟩)) fun _ h => run_fieldOp' f44_1 (.tmp 89) rfl b (o) rfl) RS.out ?_
     simp only [Act.put, aS, aC, aZ]
     refine tH 5 91 rfl rfl (gRun rfl (.int .i64 z) fun _ h => run_load1 o3 (.tmp 90) rfl b (o + 1) rfl (.int .i64 z) (cell_later HOd.out.2.2 h.below)) RS.out ?_
     simp only [Act.put, aS, aC, aZ]
     refine oneH (i := 6) (by kernel_rfl) ?_
     refine opCallG (some 92) rfl rfl rfl 11 _ (run_call eN11 [.tmp 86, .tmp 91] _ rfl [(.agg (rcells R vR).toArray), (.int .i64 z)] rfl) ?_
     refine (HCl.out X (HC.out.fit HG.out RX.out.below)).mono ?_
     rintro e w16 ⟨v3, rfl, b_, o_⟩
     refine ⟨_, rfl, ?_⟩
     have RSx : Hid (Loc w w16 [(q1, 26, rcells R vR), (q2, 26, rcells R vw)]) := RS.out.later b_
     clear RS
     have RS := RSx
     clear RSx
     have HCx : Hid (CpAt w w16 vR R.cp) := HC.out.later b_
     clear HC
     have HC := HCx
     clear HCx
     have H2x : Hid (POwn w16 w.heap.size vw R.cp) := H2.out.later b_
     clear H2
     have H2 := H2x
     clear H2x
     have H3 : Hid (POwn w16 w.heap.size v3 rz.cp) := o_.weaken RX.out.below.size
     clear o_ HCl
     have Rw16 : Hid (Loc w w16 [(q1, 26, rcells R vR), (q2, 26, rcells R vw), (q3, 26, rcells rz (.slice none 0 0))]) := RX.out.later b_
     clear RX b_
     refine ⟨RS.out, ?_⟩
     simp only [Act.put, aS, aC, aZ]
     refine tH 7 85 rfl rfl (gRun rfl (.tuple #[(.agg (rcells rz v3).toArray), (.int .i64 213)]) fun _ h => run_mvZ (.tmp 92) rfl (.tuple #[(.agg (rcells rz v3).toArray), (.int .i64 213)]) rfl) RS.out ?_
     simp only [Act.put, aS, aC, aZ]
     refine tH 8 93 rfl rfl (gRun rfl (.agg (rcells rz v3).toArray) fun _ h => run_extZ (.tmp 85) 0 rfl #[(.agg (rcells rz v3).toArray), (.int .i64 213)] rfl (.agg (rcells rz v3).toArray) rfl) RS.out ?_
     simp only [Act.put, aS, aC, aZ]
     refine tH 9 94 rfl rfl (gRun rfl (.int .i64 213) fun _ h => run_extZ (.tmp 85) 1 rfl #[(.agg (rcells rz v3).toArray), (.int .i64 213)] rfl (.int .i64 213) rfl) RS.out ?_
     simp only [Act.put, aS, aC, aZ]
     obtain ⟨hst_, k_, hC_⟩ := Rw16.out.st26 2 rfl (Rok.nil).len (rcells rz v3) ((show Rok rz v3 from ⟨(Rg.zero).1.1, (Rg.zero).1.2, H3.out.isSl⟩)).len ((show Rok rz v3 from ⟨(Rg.zero).1.1, (Rg.zero).1.2, H3.out.isSl⟩)).one
     have hR_ := Rw16.out.at 2 rfl
     refine oneH (i := 10) (by kernel_rfl) ?_
     refine opSkipZ rfl rfl rfl _ (run_stV (.tmp 9) (.tmp 93) rfl q3 0 rfl _ rfl hst_) ?_
     obtain ⟨w17, hW_⟩ : ∃ U_ : World, U_ = w16.setRow q3 (rcells rz v3).toArray := ⟨_, rfl⟩
     rw [← hW_] at k_ hC_ ⊢
     clear hst_
     have HCx : Hid (CpAt w w17 vR R.cp) := HC.out.off hR_ (by decide) hC_
     clear HC
     have HC := HCx
     clear HCx
     have H2x : Hid (POwn w17 w.heap.size vw R.cp) := H2.out.off hR_ (by decide) hC_
     clear H2
     have H2 := H2x
     clear H2x
     have H3x : Hid (POwn w17 w.heap.size v3 rz.cp) := H3.out.off hR_ (by decide) hC_
     clear H3
     have H3 := H3x
     clear H3x
     have Rw17 : Hid (Loc w w17 [(q1, 26, rcells R vR), (q2, 26, rcells R vw), (q3, 26, rcells rz v3)]) := k_
     clear k_ hW_ Rw16
     clear hC_ hR_
     clear RS
     have RS : Hid (Loc w w17 [(q1, 26, rcells R vR), (q2, 26, rcells R vw)]) := Rw17.out.take 2
     refine ⟨RS.out, ?_⟩
     refine tH 11 8 rfl rfl (gRun rfl (.int .i64 213) fun _ h => run_asZ (.tmp 94) rfl (.int .i64 213) rfl) RS.out ?_
     simp only [Act.put, aS, aC, aZ]
     refine wpAnyH_done (by kernel_rfl) ?_ _
     clear RS
     go_upto_region 17 with fail
     refine wp_region_held (S := fun X => Loc w X [(q1, 26, rcells R vR), (q2, 26, rcells R vw), (q3, 26, rcells rz v3)]) (by kernel_rfl) ?_
     show wpAnyH _ _ _ _ _ 47 (Array.replicate 47 false) _ _
     obtain ⟨Y, hX⟩ : ∃ Y : World, Y = { w17 with drawn := w17.drawn + 1 } := ⟨_, rfl⟩
     rw [← hX]
     have RX : Hid (Loc w Y [(q1, 26, rcells R vR), (q2, 26, rcells R vw), (q3, 26, rcells rz v3)]) := by rw [hX]; exact Rw17.out.drew
     have HCx : Hid (CpAt w Y vR R.cp) := by rw [hX]; exact HC.out.later (Below.drewN (Below.refl _ _) 1)
     have H2x : Hid (POwn Y w.heap.size vw R.cp) := by rw [hX]; exact H2.out.later (Below.drewN (Below.refl _ _) 1)
     have H3x : Hid (POwn Y w.heap.size v3 rz.cp) := by rw [hX]; exact H3.out.later (Below.drewN (Below.refl _ _) 1)
     have RS : Hid (Loc w Y [(q1, 26, rcells R vR), (q2, 26, rcells R vw), (q3, 26, rcells rz v3)]) := RX.out
     clear HC
     have HC := HCx
     clear HCx
     clear H2
     have H2 := H2x
     clear H2x
     clear H3
     have H3 := H3x
     clear H3x
     clear Rw17
     clear hX
     refine tH 0 95 rfl rfl (gRun rfl (.int .i64 213) fun _ h => run_mvZ (.tmp 8) rfl (.int .i64 213) rfl) RS.out ?_
     simp only [Act.put, aS, aC, aZ]
     refine tH 1 96 rfl rfl (gRun rfl (.bool false) fun _ h => run_eqZ (.tmp 95) (.const (.int .i64 0)) rfl (213) (0) rfl rfl false rfl) RS.out ?_
     simp only [Act.put, aS, aC, aZ]
     refine tH 2 97 rfl rfl (gRun rfl (.bool false) fun _ h => run_mvZ (.tmp 96) rfl (.bool false) rfl) RS.out ?_
     simp only [Act.put, aS, aC, aZ]
     refine tH 3 98 rfl rfl (Or.inr ⟨by kernel_rfl, rfl⟩) RS.out ?_
     simp only [Act.put, aS, aC, aZ]
     refine tH 4 99 rfl rfl (Or.inr ⟨by kernel_rfl, rfl⟩) RS.out ?_
     simp only [Act.put, aS, aC, aZ]
     refine tH 5 100 rfl rfl (Or.inr ⟨by kernel_rfl, rfl⟩) RS.out ?_
     simp only [Act.put, aS, aC, aZ]
     refine tH 6 101 rfl rfl (Or.inr ⟨by kernel_rfl, rfl⟩) RS.out ?_
     simp only [Act.put, aS, aC, aZ]
     refine tH 7 102 rfl rfl (Or.inr ⟨by kernel_rfl, rfl⟩) RS.out ?_
     simp only [Act.put, aS, aC, aZ]
     refine tH 8 103 rfl rfl (Or.inr ⟨by kernel_rfl, rfl⟩) RS.out ?_
     simp only [Act.put, aS, aC, aZ]
     refine tH 9 104 rfl rfl (Or.inr ⟨by kernel_rfl, rfl⟩) RS.out ?_
     simp only [Act.put, aS, aC, aZ]
     refine tH 10 105 rfl rfl (Or.inr ⟨by kernel_rfl, rfl⟩) RS.out ?_
     simp only [Act.put, aS, aC, aZ]
     refine tH 11 106 rfl rfl (Or.inr ⟨by kernel_rfl, rfl⟩) RS.out ?_
     simp only [Act.put, aS, aC, aZ]
     refine tH 12 107 rfl rfl (Or.inr ⟨by kernel_rfl, rfl⟩) RS.out ?_
     simp only [Act.put, aS, aC, aZ]
     refine tH 13 108 rfl rfl (Or.inr ⟨by kernel_rfl, rfl⟩) RS.out ?_
     simp only [Act.put, aS, aC, aZ]
     refine tH 14 109 rfl rfl (Or.inr ⟨by kernel_rfl, rfl⟩) RS.out ?_
     simp only [Act.put, aS, aC, aZ]
     refine tH 15 110 rfl rfl (Or.inr ⟨by kernel_rfl, rfl⟩) RS.out ?_
     simp only [Act.put, aS, aC, aZ]
     refine tH 16 111 rfl rfl (Or.inr ⟨by kernel_rfl, rfl⟩) RS.out ?_
     simp only [Act.put, aS, aC, aZ]
     refine tH 17 112 rfl rfl (Or.inr ⟨by kernel_rfl, rfl⟩) RS.out ?_
     simp only [Act.put, aS, aC, aZ]
     refine tH 18 113 rfl rfl (Or.inr ⟨by kernel_rfl, rfl⟩) RS.out ?_
     simp only [Act.put, aS, aC, aZ]
     refine tH 19 114 rfl rfl (Or.inr ⟨by kernel_rfl, rfl⟩) RS.out ?_
     simp only [Act.put, aS, aC, aZ]
     refine tH 20 115 rfl rfl (Or.inr ⟨by kernel_rfl, rfl⟩) RS.out ?_
     simp only [Act.put, aS, aC, aZ]
     refine tH 21 116 rfl rfl (Or.inr ⟨by kernel_rfl, rfl⟩) RS.out ?_
     simp only [Act.put, aS, aC, aZ]
     refine tH 22 117 rfl rfl (Or.inr ⟨by kernel_rfl, rfl⟩) RS.out ?_
     simp only [Act.put, aS, aC, aZ]
     refine tH 23 118 rfl rfl (Or.inr ⟨by kernel_rfl, rfl⟩) RS.out ?_
     simp only [Act.put, aS, aC, aZ]
     refine tH 24 119 rfl rfl (Or.inr ⟨by kernel_rfl, rfl⟩) RS.out ?_
     simp only [Act.put, aS, aC, aZ]
     refine tH 25 120 rfl rfl (Or.inr ⟨by kernel_rfl, rfl⟩) RS.out ?_
     simp only [Act.put, aS, aC, aZ]
     refine tH 26 121 rfl rfl (Or.inr ⟨by kernel_rfl, rfl⟩) RS.out ?_
     simp only [Act.put, aS, aC, aZ]
     refine tH 27 122 rfl rfl (Or.inr ⟨by kernel_rfl, rfl⟩) RS.out ?_
     simp only [Act.put, aS, aC, aZ]
     refine tH 28 123 rfl rfl (Or.inr ⟨by kernel_rfl, rfl⟩) RS.out ?_
     simp only [Act.put, aS, aC, aZ]
     refine tH 29 124 rfl rfl (Or.inr ⟨by kernel_rfl, rfl⟩) RS.out ?_
     simp only [Act.put, aS, aC, aZ]
     refine tH 30 125 rfl rfl (Or.inr ⟨by kernel_rfl, rfl⟩) RS.out ?_
     simp only [Act.put, aS, aC, aZ]
     refine tH 31 126 rfl rfl (Or.inr ⟨by kernel_rfl, rfl⟩) RS.out ?_
     simp only [Act.put, aS, aC, aZ]
     refine tH 32 127 rfl rfl (Or.inr ⟨by kernel_rfl, rfl⟩) RS.out ?_
     simp only [Act.put, aS, aC, aZ]
     refine tH 33 128 rfl rfl (Or.inr ⟨by kernel_rfl, rfl⟩) RS.out ?_
     simp only [Act.put, aS, aC, aZ]
     refine tH 34 129 rfl rfl (Or.inr ⟨by kernel_rfl, rfl⟩) RS.out ?_
     simp only [Act.put, aS, aC, aZ]
     refine tH 35 130 rfl rfl (Or.inr ⟨by kernel_rfl, rfl⟩) RS.out ?_
     simp only [Act.put, aS, aC, aZ]
     refine tH 36 131 rfl rfl (Or.inr ⟨by kernel_rfl, rfl⟩) RS.out ?_
     simp only [Act.put, aS, aC, aZ]
     refine tH 37 132 rfl rfl (Or.inr ⟨by kernel_rfl, rfl⟩) RS.out ?_
     simp only [Act.put, aS, aC, aZ]
     refine tH 38 133 rfl rfl (Or.inr ⟨by kernel_rfl, rfl⟩) RS.out ?_
     simp only [Act.put, aS, aC, aZ]
     refine tH 39 134 rfl rfl (Or.inr ⟨by kernel_rfl, rfl⟩) RS.out ?_
     simp only [Act.put, aS, aC, aZ]
     refine tH 40 135 rfl rfl (Or.inr ⟨by kernel_rfl, rfl⟩) RS.out ?_
     simp only [Act.put, aS, aC, aZ]
     refine tH 41 136 rfl rfl (Or.inr ⟨by kernel_rfl, rfl⟩) RS.out ?_
     simp only [Act.put, aS, aC, aZ]
     refine tH 42 137 rfl rfl (Or.inr ⟨by kernel_rfl, rfl⟩) RS.out ?_
     simp only [Act.put, aS, aC, aZ]
     refine tH 43 138 rfl rfl (Or.inr ⟨by kernel_rfl, rfl⟩) RS.out ?_
     simp only [Act.put, aS, aC, aZ]
     refine tH 44 139 rfl rfl (Or.inr ⟨by kernel_rfl, rfl⟩) RS.out ?_
     simp only [Act.put, aS, aC, aZ]
     refine tH 45 140 rfl rfl (Or.inr ⟨by kernel_rfl, rfl⟩) RS.out ?_
     simp only [Act.put, aS, aC, aZ]
     refine tH 46 141 rfl rfl (gRun rfl (.bool false) fun _ h => run_pickZ (.tmp 97) (.tmp 140) (.const (.bool false)) rfl false (.bool false) rfl rfl) RS.out ?_
     simp only [Act.put, aS, aC, aZ]
     refine wpAnyH_done (by kernel_rfl) ?_ _
     clear RS
     go_upto_region 23 with fail
     refine wp_region_lit ?_
     refine wl rfl (.int .i64 213) _ (run_mvZ (.tmp 8) rfl (.int .i64 213) rfl) ?_
     simp only [Act.put, aS, aC, aZ]
     refine wl rfl (.bool false) _ (run_eqZ (.tmp 181) (.const (.int .i64 0)) rfl (213) (0) rfl rfl false rfl) ?_
     simp only [Act.put, aS, aC, aZ]
     refine wpList_nil ?_
     go_upto_region 27 with fail
     refine wp_region_lit ?_
     refine wl rfl (.agg (rcells R vR).toArray) _ (run_loadA ag26 (.tmp 2) rfl q1 (0) rfl (rcells R vR) ((HC.out.rok HG.out)).len (RX.out.rows 0 rfl)) ?_
     simp only [Act.put, aS, aC, aZ]
     refine wl rfl (.agg (rcells R vw).toArray) _ (run_loadA ag26 (.tmp 7) rfl q2 (0) rfl (rcells R vw) ((show Rok R vw from ⟨HG.out.1.1, HG.out.1.2, H2.out.isSl⟩)).len (RX.out.rows 1 rfl)) ?_
     simp only [Act.put, aS, aC, aZ]
     refine wpList_callW eN13 [.tmp 214, .tmp 215] _ rfl rfl [(.agg (rcells R vR).toArray), (.agg (rcells R vw).toArray)] rfl ?_
     refine (same_yes R vR vw Y (HC.out.fit HG.out RX.out.below) (H2.out.fitR HG.out.1 HG.out.max)).mono ?_
     rintro e w18 ⟨rfl, b_⟩
     refine ⟨_, rfl, ?_⟩
     have HCx : Hid (CpAt w w18 vR R.cp) := HC.out.later b_
     clear HC
     have HC := HCx
     clear HCx
     have H2x : Hid (POwn w18 w.heap.size vw R.cp) := H2.out.later b_
     clear H2
     have H2 := H2x
     clear H2x
     have H3x : Hid (POwn w18 w.heap.size v3 rz.cp) := H3.out.later b_
     clear H3
     have H3 := H3x
     clear H3x
     have Rw18 : Hid (Loc w w18 [(q1, 26, rcells R vR), (q2, 26, rcells R vw), (q3, 26, rcells rz v3)]) := RX.out.later b_
     clear RX b_
     simp only [Act.put, aS, aC, aZ]
     refine wl rfl (.bool false) _ (run_not (.tmp 216) 4 rfl true rfl) ?_
     simp only [Act.put, aS, aC, aZ]
     refine wl rfl (.bool false) _ (run_mvZ (.tmp 217) rfl (.bool false) rfl) ?_
     simp only [Act.put, aS, aC, aZ]
     refine wl (by kernel_rfl) (.agg (rcells rz v3).toArray) _ (run_loadA ag26 (.tmp 9) rfl q3 (0) rfl (rcells rz v3) ((show Rok rz v3 from ⟨(Rg.zero).1.1, (Rg.zero).1.2, H3.out.isSl⟩)).len (Rw18.out.rows 2 rfl)) ?_
     simp only [Act.put, aS, aC, aZ]
     refine wl (by kernel_rfl) (.agg (rcells rz (.slice none 0 0)).toArray) _ (run_bld26 rfl) ?_
     simp only [Act.put, aS, aC, aZ]
     refine wpList_callW eN13 [.tmp 219, .tmp 220] _ (by kernel_rfl) rfl [(.agg (rcells rz v3).toArray), (.agg (rcells rz (.slice none 0 0)).toArray)] rfl ?_
     refine (same_yes rz v3 (.slice none 0 0) w18 (H3.out.fitR rz_root (by decide)) (Rok.nil.fits (PlIn.nil _))).mono ?_
     rintro e w19 ⟨rfl, b_⟩
     refine ⟨_, rfl, ?_⟩
     have HCx : Hid (CpAt w w19 vR R.cp) := HC.out.later b_
     clear HC
     have HC := HCx
     clear HCx
     have H2x : Hid (POwn w19 w.heap.size vw R.cp) := H2.out.later b_
     clear H2
     have H2 := H2x
     clear H2x
     have H3x : Hid (POwn w19 w.heap.size v3 rz.cp) := H3.out.later b_
     clear H3
     have H3 := H3x
     clear H3x
     have Rw19 : Hid (Loc w w19 [(q1, 26, rcells R vR), (q2, 26, rcells R vw), (q3, 26, rcells rz v3)]) := Rw18.out.later b_
     clear Rw18 b_
     simp only [Act.put, aS, aC, aZ]
     refine wl (by kernel_rfl) (.bool false) _ (run_not (.tmp 221) 4 rfl true rfl) ?_
     simp only [Act.put, aS, aC, aZ]
     refine wl rfl (.bool false) _ (run_pickZ (.tmp 218) (.const (.bool true)) (.tmp 222) rfl false (.bool false) rfl rfl) ?_
     simp only [Act.put, aS, aC, aZ]
     refine wl rfl (.bool false) _ (run_mvZ (.tmp 223) rfl (.bool false) rfl) ?_
     simp only [Act.put, aS, aC, aZ]
     refine wl (by kernel_rfl) (.pointer (some ⟨q2, 0 + 37, none⟩)) _ (run_fieldOp' f26_6 (.tmp 7) rfl q2 (0) rfl) ?_
     simp only [Act.put, aS, aC, aZ]
     refine wl (by kernel_rfl) (.bool true) _ (run_load1 o4 (.tmp 225) rfl q2 (0 + 37) rfl (.bool true) (Rw19.out.fld 1 rfl ((show Rok R vw from ⟨HG.out.1.1, HG.out.1.2, H2.out.isSl⟩)).root 3 _ (by rw [← HGo.out]; rfl))) ?_
     simp only [Act.put, aS, aC, aZ]
     refine wl (by kernel_rfl) (.bool true) _ (run_mvZ (.tmp 226) rfl (.bool true) rfl) ?_
     simp only [Act.put, aS, aC, aZ]
     refine wl (by kernel_rfl) (.int .i64 213) _ (run_mvZ (.tmp 8) rfl (.int .i64 213) rfl) ?_
     simp only [Act.put, aS, aC, aZ]
     refine wl (by kernel_rfl) (.bool false) _ (run_neZ (.tmp 228) (.const (.int .i64 213)) rfl (213) (213) rfl rfl false rfl) ?_
     simp only [Act.put, aS, aC, aZ]
     refine wl (by kernel_rfl) (.bool false) _ (run_pickZ (.tmp 227) (.tmp 229) (.const (.bool false)) rfl true (.bool false) rfl rfl) ?_
     simp only [Act.put, aS, aC, aZ]
     refine wl (by kernel_rfl) (.bool false) _ (run_mvZ (.tmp 230) rfl (.bool false) rfl) ?_
     simp only [Act.put, aS, aC, aZ]
     with_reducible refine wpList_skip (by kernel_rfl) ?_
     simp only [Act.put, aS, aC, aZ]
     with_reducible refine wpList_skip (by kernel_rfl) ?_
     simp only [Act.put, aS, aC, aZ]
     refine wl (by kernel_rfl) (.bool false) _ (run_pickZ (.tmp 231) (.tmp 233) (.const (.bool false)) rfl false (.bool false) rfl rfl) ?_
     simp only [Act.put, aS, aC, aZ]
     refine wl rfl (.bool false) _ (run_pickZ (.tmp 224) (.const (.bool true)) (.tmp 234) rfl false (.bool false) rfl rfl) ?_
     simp only [Act.put, aS, aC, aZ]
     refine wpList_nil ?_
     go_upto_region 6 with fail
     refine wp_region_lit ?_
     refine wl rfl (.int .i64 (i : Nat)) _ (run_mvZ (.tmp 6) rfl (.int .i64 (i : Nat)) rfl) ?_
     simp only [Act.put, aS, aC, aZ]
     refine wl rfl (.int .i64 ((i + 1 : Nat))) _ (run_addI (.tmp 18) rfl i m hlt HF.out.2.2.2.1 rfl) ?_
     simp only [Act.put, aS, aC, aZ]
     refine wl rfl (.int .i64 ((i + 1 : Nat))) _ (run_asZ (.tmp 19) rfl (.int .i64 ((i + 1 : Nat))) rfl) ?_
     simp only [Act.put, aS, aC, aZ]
     refine wpList_nil ?_
     go_wp2_with fail
     exact ⟨⟨i + 1, rfl, by omega, ⟨R, vR, Rw19.out.take 1, HC.out, HG.out⟩⟩, by simp [intOf]; omega⟩
    have HGo : Hid (R.gone = false) := eq_false_of_ne_true hg
    have HSp : Hid (lockS R z = ((aLock R z), 0)) := by rw [lockS, if_neg (by omega), if_neg hg, aLock]; exact rfl
    clear hg
    by_cases he : R.expiry < z
    ·as_aux_lemma =>
     have HUp : Hid ((!decide (max R.expiry z = R.expiry)) = true ∧ (!decide (max R.expiry z = z)) = false) := ⟨by rw [decide_eq_false (by omega)]; rfl, by rw [decide_eq_true (by omega)]; rfl⟩
     go_upto_region 15 with fail
     refine wp_region_lit ?_
     refine wl rfl (.bool true) _ (run_eqZ (.tmp 28) (.const (.int .i64 0)) rfl kd 0 rfl rfl true HKD.out) ?_
     simp only [Act.put, aS, aC, aZ]
     refine wl rfl (.bool true) _ (run_asZ (.tmp 84) rfl (.bool true) rfl) ?_
     simp only [Act.put, aS, aC, aZ]
     refine wpList_nil ?_
     have HCl : Hid (∀ U, Fits U R vR → Calls Try.prog 11 #[.agg (rcells R vR).toArray, .int .i64 z] U fun e w' => ∃ v', e = .returned (.tuple #[.agg (rcells (aLock R z) v').toArray, .int .i64 0]) ∧ Below U.heap.size U w' ∧ POwn w' U.heap.size v' (aLock R z).cp) := fun U h => by
      have h_ := lock_any R vR z U h (by have := HG.out.2; omega)
      rw [HSp.out] at h_
      exact h_
     go_upto_region 16 with fail
     refine wp_region_held (S := fun X => Loc w X [(q1, 26, rcells R vR), (q2, 26, rcells R vw)]) (by kernel_rfl) ?_
     show wpAnyH _ _ _ _ _ 12 (Array.replicate 12 false) _ _
     obtain ⟨X, hX⟩ : ∃ X : World, X = { w15 with drawn := w15.drawn + 1 } := ⟨_, rfl⟩
     rw [← hX]
     have RX : Hid (Loc w X [(q1, 26, rcells R vR), (q2, 26, rcells R vw), (q3, 26, rcells rz (.slice none 0 0))]) := by rw [hX]; exact Rw15.out.drew
     have HCx : Hid (CpAt w X vR R.cp) := by rw [hX]; exact HC.out.later (Below.drewN (Below.refl _ _) 1)
     have H2x : Hid (POwn X w.heap.size vw R.cp) := by rw [hX]; exact H2.out.later (Below.drewN (Below.refl _ _) 1)
     have RS : Hid (Loc w X [(q1, 26, rcells R vR), (q2, 26, rcells R vw)]) := RX.out.take 2
     clear HC
     have HC := HCx
     clear HCx
     clear H2
     have H2 := H2x
     clear H2x
     clear Rw15
     clear hX
     refine tH 0 86 rfl rfl (gRun rfl (.agg (rcells R vR).toArray) fun _ h => run_loadA ag26 (.tmp 2) rfl q1 (0) rfl (rcells R vR) ((HC.out.rok HG.out)).len (h.rows 0 rfl)) RS.out ?_
     simp only [Act.put, aS, aC, aZ]
     refine tH 1 87 rfl rfl (gRun rfl vl fun _ h => run_mvZ (.tmp 1) rfl vl rfl) RS.out ?_
     simp only [Act.put, aS, aC, aZ]
     refine tH 2 88 rfl rfl (gRun rfl (.int .i64 (i : Nat)) fun _ h => run_mvZ (.tmp 6) rfl (.int .i64 (i : Nat)) rfl) RS.out ?_
     simp only [Act.put, aS, aC, aZ]
     refine tH 3 89 rfl rfl (gRun rfl (.pointer (some ⟨b, o, none⟩)) fun _ h => run_idx (.tmp 87) (.tmp 88) rfl vl _ _ rfl rfl HOd.out.1) RS.out ?_
     simp only [Act.put, aS, aC, aZ]
     refine tH 4 90 rfl rfl (gRun rfl (.pointer (some ⟨b, o + 1, none⟩)) fun _ h => run_fieldOp' f44_1 (.tmp 89) rfl b (o) rfl) RS.out ?_
     simp only [Act.put, aS, aC, aZ]
     refine tH 5 91 rfl rfl (gRun rfl (.int .i64 z) fun _ h => run_load1 o3 (.tmp 90) rfl b (o + 1) rfl (.int .i64 z) (cell_later HOd.out.2.2 h.below)) RS.out ?_
     simp only [Act.put, aS, aC, aZ]
     refine oneH (i := 6) (by kernel_rfl) ?_
     refine opCallG (some 92) rfl rfl rfl 11 _ (run_call eN11 [.tmp 86, .tmp 91] _ rfl [(.agg (rcells R vR).toArray), (.int .i64 z)] rfl) ?_
     refine (HCl.out X (HC.out.fit HG.out RX.out.below)).mono ?_
     rintro e w16 ⟨v3, rfl, b_, o_⟩
     refine ⟨_, rfl, ?_⟩
     have RSx : Hid (Loc w w16 [(q1, 26, rcells R vR), (q2, 26, rcells R vw)]) := RS.out.later b_
     clear RS
     have RS := RSx
     clear RSx
     have HCx : Hid (CpAt w w16 vR R.cp) := HC.out.later b_
     clear HC
     have HC := HCx
     clear HCx
     have H2x : Hid (POwn w16 w.heap.size vw R.cp) := H2.out.later b_
     clear H2
     have H2 := H2x
     clear H2x
     have H3 : Hid (POwn w16 w.heap.size v3 (aLock R z).cp) := o_.weaken RX.out.below.size
     clear o_ HCl
     have Rw16 : Hid (Loc w w16 [(q1, 26, rcells R vR), (q2, 26, rcells R vw), (q3, 26, rcells rz (.slice none 0 0))]) := RX.out.later b_
     clear RX b_
     refine ⟨RS.out, ?_⟩
     simp only [Act.put, aS, aC, aZ]
     refine tH 7 85 rfl rfl (gRun rfl (.tuple #[(.agg (rcells (aLock R z) v3).toArray), (.int .i64 0)]) fun _ h => run_mvZ (.tmp 92) rfl (.tuple #[(.agg (rcells (aLock R z) v3).toArray), (.int .i64 0)]) rfl) RS.out ?_
     simp only [Act.put, aS, aC, aZ]
     refine tH 8 93 rfl rfl (gRun rfl (.agg (rcells (aLock R z) v3).toArray) fun _ h => run_extZ (.tmp 85) 0 rfl #[(.agg (rcells (aLock R z) v3).toArray), (.int .i64 0)] rfl (.agg (rcells (aLock R z) v3).toArray) rfl) RS.out ?_
     simp only [Act.put, aS, aC, aZ]
     refine tH 9 94 rfl rfl (gRun rfl (.int .i64 0) fun _ h => run_extZ (.tmp 85) 1 rfl #[(.agg (rcells (aLock R z) v3).toArray), (.int .i64 0)] rfl (.int .i64 0) rfl) RS.out ?_
     simp only [Act.put, aS, aC, aZ]
     obtain ⟨hst_, k_, hC_⟩ := Rw16.out.st26 2 rfl (Rok.nil).len (rcells (aLock R z) v3) ((show Rok (aLock R z) v3 from ⟨((HG.out.lock z)).1.1, ((HG.out.lock z)).1.2, H3.out.isSl⟩)).len ((show Rok (aLock R z) v3 from ⟨((HG.out.lock z)).1.1, ((HG.out.lock z)).1.2, H3.out.isSl⟩)).one
     have hR_ := Rw16.out.at 2 rfl
     refine oneH (i := 10) (by kernel_rfl) ?_
     refine opSkipZ rfl rfl rfl _ (run_stV (.tmp 9) (.tmp 93) rfl q3 0 rfl _ rfl hst_) ?_
     obtain ⟨w17, hW_⟩ : ∃ U_ : World, U_ = w16.setRow q3 (rcells (aLock R z) v3).toArray := ⟨_, rfl⟩
     rw [← hW_] at k_ hC_ ⊢
     clear hst_
     have HCx : Hid (CpAt w w17 vR R.cp) := HC.out.off hR_ (by decide) hC_
     clear HC
     have HC := HCx
     clear HCx
     have H2x : Hid (POwn w17 w.heap.size vw R.cp) := H2.out.off hR_ (by decide) hC_
     clear H2
     have H2 := H2x
     clear H2x
     have H3x : Hid (POwn w17 w.heap.size v3 (aLock R z).cp) := H3.out.off hR_ (by decide) hC_
     clear H3
     have H3 := H3x
     clear H3x
     have Rw17 : Hid (Loc w w17 [(q1, 26, rcells R vR), (q2, 26, rcells R vw), (q3, 26, rcells (aLock R z) v3)]) := k_
     clear k_ hW_ Rw16
     clear hC_ hR_
     clear RS
     have RS : Hid (Loc w w17 [(q1, 26, rcells R vR), (q2, 26, rcells R vw)]) := Rw17.out.take 2
     refine ⟨RS.out, ?_⟩
     refine tH 11 8 rfl rfl (gRun rfl (.int .i64 0) fun _ h => run_asZ (.tmp 94) rfl (.int .i64 0) rfl) RS.out ?_
     simp only [Act.put, aS, aC, aZ]
     refine wpAnyH_done (by kernel_rfl) ?_ _
     clear RS
     go_upto_region 17 with fail
     refine wp_region_held (S := fun X => Loc w X [(q1, 26, rcells R vR), (q2, 26, rcells R vw), (q3, 26, rcells (aLock R z) v3)]) (by kernel_rfl) ?_
     show wpAnyH _ _ _ _ _ 47 (Array.replicate 47 false) _ _
     obtain ⟨Y, hX⟩ : ∃ Y : World, Y = { w17 with drawn := w17.drawn + 1 } := ⟨_, rfl⟩
     rw [← hX]
     have RX : Hid (Loc w Y [(q1, 26, rcells R vR), (q2, 26, rcells R vw), (q3, 26, rcells (aLock R z) v3)]) := by rw [hX]; exact Rw17.out.drew
     have HCx : Hid (CpAt w Y vR R.cp) := by rw [hX]; exact HC.out.later (Below.drewN (Below.refl _ _) 1)
     have H2x : Hid (POwn Y w.heap.size vw R.cp) := by rw [hX]; exact H2.out.later (Below.drewN (Below.refl _ _) 1)
     have H3x : Hid (POwn Y w.heap.size v3 (aLock R z).cp) := by rw [hX]; exact H3.out.later (Below.drewN (Below.refl _ _) 1)
     have RS : Hid (Loc w Y [(q1, 26, rcells R vR), (q2, 26, rcells R vw), (q3, 26, rcells (aLock R z) v3)]) := RX.out
     clear HC
     have HC := HCx
     clear HCx
     clear H2
     have H2 := H2x
     clear H2x
     clear H3
     have H3 := H3x
     clear H3x
     clear Rw17
     clear hX
     refine tH 0 95 rfl rfl (gRun rfl (.int .i64 0) fun _ h => run_mvZ (.tmp 8) rfl (.int .i64 0) rfl) RS.out ?_
     simp only [Act.put, aS, aC, aZ]
     refine tH 1 96 rfl rfl (gRun rfl (.bool true) fun _ h => run_eqZ (.tmp 95) (.const (.int .i64 0)) rfl (0) (0) rfl rfl true rfl) RS.out ?_
     simp only [Act.put, aS, aC, aZ]
     refine tH 2 97 rfl rfl (gRun rfl (.bool true) fun _ h => run_mvZ (.tmp 96) rfl (.bool true) rfl) RS.out ?_
     simp only [Act.put, aS, aC, aZ]
     refine tH 3 98 rfl rfl (gRun (by kernel_rfl) (.pointer (some ⟨q3, 0 + 35, none⟩)) fun _ h => run_fieldOp' f26_4 (.tmp 9) rfl q3 (0) rfl) RS.out ?_
     simp only [Act.put, aS, aC, aZ]
     refine tH 4 99 rfl rfl (gRun (by kernel_rfl) (.int .i64 (max R.expiry z)) fun _ h => run_load1 o3 (.tmp 98) rfl q3 (0 + 35) rfl (.int .i64 (max R.expiry z)) (h.fld 2 rfl ((show Rok (aLock R z) v3 from ⟨((HG.out.lock z)).1.1, ((HG.out.lock z)).1.2, H3.out.isSl⟩)).root 1 _ rfl)) RS.out ?_
     simp only [Act.put, aS, aC, aZ]
     refine tH 5 100 rfl rfl (gRun (by kernel_rfl) (.pointer (some ⟨q2, 0 + 35, none⟩)) fun _ h => run_fieldOp' f26_4 (.tmp 7) rfl q2 (0) rfl) RS.out ?_
     simp only [Act.put, aS, aC, aZ]
     refine tH 6 101 rfl rfl (gRun (by kernel_rfl) (.int .i64 R.expiry) fun _ h => run_load1 o3 (.tmp 100) rfl q2 (0 + 35) rfl (.int .i64 R.expiry) (h.fld 1 rfl ((show Rok R vw from ⟨HG.out.1.1, HG.out.1.2, H2.out.isSl⟩)).root 1 _ rfl)) RS.out ?_
     simp only [Act.put, aS, aC, aZ]
     refine tH 7 102 rfl rfl (gRun (by kernel_rfl) (.bool false) fun _ h => run_lssZ (.tmp 99) (.tmp 101) rfl (max R.expiry z) R.expiry rfl rfl false (decide_eq_false (by omega))) RS.out ?_
     simp only [Act.put, aS, aC, aZ]
     refine tH 8 103 rfl rfl (gRun (by kernel_rfl) (.bool false) fun _ h => run_mvZ (.tmp 102) rfl (.bool false) rfl) RS.out ?_
     simp only [Act.put, aS, aC, aZ]
     refine tH 9 104 rfl rfl (gRun (by kernel_rfl) (.pointer (some ⟨q3, 0 + 35, none⟩)) fun _ h => run_fieldOp' f26_4 (.tmp 9) rfl q3 (0) rfl) RS.out ?_
     simp only [Act.put, aS, aC, aZ]
     refine tH 10 105 rfl rfl (gRun (by kernel_rfl) (.int .i64 (max R.expiry z)) fun _ h => run_load1 o3 (.tmp 104) rfl q3 (0 + 35) rfl (.int .i64 (max R.expiry z)) (h.fld 2 rfl ((show Rok (aLock R z) v3 from ⟨((HG.out.lock z)).1.1, ((HG.out.lock z)).1.2, H3.out.isSl⟩)).root 1 _ rfl)) RS.out ?_
     simp only [Act.put, aS, aC, aZ]
     refine tH 11 106 rfl rfl (gRun (by kernel_rfl) vl fun _ h => run_mvZ (.tmp 1) rfl vl rfl) RS.out ?_
     simp only [Act.put, aS, aC, aZ]
     refine tH 12 107 rfl rfl (gRun (by kernel_rfl) (.int .i64 (i : Nat)) fun _ h => run_mvZ (.tmp 6) rfl (.int .i64 (i : Nat)) rfl) RS.out ?_
     simp only [Act.put, aS, aC, aZ]
     refine tH 13 108 rfl rfl (gRun (by kernel_rfl) (.pointer (some ⟨b, o, none⟩)) fun _ h => run_idx (.tmp 106) (.tmp 107) rfl vl _ _ rfl rfl HOd.out.1) RS.out ?_
     simp only [Act.put, aS, aC, aZ]
     refine tH 14 109 rfl rfl (gRun (by kernel_rfl) (.pointer (some ⟨b, o + 1, none⟩)) fun _ h => run_fieldOp' f44_1 (.tmp 108) rfl b (o) rfl) RS.out ?_
     simp only [Act.put, aS, aC, aZ]
     refine tH 15 110 rfl rfl (gRun (by kernel_rfl) (.int .i64 z) fun _ h => run_load1 o3 (.tmp 109) rfl b (o + 1) rfl (.int .i64 z) (cell_later HOd.out.2.2 h.below)) RS.out ?_
     simp only [Act.put, aS, aC, aZ]
     refine tH 16 111 rfl rfl (gRun (by kernel_rfl) (.bool false) fun _ h => run_lssZ (.tmp 105) (.tmp 110) rfl (max R.expiry z) z rfl rfl false (decide_eq_false (by omega))) RS.out ?_
     simp only [Act.put, aS, aC, aZ]
     refine tH 17 112 rfl rfl (gRun (by kernel_rfl) (.bool false) fun _ h => run_pickZ (.tmp 103) (.const (.bool true)) (.tmp 111) rfl false (.bool false) rfl rfl) RS.out ?_
     simp only [Act.put, aS, aC, aZ]
     refine tH 18 113 rfl rfl (gRun (by kernel_rfl) (.bool false) fun _ h => run_mvZ (.tmp 112) rfl (.bool false) rfl) RS.out ?_
     simp only [Act.put, aS, aC, aZ]
     refine tH 19 114 rfl rfl (gRun (by kernel_rfl) (.pointer (some ⟨q3, 0 + 35, none⟩)) fun _ h => run_fieldOp' f26_4 (.tmp 9) rfl q3 (0) rfl) RS.out ?_
     simp only [Act.put, aS, aC, aZ]
     refine tH 20 115 rfl rfl (gRun (by kernel_rfl) (.int .i64 (max R.expiry z)) fun _ h => run_load1 o3 (.tmp 114) rfl q3 (0 + 35) rfl (.int .i64 (max R.expiry z)) (h.fld 2 rfl ((show Rok (aLock R z) v3 from ⟨((HG.out.lock z)).1.1, ((HG.out.lock z)).1.2, H3.out.isSl⟩)).root 1 _ rfl)) RS.out ?_
     simp only [Act.put, aS, aC, aZ]
     refine tH 21 116 rfl rfl (gRun (by kernel_rfl) (.pointer (some ⟨q2, 0 + 35, none⟩)) fun _ h => run_fieldOp' f26_4 (.tmp 7) rfl q2 (0) rfl) RS.out ?_
     simp only [Act.put, aS, aC, aZ]
     refine tH 22 117 rfl rfl (gRun (by kernel_rfl) (.int .i64 R.expiry) fun _ h => run_load1 o3 (.tmp 116) rfl q2 (0 + 35) rfl (.int .i64 R.expiry) (h.fld 1 rfl ((show Rok R vw from ⟨HG.out.1.1, HG.out.1.2, H2.out.isSl⟩)).root 1 _ rfl)) RS.out ?_
     simp only [Act.put, aS, aC, aZ]
     refine tH 23 118 rfl rfl (gRun (by kernel_rfl) (.bool true) fun _ h => run_neZ (.tmp 115) (.tmp 117) rfl (max R.expiry z) R.expiry rfl rfl true HUp.out.1) RS.out ?_
     simp only [Act.put, aS, aC, aZ]
     refine tH 24 119 rfl rfl (gRun (by kernel_rfl) (.bool true) fun _ h => run_mvZ (.tmp 118) rfl (.bool true) rfl) RS.out ?_
     simp only [Act.put, aS, aC, aZ]
     refine tH 25 120 rfl rfl (gRun (by kernel_rfl) (.pointer (some ⟨q3, 0 + 35, none⟩)) fun _ h => run_fieldOp' f26_4 (.tmp 9) rfl q3 (0) rfl) RS.out ?_
     simp only [Act.put, aS, aC, aZ]
     refine tH 26 121 rfl rfl (gRun (by kernel_rfl) (.int .i64 (max R.expiry z)) fun _ h => run_load1 o3 (.tmp 120) rfl q3 (0 + 35) rfl (.int .i64 (max R.expiry z)) (h.fld 2 rfl ((show Rok (aLock R z) v3 from ⟨((HG.out.lock z)).1.1, ((HG.out.lock z)).1.2, H3.out.isSl⟩)).root 1 _ rfl)) RS.out ?_
     simp only [Act.put, aS, aC, aZ]
     refine tH 27 122 rfl rfl (gRun (by kernel_rfl) vl fun _ h => run_mvZ (.tmp 1) rfl vl rfl) RS.out ?_
     simp only [Act.put, aS, aC, aZ]
     refine tH 28 123 rfl rfl (gRun (by kernel_rfl) (.int .i64 (i : Nat)) fun _ h => run_mvZ (.tmp 6) rfl (.int .i64 (i : Nat)) rfl) RS.out ?_
     simp only [Act.put, aS, aC, aZ]
     refine tH 29 124 rfl rfl (gRun (by kernel_rfl) (.pointer (some ⟨b, o, none⟩)) fun _ h => run_idx (.tmp 122) (.tmp 123) rfl vl _ _ rfl rfl HOd.out.1) RS.out ?_
     simp only [Act.put, aS, aC, aZ]
     refine tH 30 125 rfl rfl (gRun (by kernel_rfl) (.pointer (some ⟨b, o + 1, none⟩)) fun _ h => run_fieldOp' f44_1 (.tmp 124) rfl b (o) rfl) RS.out ?_
     simp only [Act.put, aS, aC, aZ]
     refine tH 31 126 rfl rfl (gRun (by kernel_rfl) (.int .i64 z) fun _ h => run_load1 o3 (.tmp 125) rfl b (o + 1) rfl (.int .i64 z) (cell_later HOd.out.2.2 h.below)) RS.out ?_
     simp only [Act.put, aS, aC, aZ]
     refine tH 32 127 rfl rfl (gRun (by kernel_rfl) (.bool false) fun _ h => run_neZ (.tmp 121) (.tmp 126) rfl (max R.expiry z) z rfl rfl false HUp.out.2) RS.out ?_
     simp only [Act.put, aS, aC, aZ]
     refine tH 33 128 rfl rfl (gRun (by kernel_rfl) (.bool false) fun _ h => run_pickZ (.tmp 119) (.tmp 127) (.const (.bool false)) rfl true (.bool false) rfl rfl) RS.out ?_
     simp only [Act.put, aS, aC, aZ]
     refine tH 34 129 rfl rfl (gRun (by kernel_rfl) (.bool false) fun _ h => run_pickZ (.tmp 113) (.const (.bool true)) (.tmp 128) rfl false (.bool false) rfl rfl) RS.out ?_
     simp only [Act.put, aS, aC, aZ]
     refine tH 35 130 rfl rfl (gRun (by kernel_rfl) (.bool false) fun _ h => run_mvZ (.tmp 129) rfl (.bool false) rfl) RS.out ?_
     simp only [Act.put, aS, aC, aZ]
     refine tH 36 131 rfl rfl (gRun (by kernel_rfl) (.pointer (some ⟨q3, 0 + 36, none⟩)) fun _ h => run_fieldOp' f26_5 (.tmp 9) rfl q3 (0) rfl) RS.out ?_
     simp only [Act.put, aS, aC, aZ]
     refine tH 37 132 rfl rfl (gRun (by kernel_rfl) (.bool R.hold) fun _ h => run_load1 o4 (.tmp 131) rfl q3 (0 + 36) rfl (.bool R.hold) (h.fld 2 rfl ((show Rok (aLock R z) v3 from ⟨((HG.out.lock z)).1.1, ((HG.out.lock z)).1.2, H3.out.isSl⟩)).root 2 _ rfl)) RS.out ?_
     simp only [Act.put, aS, aC, aZ]
     refine tH 38 133 rfl rfl (gRun (by kernel_rfl) (.pointer (some ⟨q2, 0 + 36, none⟩)) fun _ h => run_fieldOp' f26_5 (.tmp 7) rfl q2 (0) rfl) RS.out ?_
     simp only [Act.put, aS, aC, aZ]
     refine tH 39 134 rfl rfl (gRun (by kernel_rfl) (.bool R.hold) fun _ h => run_load1 o4 (.tmp 133) rfl q2 (0 + 36) rfl (.bool R.hold) (h.fld 1 rfl ((show Rok R vw from ⟨HG.out.1.1, HG.out.1.2, H2.out.isSl⟩)).root 2 _ rfl)) RS.out ?_
     simp only [Act.put, aS, aC, aZ]
     refine tH 40 135 rfl rfl (gRun (by kernel_rfl) (.bool false) fun _ h => run_neBB (.tmp 132) (.tmp 134) rfl R.hold rfl rfl) RS.out ?_
     simp only [Act.put, aS, aC, aZ]
     refine tH 41 136 rfl rfl (gRun (by kernel_rfl) (.bool false) fun _ h => run_pickZ (.tmp 130) (.const (.bool true)) (.tmp 135) rfl false (.bool false) rfl rfl) RS.out ?_
     simp only [Act.put, aS, aC, aZ]
     refine tH 42 137 rfl rfl (gRun (by kernel_rfl) (.bool false) fun _ h => run_mvZ (.tmp 136) rfl (.bool false) rfl) RS.out ?_
     simp only [Act.put, aS, aC, aZ]
     refine tH 43 138 rfl rfl (gRun (by kernel_rfl) (.pointer (some ⟨q3, 0 + 37, none⟩)) fun _ h => run_fieldOp' f26_6 (.tmp 9) rfl q3 (0) rfl) RS.out ?_
     simp only [Act.put, aS, aC, aZ]
     refine tH 44 139 rfl rfl (gRun (by kernel_rfl) (.bool false) fun _ h => run_load1 o4 (.tmp 138) rfl q3 (0 + 37) rfl (.bool false) (h.fld 2 rfl ((show Rok (aLock R z) v3 from ⟨((HG.out.lock z)).1.1, ((HG.out.lock z)).1.2, H3.out.isSl⟩)).root 3 _ (by rw [← HGo.out]; rfl))) RS.out ?_
     simp only [Act.put, aS, aC, aZ]
     refine tH 45 140 rfl rfl (gRun (by kernel_rfl) (.bool false) fun _ h => run_pickZ (.tmp 137) (.const (.bool true)) (.tmp 139) rfl false (.bool false) rfl rfl) RS.out ?_
     simp only [Act.put, aS, aC, aZ]
     refine tH 46 141 rfl rfl (gRun rfl (.bool false) fun _ h => run_pickZ (.tmp 97) (.tmp 140) (.const (.bool false)) rfl true (.bool false) rfl rfl) RS.out ?_
     simp only [Act.put, aS, aC, aZ]
     refine wpAnyH_done (by kernel_rfl) ?_ _
     clear RS
     go_upto_region 23 with fail
     refine wp_region_lit ?_
     refine wl rfl (.int .i64 0) _ (run_mvZ (.tmp 8) rfl (.int .i64 0) rfl) ?_
     simp only [Act.put, aS, aC, aZ]
     refine wl rfl (.bool true) _ (run_eqZ (.tmp 181) (.const (.int .i64 0)) rfl (0) (0) rfl rfl true rfl) ?_
     simp only [Act.put, aS, aC, aZ]
     refine wpList_nil ?_
     go_upto_region 24 with fail
     refine wp_region_lit ?_
     refine wl rfl (.pointer (some ⟨q3, 0 + 0, none⟩)) _ (run_fieldOp' f26_0 (.tmp 9) rfl q3 (0) rfl) ?_
     simp only [Act.put, aS, aC, aZ]
     refine wl rfl (.string R.id) _ (run_load1 o9 (.tmp 183) rfl q3 (0 + 0) rfl (.string R.id) (RX.out.fid (r := (aLock R z)) 2 rfl)) ?_
     simp only [Act.put, aS, aC, aZ]
     refine wl rfl (.pointer (some ⟨q2, 0 + 0, none⟩)) _ (run_fieldOp' f26_0 (.tmp 7) rfl q2 (0) rfl) ?_
     simp only [Act.put, aS, aC, aZ]
     refine wl rfl (.string R.id) _ (run_load1 o9 (.tmp 185) rfl q2 (0 + 0) rfl (.string R.id) (RX.out.fid (r := R) 1 rfl)) ?_
     simp only [Act.put, aS, aC, aZ]
     refine wl rfl (.bool false) _ (run_neS (.tmp 184) (.tmp 186) rfl R.id rfl rfl) ?_
     simp only [Act.put, aS, aC, aZ]
     refine wl rfl (.bool false) _ (run_mvZ (.tmp 187) rfl (.bool false) rfl) ?_
     simp only [Act.put, aS, aC, aZ]
     refine wl (by kernel_rfl) (.pointer (some ⟨q3, 0 + 1, none⟩)) _ (run_fieldOp' f26_1 (.tmp 9) rfl q3 (0) rfl) ?_
     simp only [Act.put, aS, aC, aZ]
     refine wl (by kernel_rfl) (.int .i64 R.length) _ (run_load1 o3 (.tmp 189) rfl q3 (0 + 1) rfl (.int .i64 R.length) (RX.out.flen (r := (aLock R z)) 2 rfl)) ?_
     simp only [Act.put, aS, aC, aZ]
     refine wl (by kernel_rfl) (.pointer (some ⟨q2, 0 + 1, none⟩)) _ (run_fieldOp' f26_1 (.tmp 7) rfl q2 (0) rfl) ?_
     simp only [Act.put, aS, aC, aZ]
     refine wl (by kernel_rfl) (.int .i64 R.length) _ (run_load1 o3 (.tmp 191) rfl q2 (0 + 1) rfl (.int .i64 R.length) (RX.out.flen (r := R) 1 rfl)) ?_
     simp only [Act.put, aS, aC, aZ]
     refine wl (by kernel_rfl) (.bool false) _ (run_neII (.tmp 190) (.tmp 192) rfl R.length rfl rfl) ?_
     simp only [Act.put, aS, aC, aZ]
     refine wl rfl (.bool false) _ (run_pickZ (.tmp 188) (.const (.bool true)) (.tmp 193) rfl false (.bool false) rfl rfl) ?_
     simp only [Act.put, aS, aC, aZ]
     refine wl rfl (.bool false) _ (run_mvZ (.tmp 194) rfl (.bool false) rfl) ?_
     simp only [Act.put, aS, aC, aZ]
     refine wl (by kernel_rfl) (.pointer (some ⟨q3, 0 + 2, none⟩)) _ (run_fieldOp' f26_2 (.tmp 9) rfl q3 (0) rfl) ?_
     simp only [Act.put, aS, aC, aZ]
     refine wl (by kernel_rfl) (.agg (bcells (aLock R z).root).toArray) _ (run_loadA ag23 (.tmp 196) rfl q3 (0 + 2) rfl (bcells (aLock R z).root) (bc32 ((show Rok (aLock R z) v3 from ⟨((HG.out.lock z)).1.1, ((HG.out.lock z)).1.2, H3.out.isSl⟩)).root) (RX.out.froot 2 rfl ((show Rok (aLock R z) v3 from ⟨((HG.out.lock z)).1.1, ((HG.out.lock z)).1.2, H3.out.isSl⟩)).root)) ?_
     simp only [Act.put, aS, aC, aZ]
     refine wl (by kernel_rfl) (.pointer (some ⟨q2, 0 + 2, none⟩)) _ (run_fieldOp' f26_2 (.tmp 7) rfl q2 (0) rfl) ?_
     simp only [Act.put, aS, aC, aZ]
     refine wl (by kernel_rfl) (.agg (bcells R.root).toArray) _ (run_loadA ag23 (.tmp 198) rfl q2 (0 + 2) rfl (bcells R.root) (bc32 ((show Rok R vw from ⟨HG.out.1.1, HG.out.1.2, H2.out.isSl⟩)).root) (RX.out.froot 1 rfl ((show Rok R vw from ⟨HG.out.1.1, HG.out.1.2, H2.out.isSl⟩)).root)) ?_
     simp only [Act.put, aS, aC, aZ]
     refine wl (by kernel_rfl) (.bool false) _ (run_neHH (.tmp 197) (.tmp 199) rfl R.root ⟨HG.out.1.1, HG.out.1.2⟩ rfl rfl) ?_
     simp only [Act.put, aS, aC, aZ]
     refine wl rfl (.bool false) _ (run_pickZ (.tmp 195) (.const (.bool true)) (.tmp 200) rfl false (.bool false) rfl rfl) ?_
     simp only [Act.put, aS, aC, aZ]
     refine wl rfl (.bool false) _ (run_mvZ (.tmp 201) rfl (.bool false) rfl) ?_
     simp only [Act.put, aS, aC, aZ]
     refine wl (by kernel_rfl) (.pointer (some ⟨q3, 0 + 34, none⟩)) _ (run_fieldOp' f26_3 (.tmp 9) rfl q3 (0) rfl) ?_
     simp only [Act.put, aS, aC, aZ]
     refine wl (by kernel_rfl) (.int .i64 R.index) _ (run_load1 o3 (.tmp 203) rfl q3 (0 + 34) rfl (.int .i64 R.index) (RX.out.fld 2 rfl ((show Rok (aLock R z) v3 from ⟨((HG.out.lock z)).1.1, ((HG.out.lock z)).1.2, H3.out.isSl⟩)).root 0 _ rfl)) ?_
     simp only [Act.put, aS, aC, aZ]
     refine wl (by kernel_rfl) (.pointer (some ⟨q2, 0 + 34, none⟩)) _ (run_fieldOp' f26_3 (.tmp 7) rfl q2 (0) rfl) ?_
     simp only [Act.put, aS, aC, aZ]
     refine wl (by kernel_rfl) (.int .i64 R.index) _ (run_load1 o3 (.tmp 205) rfl q2 (0 + 34) rfl (.int .i64 R.index) (RX.out.fld 1 rfl ((show Rok R vw from ⟨HG.out.1.1, HG.out.1.2, H2.out.isSl⟩)).root 0 _ rfl)) ?_
     simp only [Act.put, aS, aC, aZ]
     refine wl (by kernel_rfl) (.bool false) _ (run_neII (.tmp 204) (.tmp 206) rfl R.index rfl rfl) ?_
     simp only [Act.put, aS, aC, aZ]
     refine wl rfl (.bool false) _ (run_pickZ (.tmp 202) (.const (.bool true)) (.tmp 207) rfl false (.bool false) rfl rfl) ?_
     simp only [Act.put, aS, aC, aZ]
     refine wl rfl (.bool false) _ (run_mvZ (.tmp 208) rfl (.bool false) rfl) ?_
     simp only [Act.put, aS, aC, aZ]
     refine wl (by kernel_rfl) (.pointer (some ⟨q2, 0 + 37, none⟩)) _ (run_fieldOp' f26_6 (.tmp 7) rfl q2 (0) rfl) ?_
     simp only [Act.put, aS, aC, aZ]
     refine wl (by kernel_rfl) (.bool false) _ (run_load1 o4 (.tmp 210) rfl q2 (0 + 37) rfl (.bool false) (RX.out.fld 1 rfl ((show Rok R vw from ⟨HG.out.1.1, HG.out.1.2, H2.out.isSl⟩)).root 3 _ (by rw [← HGo.out]; rfl))) ?_
     simp only [Act.put, aS, aC, aZ]
     refine wl rfl (.bool false) _ (run_pickZ (.tmp 209) (.const (.bool true)) (.tmp 211) rfl false (.bool false) rfl rfl) ?_
     simp only [Act.put, aS, aC, aZ]
     refine wpList_nil ?_
     go_upto_region 26 with fail
     refine wp_region_lit ?_
     refine wl rfl (.agg (rcells (aLock R z) v3).toArray) _ (run_loadA ag26 (.tmp 9) rfl q3 (0) rfl (rcells (aLock R z) v3) ((show Rok (aLock R z) v3 from ⟨((HG.out.lock z)).1.1, ((HG.out.lock z)).1.2, H3.out.isSl⟩)).len (RX.out.rows 2 rfl)) ?_
     simp only [Act.put, aS, aC, aZ]
     obtain ⟨hst_, k_, hC_⟩ := RX.out.st26 0 rfl ((HC.out.rok HG.out)).len (rcells (aLock R z) v3) ((show Rok (aLock R z) v3 from ⟨((HG.out.lock z)).1.1, ((HG.out.lock z)).1.2, H3.out.isSl⟩)).len ((show Rok (aLock R z) v3 from ⟨((HG.out.lock z)).1.1, ((HG.out.lock z)).1.2, H3.out.isSl⟩)).one
     have hR_ := RX.out.at 0 rfl
     refine wlS rfl rfl _ (run_stV (.tmp 2) (.tmp 213) rfl q1 0 rfl _ rfl hst_) ?_
     obtain ⟨w18, hW_⟩ : ∃ U_ : World, U_ = Y.setRow q1 (rcells (aLock R z) v3).toArray := ⟨_, rfl⟩
     rw [← hW_] at k_ hC_ ⊢
     clear hst_
     have HCx : Hid (CpAt w w18 vR R.cp) := HC.out.off hR_ (by decide) hC_
     clear HC
     have HC := HCx
     clear HCx
     have H2x : Hid (POwn w18 w.heap.size vw R.cp) := H2.out.off hR_ (by decide) hC_
     clear H2
     have H2 := H2x
     clear H2x
     have H3x : Hid (POwn w18 w.heap.size v3 (aLock R z).cp) := H3.out.off hR_ (by decide) hC_
     clear H3
     have H3 := H3x
     clear H3x
     have Rw18 : Hid (Loc w w18 [(q1, 26, rcells (aLock R z) v3), (q2, 26, rcells R vw), (q3, 26, rcells (aLock R z) v3)]) := k_
     clear k_ hW_ RX
     clear hC_ hR_
     refine wpList_nil ?_
     go_upto_region 6 with fail
     refine wp_region_lit ?_
     refine wl rfl (.int .i64 (i : Nat)) _ (run_mvZ (.tmp 6) rfl (.int .i64 (i : Nat)) rfl) ?_
     simp only [Act.put, aS, aC, aZ]
     refine wl rfl (.int .i64 ((i + 1 : Nat))) _ (run_addI (.tmp 18) rfl i m hlt HF.out.2.2.2.1 rfl) ?_
     simp only [Act.put, aS, aC, aZ]
     refine wl rfl (.int .i64 ((i + 1 : Nat))) _ (run_asZ (.tmp 19) rfl (.int .i64 ((i + 1 : Nat))) rfl) ?_
     simp only [Act.put, aS, aC, aZ]
     refine wpList_nil ?_
     go_wp2_with fail
     exact ⟨⟨i + 1, rfl, by omega, ⟨(aLock R z), v3, Rw18.out.take 1, Or.inr H3.out, (HG.out.lock z)⟩⟩, by simp [intOf]; omega⟩
    have HUp : Hid ((!decide (max R.expiry z = R.expiry)) = false ∧ True) := ⟨by rw [decide_eq_true (by omega)]; rfl, trivial⟩
    ·as_aux_lemma =>
     go_upto_region 15 with fail
     refine wp_region_lit ?_
     refine wl rfl (.bool true) _ (run_eqZ (.tmp 28) (.const (.int .i64 0)) rfl kd 0 rfl rfl true HKD.out) ?_
     simp only [Act.put, aS, aC, aZ]
     refine wl rfl (.bool true) _ (run_asZ (.tmp 84) rfl (.bool true) rfl) ?_
     simp only [Act.put, aS, aC, aZ]
     refine wpList_nil ?_
     have HCl : Hid (∀ U, Fits U R vR → Calls Try.prog 11 #[.agg (rcells R vR).toArray, .int .i64 z] U fun e w' => ∃ v', e = .returned (.tuple #[.agg (rcells (aLock R z) v').toArray, .int .i64 0]) ∧ Below U.heap.size U w' ∧ POwn w' U.heap.size v' (aLock R z).cp) := fun U h => by
      have h_ := lock_any R vR z U h (by have := HG.out.2; omega)
      rw [HSp.out] at h_
      exact h_
     go_upto_region 16 with fail
     refine wp_region_held (S := fun X => Loc w X [(q1, 26, rcells R vR), (q2, 26, rcells R vw)]) (by kernel_rfl) ?_
     show wpAnyH _ _ _ _ _ 12 (Array.replicate 12 false) _ _
     obtain ⟨X, hX⟩ : ∃ X : World, X = { w15 with drawn := w15.drawn + 1 } := ⟨_, rfl⟩
     rw [← hX]
     have RX : Hid (Loc w X [(q1, 26, rcells R vR), (q2, 26, rcells R vw), (q3, 26, rcells rz (.slice none 0 0))]) := by rw [hX]; exact Rw15.out.drew
     have HCx : Hid (CpAt w X vR R.cp) := by rw [hX]; exact HC.out.later (Below.drewN (Below.refl _ _) 1)
     have H2x : Hid (POwn X w.heap.size vw R.cp) := by rw [hX]; exact H2.out.later (Below.drewN (Below.refl _ _) 1)
     have RS : Hid (Loc w X [(q1, 26, rcells R vR), (q2, 26, rcells R vw)]) := RX.out.take 2
     clear HC
     have HC := HCx
     clear HCx
     clear H2
     have H2 := H2x
     clear H2x
     clear Rw15
     clear hX
     refine tH 0 86 rfl rfl (gRun rfl (.agg (rcells R vR).toArray) fun _ h => run_loadA ag26 (.tmp 2) rfl q1 (0) rfl (rcells R vR) ((HC.out.rok HG.out)).len (h.rows 0 rfl)) RS.out ?_
     simp only [Act.put, aS, aC, aZ]
     refine tH 1 87 rfl rfl (gRun rfl vl fun _ h => run_mvZ (.tmp 1) rfl vl rfl) RS.out ?_
     simp only [Act.put, aS, aC, aZ]
     refine tH 2 88 rfl rfl (gRun rfl (.int .i64 (i : Nat)) fun _ h => run_mvZ (.tmp 6) rfl (.int .i64 (i : Nat)) rfl) RS.out ?_
     simp only [Act.put, aS, aC, aZ]
     refine tH 3 89 rfl rfl (gRun rfl (.pointer (some ⟨b, o, none⟩)) fun _ h => run_idx (.tmp 87) (.tmp 88) rfl vl _ _ rfl rfl HOd.out.1) RS.out ?_
     simp only [Act.put, aS, aC, aZ]
     refine tH 4 90 rfl rfl (gRun rfl (.pointer (some ⟨b, o + 1, none⟩)) fun _ h => run_fieldOp' f44_1 (.tmp 89) rfl b (o) rfl) RS.out ?_
     simp only [Act.put, aS, aC, aZ]
     refine tH 5 91 rfl rfl (gRun rfl (.int .i64 z) fun _ h => run_load1 o3 (.tmp 90) rfl b (o + 1) rfl (.int .i64 z) (cell_later HOd.out.2.2 h.below)) RS.out ?_
     simp only [Act.put, aS, aC, aZ]
     refine oneH (i := 6) (by kernel_rfl) ?_
     refine opCallG (some 92) rfl rfl rfl 11 _ (run_call eN11 [.tmp 86, .tmp 91] _ rfl [(.agg (rcells R vR).toArray), (.int .i64 z)] rfl) ?_
     refine (HCl.out X (HC.out.fit HG.out RX.out.below)).mono ?_
     rintro e w16 ⟨v3, rfl, b_, o_⟩
     refine ⟨_, rfl, ?_⟩
     have RSx : Hid (Loc w w16 [(q1, 26, rcells R vR), (q2, 26, rcells R vw)]) := RS.out.later b_
     clear RS
     have RS := RSx
     clear RSx
     have HCx : Hid (CpAt w w16 vR R.cp) := HC.out.later b_
     clear HC
     have HC := HCx
     clear HCx
     have H2x : Hid (POwn w16 w.heap.size vw R.cp) := H2.out.later b_
     clear H2
     have H2 := H2x
     clear H2x
     have H3 : Hid (POwn w16 w.heap.size v3 (aLock R z).cp) := o_.weaken RX.out.below.size
     clear o_ HCl
     have Rw16 : Hid (Loc w w16 [(q1, 26, rcells R vR), (q2, 26, rcells R vw), (q3, 26, rcells rz (.slice none 0 0))]) := RX.out.later b_
     clear RX b_
     refine ⟨RS.out, ?_⟩
     simp only [Act.put, aS, aC, aZ]
     refine tH 7 85 rfl rfl (gRun rfl (.tuple #[(.agg (rcells (aLock R z) v3).toArray), (.int .i64 0)]) fun _ h => run_mvZ (.tmp 92) rfl (.tuple #[(.agg (rcells (aLock R z) v3).toArray), (.int .i64 0)]) rfl) RS.out ?_
     simp only [Act.put, aS, aC, aZ]
     refine tH 8 93 rfl rfl (gRun rfl (.agg (rcells (aLock R z) v3).toArray) fun _ h => run_extZ (.tmp 85) 0 rfl #[(.agg (rcells (aLock R z) v3).toArray), (.int .i64 0)] rfl (.agg (rcells (aLock R z) v3).toArray) rfl) RS.out ?_
     simp only [Act.put, aS, aC, aZ]
     refine tH 9 94 rfl rfl (gRun rfl (.int .i64 0) fun _ h => run_extZ (.tmp 85) 1 rfl #[(.agg (rcells (aLock R z) v3).toArray), (.int .i64 0)] rfl (.int .i64 0) rfl) RS.out ?_
     simp only [Act.put, aS, aC, aZ]
     obtain ⟨hst_, k_, hC_⟩ := Rw16.out.st26 2 rfl (Rok.nil).len (rcells (aLock R z) v3) ((show Rok (aLock R z) v3 from ⟨((HG.out.lock z)).1.1, ((HG.out.lock z)).1.2, H3.out.isSl⟩)).len ((show Rok (aLock R z) v3 from ⟨((HG.out.lock z)).1.1, ((HG.out.lock z)).1.2, H3.out.isSl⟩)).one
     have hR_ := Rw16.out.at 2 rfl
     refine oneH (i := 10) (by kernel_rfl) ?_
     refine opSkipZ rfl rfl rfl _ (run_stV (.tmp 9) (.tmp 93) rfl q3 0 rfl _ rfl hst_) ?_
     obtain ⟨w17, hW_⟩ : ∃ U_ : World, U_ = w16.setRow q3 (rcells (aLock R z) v3).toArray := ⟨_, rfl⟩
     rw [← hW_] at k_ hC_ ⊢
     clear hst_
     have HCx : Hid (CpAt w w17 vR R.cp) := HC.out.off hR_ (by decide) hC_
     clear HC
     have HC := HCx
     clear HCx
     have H2x : Hid (POwn w17 w.heap.size vw R.cp) := H2.out.off hR_ (by decide) hC_
     clear H2
     have H2 := H2x
     clear H2x
     have H3x : Hid (POwn w17 w.heap.size v3 (aLock R z).cp) := H3.out.off hR_ (by decide) hC_
     clear H3
     have H3 := H3x
     clear H3x
     have Rw17 : Hid (Loc w w17 [(q1, 26, rcells R vR), (q2, 26, rcells R vw), (q3, 26, rcells (aLock R z) v3)]) := k_
     clear k_ hW_ Rw16
     clear hC_ hR_
     clear RS
     have RS : Hid (Loc w w17 [(q1, 26, rcells R vR), (q2, 26, rcells R vw)]) := Rw17.out.take 2
     refine ⟨RS.out, ?_⟩
     refine tH 11 8 rfl rfl (gRun rfl (.int .i64 0) fun _ h => run_asZ (.tmp 94) rfl (.int .i64 0) rfl) RS.out ?_
     simp only [Act.put, aS, aC, aZ]
     refine wpAnyH_done (by kernel_rfl) ?_ _
     clear RS
     go_upto_region 17 with fail
     refine wp_region_held (S := fun X => Loc w X [(q1, 26, rcells R vR), (q2, 26, rcells R vw), (q3, 26, rcells (aLock R z) v3)]) (by kernel_rfl) ?_
     show wpAnyH _ _ _ _ _ 47 (Array.replicate 47 false) _ _
     obtain ⟨Y, hX⟩ : ∃ Y : World, Y = { w17 with drawn := w17.drawn + 1 } := ⟨_, rfl⟩
     rw [← hX]
     have RX : Hid (Loc w Y [(q1, 26, rcells R vR), (q2, 26, rcells R vw), (q3, 26, rcells (aLock R z) v3)]) := by rw [hX]; exact Rw17.out.drew
     have HCx : Hid (CpAt w Y vR R.cp) := by rw [hX]; exact HC.out.later (Below.drewN (Below.refl _ _) 1)
     have H2x : Hid (POwn Y w.heap.size vw R.cp) := by rw [hX]; exact H2.out.later (Below.drewN (Below.refl _ _) 1)
     have H3x : Hid (POwn Y w.heap.size v3 (aLock R z).cp) := by rw [hX]; exact H3.out.later (Below.drewN (Below.refl _ _) 1)
     have RS : Hid (Loc w Y [(q1, 26, rcells R vR), (q2, 26, rcells R vw), (q3, 26, rcells (aLock R z) v3)]) := RX.out
     clear HC
     have HC := HCx
     clear HCx
     clear H2
     have H2 := H2x
     clear H2x
     clear H3
     have H3 := H3x
     clear H3x
     clear Rw17
     clear hX
     refine tH 0 95 rfl rfl (gRun rfl (.int .i64 0) fun _ h => run_mvZ (.tmp 8) rfl (.int .i64 0) rfl) RS.out ?_
     simp only [Act.put, aS, aC, aZ]
     refine tH 1 96 rfl rfl (gRun rfl (.bool true) fun _ h => run_eqZ (.tmp 95) (.const (.int .i64 0)) rfl (0) (0) rfl rfl true rfl) RS.out ?_
     simp only [Act.put, aS, aC, aZ]
     refine tH 2 97 rfl rfl (gRun rfl (.bool true) fun _ h => run_mvZ (.tmp 96) rfl (.bool true) rfl) RS.out ?_
     simp only [Act.put, aS, aC, aZ]
     refine tH 3 98 rfl rfl (gRun (by kernel_rfl) (.pointer (some ⟨q3, 0 + 35, none⟩)) fun _ h => run_fieldOp' f26_4 (.tmp 9) rfl q3 (0) rfl) RS.out ?_
     simp only [Act.put, aS, aC, aZ]
     refine tH 4 99 rfl rfl (gRun (by kernel_rfl) (.int .i64 (max R.expiry z)) fun _ h => run_load1 o3 (.tmp 98) rfl q3 (0 + 35) rfl (.int .i64 (max R.expiry z)) (h.fld 2 rfl ((show Rok (aLock R z) v3 from ⟨((HG.out.lock z)).1.1, ((HG.out.lock z)).1.2, H3.out.isSl⟩)).root 1 _ rfl)) RS.out ?_
     simp only [Act.put, aS, aC, aZ]
     refine tH 5 100 rfl rfl (gRun (by kernel_rfl) (.pointer (some ⟨q2, 0 + 35, none⟩)) fun _ h => run_fieldOp' f26_4 (.tmp 7) rfl q2 (0) rfl) RS.out ?_
     simp only [Act.put, aS, aC, aZ]
     refine tH 6 101 rfl rfl (gRun (by kernel_rfl) (.int .i64 R.expiry) fun _ h => run_load1 o3 (.tmp 100) rfl q2 (0 + 35) rfl (.int .i64 R.expiry) (h.fld 1 rfl ((show Rok R vw from ⟨HG.out.1.1, HG.out.1.2, H2.out.isSl⟩)).root 1 _ rfl)) RS.out ?_
     simp only [Act.put, aS, aC, aZ]
     refine tH 7 102 rfl rfl (gRun (by kernel_rfl) (.bool false) fun _ h => run_lssZ (.tmp 99) (.tmp 101) rfl (max R.expiry z) R.expiry rfl rfl false (decide_eq_false (by omega))) RS.out ?_
     simp only [Act.put, aS, aC, aZ]
     refine tH 8 103 rfl rfl (gRun (by kernel_rfl) (.bool false) fun _ h => run_mvZ (.tmp 102) rfl (.bool false) rfl) RS.out ?_
     simp only [Act.put, aS, aC, aZ]
     refine tH 9 104 rfl rfl (gRun (by kernel_rfl) (.pointer (some ⟨q3, 0 + 35, none⟩)) fun _ h => run_fieldOp' f26_4 (.tmp 9) rfl q3 (0) rfl) RS.out ?_
     simp only [Act.put, aS, aC, aZ]
     refine tH 10 105 rfl rfl (gRun (by kernel_rfl) (.int .i64 (max R.expiry z)) fun _ h => run_load1 o3 (.tmp 104) rfl q3 (0 + 35) rfl (.int .i64 (max R.expiry z)) (h.fld 2 rfl ((show Rok (aLock R z) v3 from ⟨((HG.out.lock z)).1.1, ((HG.out.lock z)).1.2, H3.out.isSl⟩)).root 1 _ rfl)) RS.out ?_
     simp only [Act.put, aS, aC, aZ]
     refine tH 11 106 rfl rfl (gRun (by kernel_rfl) vl fun _ h => run_mvZ (.tmp 1) rfl vl rfl) RS.out ?_
     simp only [Act.put, aS, aC, aZ]
     refine tH 12 107 rfl rfl (gRun (by kernel_rfl) (.int .i64 (i : Nat)) fun _ h => run_mvZ (.tmp 6) rfl (.int .i64 (i : Nat)) rfl) RS.out ?_
     simp only [Act.put, aS, aC, aZ]
     refine tH 13 108 rfl rfl (gRun (by kernel_rfl) (.pointer (some ⟨b, o, none⟩)) fun _ h => run_idx (.tmp 106) (.tmp 107) rfl vl _ _ rfl rfl HOd.out.1) RS.out ?_
     simp only [Act.put, aS, aC, aZ]
     refine tH 14 109 rfl rfl (gRun (by kernel_rfl) (.pointer (some ⟨b, o + 1, none⟩)) fun _ h => run_fieldOp' f44_1 (.tmp 108) rfl b (o) rfl) RS.out ?_
     simp only [Act.put, aS, aC, aZ]
     refine tH 15 110 rfl rfl (gRun (by kernel_rfl) (.int .i64 z) fun _ h => run_load1 o3 (.tmp 109) rfl b (o + 1) rfl (.int .i64 z) (cell_later HOd.out.2.2 h.below)) RS.out ?_
     simp only [Act.put, aS, aC, aZ]
     refine tH 16 111 rfl rfl (gRun (by kernel_rfl) (.bool false) fun _ h => run_lssZ (.tmp 105) (.tmp 110) rfl (max R.expiry z) z rfl rfl false (decide_eq_false (by omega))) RS.out ?_
     simp only [Act.put, aS, aC, aZ]
     refine tH 17 112 rfl rfl (gRun (by kernel_rfl) (.bool false) fun _ h => run_pickZ (.tmp 103) (.const (.bool true)) (.tmp 111) rfl false (.bool false) rfl rfl) RS.out ?_
     simp only [Act.put, aS, aC, aZ]
     refine tH 18 113 rfl rfl (gRun (by kernel_rfl) (.bool false) fun _ h => run_mvZ (.tmp 112) rfl (.bool false) rfl) RS.out ?_
     simp only [Act.put, aS, aC, aZ]
     refine tH 19 114 rfl rfl (gRun (by kernel_rfl) (.pointer (some ⟨q3, 0 + 35, none⟩)) fun _ h => run_fieldOp' f26_4 (.tmp 9) rfl q3 (0) rfl) RS.out ?_
     simp only [Act.put, aS, aC, aZ]
     refine tH 20 115 rfl rfl (gRun (by kernel_rfl) (.int .i64 (max R.expiry z)) fun _ h => run_load1 o3 (.tmp 114) rfl q3 (0 + 35) rfl (.int .i64 (max R.expiry z)) (h.fld 2 rfl ((show Rok (aLock R z) v3 from ⟨((HG.out.lock z)).1.1, ((HG.out.lock z)).1.2, H3.out.isSl⟩)).root 1 _ rfl)) RS.out ?_
     simp only [Act.put, aS, aC, aZ]
     refine tH 21 116 rfl rfl (gRun (by kernel_rfl) (.pointer (some ⟨q2, 0 + 35, none⟩)) fun _ h => run_fieldOp' f26_4 (.tmp 7) rfl q2 (0) rfl) RS.out ?_
     simp only [Act.put, aS, aC, aZ]
     refine tH 22 117 rfl rfl (gRun (by kernel_rfl) (.int .i64 R.expiry) fun _ h => run_load1 o3 (.tmp 116) rfl q2 (0 + 35) rfl (.int .i64 R.expiry) (h.fld 1 rfl ((show Rok R vw from ⟨HG.out.1.1, HG.out.1.2, H2.out.isSl⟩)).root 1 _ rfl)) RS.out ?_
     simp only [Act.put, aS, aC, aZ]
     refine tH 23 118 rfl rfl (gRun (by kernel_rfl) (.bool false) fun _ h => run_neZ (.tmp 115) (.tmp 117) rfl (max R.expiry z) R.expiry rfl rfl false HUp.out.1) RS.out ?_
     simp only [Act.put, aS, aC, aZ]
     refine tH 24 119 rfl rfl (gRun (by kernel_rfl) (.bool false) fun _ h => run_mvZ (.tmp 118) rfl (.bool false) rfl) RS.out ?_
     simp only [Act.put, aS, aC, aZ]
     refine tH 25 120 rfl rfl (Or.inr ⟨by kernel_rfl, rfl⟩) RS.out ?_
     simp only [Act.put, aS, aC, aZ]
     refine tH 26 121 rfl rfl (Or.inr ⟨by kernel_rfl, rfl⟩) RS.out ?_
     simp only [Act.put, aS, aC, aZ]
     refine tH 27 122 rfl rfl (Or.inr ⟨by kernel_rfl, rfl⟩) RS.out ?_
     simp only [Act.put, aS, aC, aZ]
     refine tH 28 123 rfl rfl (Or.inr ⟨by kernel_rfl, rfl⟩) RS.out ?_
     simp only [Act.put, aS, aC, aZ]
     refine tH 29 124 rfl rfl (Or.inr ⟨by kernel_rfl, rfl⟩) RS.out ?_
     simp only [Act.put, aS, aC, aZ]
     refine tH 30 125 rfl rfl (Or.inr ⟨by kernel_rfl, rfl⟩) RS.out ?_
     simp only [Act.put, aS, aC, aZ]
     refine tH 31 126 rfl rfl (Or.inr ⟨by kernel_rfl, rfl⟩) RS.out ?_
     simp only [Act.put, aS, aC, aZ]
     refine tH 32 127 rfl rfl (Or.inr ⟨by kernel_rfl, rfl⟩) RS.out ?_
     simp only [Act.put, aS, aC, aZ]
     refine tH 33 128 rfl rfl (gRun (by kernel_rfl) (.bool false) fun _ h => run_pickZ (.tmp 119) (.tmp 127) (.const (.bool false)) rfl false (.bool false) rfl rfl) RS.out ?_
     simp only [Act.put, aS, aC, aZ]
     refine tH 34 129 rfl rfl (gRun (by kernel_rfl) (.bool false) fun _ h => run_pickZ (.tmp 113) (.const (.bool true)) (.tmp 128) rfl false (.bool false) rfl rfl) RS.out ?_
     simp only [Act.put, aS, aC, aZ]
     refine tH 35 130 rfl rfl (gRun (by kernel_rfl) (.bool false) fun _ h => run_mvZ (.tmp 129) rfl (.bool false) rfl) RS.out ?_
     simp only [Act.put, aS, aC, aZ]
     refine tH 36 131 rfl rfl (gRun (by kernel_rfl) (.pointer (some ⟨q3, 0 + 36, none⟩)) fun _ h => run_fieldOp' f26_5 (.tmp 9) rfl q3 (0) rfl) RS.out ?_
     simp only [Act.put, aS, aC, aZ]
     refine tH 37 132 rfl rfl (gRun (by kernel_rfl) (.bool R.hold) fun _ h => run_load1 o4 (.tmp 131) rfl q3 (0 + 36) rfl (.bool R.hold) (h.fld 2 rfl ((show Rok (aLock R z) v3 from ⟨((HG.out.lock z)).1.1, ((HG.out.lock z)).1.2, H3.out.isSl⟩)).root 2 _ rfl)) RS.out ?_
     simp only [Act.put, aS, aC, aZ]
     refine tH 38 133 rfl rfl (gRun (by kernel_rfl) (.pointer (some ⟨q2, 0 + 36, none⟩)) fun _ h => run_fieldOp' f26_5 (.tmp 7) rfl q2 (0) rfl) RS.out ?_
     simp only [Act.put, aS, aC, aZ]
     refine tH 39 134 rfl rfl (gRun (by kernel_rfl) (.bool R.hold) fun _ h => run_load1 o4 (.tmp 133) rfl q2 (0 + 36) rfl (.bool R.hold) (h.fld 1 rfl ((show Rok R vw from ⟨HG.out.1.1, HG.out.1.2, H2.out.isSl⟩)).root 2 _ rfl)) RS.out ?_
     simp only [Act.put, aS, aC, aZ]
     refine tH 40 135 rfl rfl (gRun (by kernel_rfl) (.bool false) fun _ h => run_neBB (.tmp 132) (.tmp 134) rfl R.hold rfl rfl) RS.out ?_
     simp only [Act.put, aS, aC, aZ]
     refine tH 41 136 rfl rfl (gRun (by kernel_rfl) (.bool false) fun _ h => run_pickZ (.tmp 130) (.const (.bool true)) (.tmp 135) rfl false (.bool false) rfl rfl) RS.out ?_
     simp only [Act.put, aS, aC, aZ]
     refine tH 42 137 rfl rfl (gRun (by kernel_rfl) (.bool false) fun _ h => run_mvZ (.tmp 136) rfl (.bool false) rfl) RS.out ?_
     simp only [Act.put, aS, aC, aZ]
     refine tH 43 138 rfl rfl (gRun (by kernel_rfl) (.pointer (some ⟨q3, 0 + 37, none⟩)) fun _ h => run_fieldOp' f26_6 (.tmp 9) rfl q3 (0) rfl) RS.out ?_
     simp only [Act.put, aS, aC, aZ]
     refine tH 44 139 rfl rfl (gRun (by kernel_rfl) (.bool false) fun _ h => run_load1 o4 (.tmp 138) rfl q3 (0 + 37) rfl (.bool false) (h.fld 2 rfl ((show Rok (aLock R z) v3 from ⟨((HG.out.lock z)).1.1, ((HG.out.lock z)).1.2, H3.out.isSl⟩)).root 3 _ (by rw [← HGo.out]; rfl))) RS.out ?_
     simp only [Act.put, aS, aC, aZ]
     refine tH 45 140 rfl rfl (gRun (by kernel_rfl) (.bool false) fun _ h => run_pickZ (.tmp 137) (.const (.bool true)) (.tmp 139) rfl false (.bool false) rfl rfl) RS.out ?_
     simp only [Act.put, aS, aC, aZ]
     refine tH 46 141 rfl rfl (gRun rfl (.bool false) fun _ h => run_pickZ (.tmp 97) (.tmp 140) (.const (.bool false)) rfl true (.bool false) rfl rfl) RS.out ?_
     simp only [Act.put, aS, aC, aZ]
     refine wpAnyH_done (by kernel_rfl) ?_ _
     clear RS
     go_upto_region 23 with fail
     refine wp_region_lit ?_
     refine wl rfl (.int .i64 0) _ (run_mvZ (.tmp 8) rfl (.int .i64 0) rfl) ?_
     simp only [Act.put, aS, aC, aZ]
     refine wl rfl (.bool true) _ (run_eqZ (.tmp 181) (.const (.int .i64 0)) rfl (0) (0) rfl rfl true rfl) ?_
     simp only [Act.put, aS, aC, aZ]
     refine wpList_nil ?_
     go_upto_region 24 with fail
     refine wp_region_lit ?_
     refine wl rfl (.pointer (some ⟨q3, 0 + 0, none⟩)) _ (run_fieldOp' f26_0 (.tmp 9) rfl q3 (0) rfl) ?_
     simp only [Act.put, aS, aC, aZ]
     refine wl rfl (.string R.id) _ (run_load1 o9 (.tmp 183) rfl q3 (0 + 0) rfl (.string R.id) (RX.out.fid (r := (aLock R z)) 2 rfl)) ?_
     simp only [Act.put, aS, aC, aZ]
     refine wl rfl (.pointer (some ⟨q2, 0 + 0, none⟩)) _ (run_fieldOp' f26_0 (.tmp 7) rfl q2 (0) rfl) ?_
     simp only [Act.put, aS, aC, aZ]
     refine wl rfl (.string R.id) _ (run_load1 o9 (.tmp 185) rfl q2 (0 + 0) rfl (.string R.id) (RX.out.fid (r := R) 1 rfl)) ?_
     simp only [Act.put, aS, aC, aZ]
     refine wl rfl (.bool false) _ (run_neS (.tmp 184) (.tmp 186) rfl R.id rfl rfl) ?_
     simp only [Act.put, aS, aC, aZ]
     refine wl rfl (.bool false) _ (run_mvZ (.tmp 187) rfl (.bool false) rfl) ?_
     simp only [Act.put, aS, aC, aZ]
     refine wl (by kernel_rfl) (.pointer (some ⟨q3, 0 + 1, none⟩)) _ (run_fieldOp' f26_1 (.tmp 9) rfl q3 (0) rfl) ?_
     simp only [Act.put, aS, aC, aZ]
     refine wl (by kernel_rfl) (.int .i64 R.length) _ (run_load1 o3 (.tmp 189) rfl q3 (0 + 1) rfl (.int .i64 R.length) (RX.out.flen (r := (aLock R z)) 2 rfl)) ?_
     simp only [Act.put, aS, aC, aZ]
     refine wl (by kernel_rfl) (.pointer (some ⟨q2, 0 + 1, none⟩)) _ (run_fieldOp' f26_1 (.tmp 7) rfl q2 (0) rfl) ?_
     simp only [Act.put, aS, aC, aZ]
     refine wl (by kernel_rfl) (.int .i64 R.length) _ (run_load1 o3 (.tmp 191) rfl q2 (0 + 1) rfl (.int .i64 R.length) (RX.out.flen (r := R) 1 rfl)) ?_
     simp only [Act.put, aS, aC, aZ]
     refine wl (by kernel_rfl) (.bool false) _ (run_neII (.tmp 190) (.tmp 192) rfl R.length rfl rfl) ?_
     simp only [Act.put, aS, aC, aZ]
     refine wl rfl (.bool false) _ (run_pickZ (.tmp 188) (.const (.bool true)) (.tmp 193) rfl false (.bool false) rfl rfl) ?_
     simp only [Act.put, aS, aC, aZ]
     refine wl rfl (.bool false) _ (run_mvZ (.tmp 194) rfl (.bool false) rfl) ?_
     simp only [Act.put, aS, aC, aZ]
     refine wl (by kernel_rfl) (.pointer (some ⟨q3, 0 + 2, none⟩)) _ (run_fieldOp' f26_2 (.tmp 9) rfl q3 (0) rfl) ?_
     simp only [Act.put, aS, aC, aZ]
     refine wl (by kernel_rfl) (.agg (bcells (aLock R z).root).toArray) _ (run_loadA ag23 (.tmp 196) rfl q3 (0 + 2) rfl (bcells (aLock R z).root) (bc32 ((show Rok (aLock R z) v3 from ⟨((HG.out.lock z)).1.1, ((HG.out.lock z)).1.2, H3.out.isSl⟩)).root) (RX.out.froot 2 rfl ((show Rok (aLock R z) v3 from ⟨((HG.out.lock z)).1.1, ((HG.out.lock z)).1.2, H3.out.isSl⟩)).root)) ?_
     simp only [Act.put, aS, aC, aZ]
     refine wl (by kernel_rfl) (.pointer (some ⟨q2, 0 + 2, none⟩)) _ (run_fieldOp' f26_2 (.tmp 7) rfl q2 (0) rfl) ?_
     simp only [Act.put, aS, aC, aZ]
     refine wl (by kernel_rfl) (.agg (bcells R.root).toArray) _ (run_loadA ag23 (.tmp 198) rfl q2 (0 + 2) rfl (bcells R.root) (bc32 ((show Rok R vw from ⟨HG.out.1.1, HG.out.1.2, H2.out.isSl⟩)).root) (RX.out.froot 1 rfl ((show Rok R vw from ⟨HG.out.1.1, HG.out.1.2, H2.out.isSl⟩)).root)) ?_
     simp only [Act.put, aS, aC, aZ]
     refine wl (by kernel_rfl) (.bool false) _ (run_neHH (.tmp 197) (.tmp 199) rfl R.root ⟨HG.out.1.1, HG.out.1.2⟩ rfl rfl) ?_
     simp only [Act.put, aS, aC, aZ]
     refine wl rfl (.bool false) _ (run_pickZ (.tmp 195) (.const (.bool true)) (.tmp 200) rfl false (.bool false) rfl rfl) ?_
     simp only [Act.put, aS, aC, aZ]
     refine wl rfl (.bool false) _ (run_mvZ (.tmp 201) rfl (.bool false) rfl) ?_
     simp only [Act.put, aS, aC, aZ]
     refine wl (by kernel_rfl) (.pointer (some ⟨q3, 0 + 34, none⟩)) _ (run_fieldOp' f26_3 (.tmp 9) rfl q3 (0) rfl) ?_
     simp only [Act.put, aS, aC, aZ]
     refine wl (by kernel_rfl) (.int .i64 R.index) _ (run_load1 o3 (.tmp 203) rfl q3 (0 + 34) rfl (.int .i64 R.index) (RX.out.fld 2 rfl ((show Rok (aLock R z) v3 from ⟨((HG.out.lock z)).1.1, ((HG.out.lock z)).1.2, H3.out.isSl⟩)).root 0 _ rfl)) ?_
     simp only [Act.put, aS, aC, aZ]
     refine wl (by kernel_rfl) (.pointer (some ⟨q2, 0 + 34, none⟩)) _ (run_fieldOp' f26_3 (.tmp 7) rfl q2 (0) rfl) ?_
     simp only [Act.put, aS, aC, aZ]
     refine wl (by kernel_rfl) (.int .i64 R.index) _ (run_load1 o3 (.tmp 205) rfl q2 (0 + 34) rfl (.int .i64 R.index) (RX.out.fld 1 rfl ((show Rok R vw from ⟨HG.out.1.1, HG.out.1.2, H2.out.isSl⟩)).root 0 _ rfl)) ?_
     simp only [Act.put, aS, aC, aZ]
     refine wl (by kernel_rfl) (.bool false) _ (run_neII (.tmp 204) (.tmp 206) rfl R.index rfl rfl) ?_
     simp only [Act.put, aS, aC, aZ]
     refine wl rfl (.bool false) _ (run_pickZ (.tmp 202) (.const (.bool true)) (.tmp 207) rfl false (.bool false) rfl rfl) ?_
     simp only [Act.put, aS, aC, aZ]
     refine wl rfl (.bool false) _ (run_mvZ (.tmp 208) rfl (.bool false) rfl) ?_
     simp only [Act.put, aS, aC, aZ]
     refine wl (by kernel_rfl) (.pointer (some ⟨q2, 0 + 37, none⟩)) _ (run_fieldOp' f26_6 (.tmp 7) rfl q2 (0) rfl) ?_
     simp only [Act.put, aS, aC, aZ]
     refine wl (by kernel_rfl) (.bool false) _ (run_load1 o4 (.tmp 210) rfl q2 (0 + 37) rfl (.bool false) (RX.out.fld 1 rfl ((show Rok R vw from ⟨HG.out.1.1, HG.out.1.2, H2.out.isSl⟩)).root 3 _ (by rw [← HGo.out]; rfl))) ?_
     simp only [Act.put, aS, aC, aZ]
     refine wl rfl (.bool false) _ (run_pickZ (.tmp 209) (.const (.bool true)) (.tmp 211) rfl false (.bool false) rfl rfl) ?_
     simp only [Act.put, aS, aC, aZ]
     refine wpList_nil ?_
     go_upto_region 26 with fail
     refine wp_region_lit ?_
     refine wl rfl (.agg (rcells (aLock R z) v3).toArray) _ (run_loadA ag26 (.tmp 9) rfl q3 (0) rfl (rcells (aLock R z) v3) ((show Rok (aLock R z) v3 from ⟨((HG.out.lock z)).1.1, ((HG.out.lock z)).1.2, H3.out.isSl⟩)).len (RX.out.rows 2 rfl)) ?_
     simp only [Act.put, aS, aC, aZ]
     obtain ⟨hst_, k_, hC_⟩ := RX.out.st26 0 rfl ((HC.out.rok HG.out)).len (rcells (aLock R z) v3) ((show Rok (aLock R z) v3 from ⟨((HG.out.lock z)).1.1, ((HG.out.lock z)).1.2, H3.out.isSl⟩)).len ((show Rok (aLock R z) v3 from ⟨((HG.out.lock z)).1.1, ((HG.out.lock z)).1.2, H3.out.isSl⟩)).one
     have hR_ := RX.out.at 0 rfl
     refine wlS rfl rfl _ (run_stV (.tmp 2) (.tmp 213) rfl q1 0 rfl _ rfl hst_) ?_
     obtain ⟨w18, hW_⟩ : ∃ U_ : World, U_ = Y.setRow q1 (rcells (aLock R z) v3).toArray := ⟨_, rfl⟩
     rw [← hW_] at k_ hC_ ⊢
     clear hst_
     have HCx : Hid (CpAt w w18 vR R.cp) := HC.out.off hR_ (by decide) hC_
     clear HC
     have HC := HCx
     clear HCx
     have H2x : Hid (POwn w18 w.heap.size vw R.cp) := H2.out.off hR_ (by decide) hC_
     clear H2
     have H2 := H2x
     clear H2x
     have H3x : Hid (POwn w18 w.heap.size v3 (aLock R z).cp) := H3.out.off hR_ (by decide) hC_
     clear H3
     have H3 := H3x
     clear H3x
     have Rw18 : Hid (Loc w w18 [(q1, 26, rcells (aLock R z) v3), (q2, 26, rcells R vw), (q3, 26, rcells (aLock R z) v3)]) := k_
     clear k_ hW_ RX
     clear hC_ hR_
     refine wpList_nil ?_
     go_upto_region 6 with fail
     refine wp_region_lit ?_
     refine wl rfl (.int .i64 (i : Nat)) _ (run_mvZ (.tmp 6) rfl (.int .i64 (i : Nat)) rfl) ?_
     simp only [Act.put, aS, aC, aZ]
     refine wl rfl (.int .i64 ((i + 1 : Nat))) _ (run_addI (.tmp 18) rfl i m hlt HF.out.2.2.2.1 rfl) ?_
     simp only [Act.put, aS, aC, aZ]
     refine wl rfl (.int .i64 ((i + 1 : Nat))) _ (run_asZ (.tmp 19) rfl (.int .i64 ((i + 1 : Nat))) rfl) ?_
     simp only [Act.put, aS, aC, aZ]
     refine wpList_nil ?_
     go_wp2_with fail
     exact ⟨⟨i + 1, rfl, by omega, ⟨(aLock R z), v3, Rw18.out.take 1, Or.inr H3.out, (HG.out.lock z)⟩⟩, by simp [intOf]; omega⟩
   have HKD : Hid (decide (kd = 0) = false) := decide_eq_false hk0
   go_upto_region 15 with fail
   refine wp_region_lit ?_
   refine wl rfl (.bool false) _ (run_eqZ (.tmp 28) (.const (.int .i64 0)) rfl kd 0 rfl rfl false HKD.out) ?_
   simp only [Act.put, aS, aC, aZ]
   refine wl rfl (.bool false) _ (run_asZ (.tmp 84) rfl (.bool false) rfl) ?_
   simp only [Act.put, aS, aC, aZ]
   refine wpList_nil ?_
   by_cases hk1 : kd = 1
   ·have HKE : Hid (decide (kd = 1) = true) := decide_eq_true hk1
    go_upto_region 19 with fail
    refine wp_region_lit ?_
    refine wl rfl (.bool true) _ (run_eqZ (.tmp 28) (.const (.int .i64 1)) rfl kd 1 rfl rfl true HKE.out) ?_
    simp only [Act.put, aS, aC, aZ]
    refine wl rfl (.bool true) _ (run_asZ (.tmp 143) rfl (.bool true) rfl) ?_
    simp only [Act.put, aS, aC, aZ]
    refine wpList_nil ?_
    obtain ⟨hb, hhb⟩ : ∃ b, (!decide (z.tmod 2 = 0)) = b := ⟨_, rfl⟩
    have HB : Hid ((!decide (z.tmod 2 = 0)) = hb) := hhb
    clear hhb
    by_cases hg : R.gone = true
    ·as_aux_lemma =>
     have HGo : Hid (R.gone = true) := hg
     clear hg
     have HSp : Hid (holdS R hb = (rz, 213)) := by rw [holdS, if_pos HGo.out]; exact rfl
     have HCl : Hid (∀ U, Fits U R vR → Calls Try.prog 15 #[.agg (rcells R vR).toArray, .bool hb] U fun e w' => ∃ v', e = .returned (.tuple #[.agg (rcells rz v').toArray, .int .i64 213]) ∧ Below U.heap.size U w' ∧ POwn w' U.heap.size v' rz.cp) := fun U h => by
      have h_ := hold_any R vR hb U h (by have := HG.out.2; omega)
      rw [HSp.out] at h_
      exact h_
     go_upto_region 20 with fail
     refine wp_region_held (S := fun X => Loc w X [(q1, 26, rcells R vR), (q2, 26, rcells R vw)]) (by kernel_rfl) ?_
     show wpAnyH _ _ _ _ _ 14 (Array.replicate 14 false) _ _
     obtain ⟨X, hX⟩ : ∃ X : World, X = { w15 with drawn := w15.drawn + 1 } := ⟨_, rfl⟩
     rw [← hX]
     have RX : Hid (Loc w X [(q1, 26, rcells R vR), (q2, 26, rcells R vw), (q3, 26, rcells rz (.slice none 0 0))]) := by rw [hX]; exact Rw15.out.drew
     have HCx : Hid (CpAt w X vR R.cp) := by rw [hX]; exact HC.out.later (Below.drewN (Below.refl _ _) 1)
     have H2x : Hid (POwn X w.heap.size vw R.cp) := by rw [hX]; exact H2.out.later (Below.drewN (Below.refl _ _) 1)
     have RS : Hid (Loc w X [(q1, 26, rcells R vR), (q2, 26, rcells R vw)]) := RX.out.take 2
     clear HC
     have HC := HCx
     clear HCx
     clear H2
     have H2 := H2x
     clear H2x
     clear Rw15
     clear hX
     refine tH 0 145 rfl rfl (gRun rfl (.agg (rcells R vR).toArray) fun _ h => run_loadA ag26 (.tmp 2) rfl q1 (0) rfl (rcells R vR) ((HC.out.rok HG.out)).len (h.rows 0 rfl)) RS.out ?_
     simp only [Act.put, aS, aC, aZ]
     refine tH 1 146 rfl rfl (gRun rfl vl fun _ h => run_mvZ (.tmp 1) rfl vl rfl) RS.out ?_
     simp only [Act.put, aS, aC, aZ]
     refine tH 2 147 rfl rfl (gRun rfl (.int .i64 (i : Nat)) fun _ h => run_mvZ (.tmp 6) rfl (.int .i64 (i : Nat)) rfl) RS.out ?_
     simp only [Act.put, aS, aC, aZ]
     refine tH 3 148 rfl rfl (gRun rfl (.pointer (some ⟨b, o, none⟩)) fun _ h => run_idx (.tmp 146) (.tmp 147) rfl vl _ _ rfl rfl HOd.out.1) RS.out ?_
     simp only [Act.put, aS, aC, aZ]
     refine tH 4 149 rfl rfl (gRun rfl (.pointer (some ⟨b, o + 1, none⟩)) fun _ h => run_fieldOp' f44_1 (.tmp 148) rfl b (o) rfl) RS.out ?_
     simp only [Act.put, aS, aC, aZ]
     refine tH 5 150 rfl rfl (gRun rfl (.int .i64 z) fun _ h => run_load1 o3 (.tmp 149) rfl b (o + 1) rfl (.int .i64 z) (cell_later HOd.out.2.2 h.below)) RS.out ?_
     simp only [Act.put, aS, aC, aZ]
     refine tH 6 151 rfl rfl (gRun rfl (.int .i64 (z.tmod 2)) fun _ h => run_rem2 (.tmp 150) rfl z rfl) RS.out ?_
     simp only [Act.put, aS, aC, aZ]
     refine tH 7 152 rfl rfl (gRun rfl (.bool hb) fun _ h => run_neZ (.tmp 151) (.const (.int .i64 0)) rfl (z.tmod 2) 0 rfl rfl hb HB.out) RS.out ?_
     simp only [Act.put, aS, aC, aZ]
     refine oneH (i := 8) (by kernel_rfl) ?_
     refine opCallG (some 153) rfl rfl rfl 15 _ (run_call eN15 [.tmp 145, .tmp 152] _ rfl [(.agg (rcells R vR).toArray), (.bool hb)] rfl) ?_
     refine (HCl.out X (HC.out.fit HG.out RX.out.below)).mono ?_
     rintro e w16 ⟨v3, rfl, b_, o_⟩
     refine ⟨_, rfl, ?_⟩
     have RSx : Hid (Loc w w16 [(q1, 26, rcells R vR), (q2, 26, rcells R vw)]) := RS.out.later b_
     clear RS
     have RS := RSx
     clear RSx
     have HCx : Hid (CpAt w w16 vR R.cp) := HC.out.later b_
     clear HC
     have HC := HCx
     clear HCx
     have H2x : Hid (POwn w16 w.heap.size vw R.cp) := H2.out.later b_
     clear H2
     have H2 := H2x
     clear H2x
     have H3 : Hid (POwn w16 w.heap.size v3 rz.cp) := o_.weaken RX.out.below.size
     clear o_ HCl
     have Rw16 : Hid (Loc w w16 [(q1, 26, rcells R vR), (q2, 26, rcells R vw), (q3, 26, rcells rz (.slice none 0 0))]) := RX.out.later b_
     clear RX b_
     refine ⟨RS.out, ?_⟩
     simp only [Act.put, aS, aC, aZ]
     refine tH 9 144 rfl rfl (gRun rfl (.tuple #[(.agg (rcells rz v3).toArray), (.int .i64 213)]) fun _ h => run_mvZ (.tmp 153) rfl (.tuple #[(.agg (rcells rz v3).toArray), (.int .i64 213)]) rfl) RS.out ?_
     simp only [Act.put, aS, aC, aZ]
     refine tH 10 154 rfl rfl (gRun rfl (.agg (rcells rz v3).toArray) fun _ h => run_extZ (.tmp 144) 0 rfl #[(.agg (rcells rz v3).toArray), (.int .i64 213)] rfl (.agg (rcells rz v3).toArray) rfl) RS.out ?_
     simp only [Act.put, aS, aC, aZ]
     refine tH 11 155 rfl rfl (gRun rfl (.int .i64 213) fun _ h => run_extZ (.tmp 144) 1 rfl #[(.agg (rcells rz v3).toArray), (.int .i64 213)] rfl (.int .i64 213) rfl) RS.out ?_
     simp only [Act.put, aS, aC, aZ]
     obtain ⟨hst_, k_, hC_⟩ := Rw16.out.st26 2 rfl (Rok.nil).len (rcells rz v3) ((show Rok rz v3 from ⟨(Rg.zero).1.1, (Rg.zero).1.2, H3.out.isSl⟩)).len ((show Rok rz v3 from ⟨(Rg.zero).1.1, (Rg.zero).1.2, H3.out.isSl⟩)).one
     have hR_ := Rw16.out.at 2 rfl
     refine oneH (i := 12) (by kernel_rfl) ?_
     refine opSkipZ rfl rfl rfl _ (run_stV (.tmp 9) (.tmp 154) rfl q3 0 rfl _ rfl hst_) ?_
     obtain ⟨w17, hW_⟩ : ∃ U_ : World, U_ = w16.setRow q3 (rcells rz v3).toArray := ⟨_, rfl⟩
     rw [← hW_] at k_ hC_ ⊢
     clear hst_
     have HCx : Hid (CpAt w w17 vR R.cp) := HC.out.off hR_ (by decide) hC_
     clear HC
     have HC := HCx
     clear HCx
     have H2x : Hid (POwn w17 w.heap.size vw R.cp) := H2.out.off hR_ (by decide) hC_
     clear H2
     have H2 := H2x
     clear H2x
     have H3x : Hid (POwn w17 w.heap.size v3 rz.cp) := H3.out.off hR_ (by decide) hC_
     clear H3
     have H3 := H3x
     clear H3x
     have Rw17 : Hid (Loc w w17 [(q1, 26, rcells R vR), (q2, 26, rcells R vw), (q3, 26, rcells rz v3)]) := k_
     clear k_ hW_ Rw16
     clear hC_ hR_
     clear RS
     have RS : Hid (Loc w w17 [(q1, 26, rcells R vR), (q2, 26, rcells R vw)]) := Rw17.out.take 2
     refine ⟨RS.out, ?_⟩
     refine tH 13 8 rfl rfl (gRun rfl (.int .i64 213) fun _ h => run_asZ (.tmp 155) rfl (.int .i64 213) rfl) RS.out ?_
     simp only [Act.put, aS, aC, aZ]
     refine wpAnyH_done (by kernel_rfl) ?_ _
     clear RS
     go_upto_region 21 with fail
     refine wp_region_held (S := fun X => Loc w X [(q1, 26, rcells R vR), (q2, 26, rcells R vw), (q3, 26, rcells rz v3)]) (by kernel_rfl) ?_
     show wpAnyH _ _ _ _ _ 25 (Array.replicate 25 false) _ _
     obtain ⟨Y, hX⟩ : ∃ Y : World, Y = { w17 with drawn := w17.drawn + 1 } := ⟨_, rfl⟩
     rw [← hX]
     have RX : Hid (Loc w Y [(q1, 26, rcells R vR), (q2, 26, rcells R vw), (q3, 26, rcells rz v3)]) := by rw [hX]; exact Rw17.out.drew
     have HCx : Hid (CpAt w Y vR R.cp) := by rw [hX]; exact HC.out.later (Below.drewN (Below.refl _ _) 1)
     have H2x : Hid (POwn Y w.heap.size vw R.cp) := by rw [hX]; exact H2.out.later (Below.drewN (Below.refl _ _) 1)
     have H3x : Hid (POwn Y w.heap.size v3 rz.cp) := by rw [hX]; exact H3.out.later (Below.drewN (Below.refl _ _) 1)
     have RS : Hid (Loc w Y [(q1, 26, rcells R vR), (q2, 26, rcells R vw), (q3, 26, rcells rz v3)]) := RX.out
     clear HC
     have HC := HCx
     clear HCx
     clear H2
     have H2 := H2x
     clear H2x
     clear H3
     have H3 := H3x
     clear H3x
     clear Rw17
     clear hX
     refine tH 0 156 rfl rfl (gRun rfl (.int .i64 213) fun _ h => run_mvZ (.tmp 8) rfl (.int .i64 213) rfl) RS.out ?_
     simp only [Act.put, aS, aC, aZ]
     refine tH 1 157 rfl rfl (gRun rfl (.bool false) fun _ h => run_eqZ (.tmp 156) (.const (.int .i64 0)) rfl (213) (0) rfl rfl false rfl) RS.out ?_
     simp only [Act.put, aS, aC, aZ]
     refine tH 2 158 rfl rfl (gRun rfl (.bool false) fun _ h => run_mvZ (.tmp 157) rfl (.bool false) rfl) RS.out ?_
     simp only [Act.put, aS, aC, aZ]
     refine tH 3 159 rfl rfl (Or.inr ⟨by kernel_rfl, rfl⟩) RS.out ?_
     simp only [Act.put, aS, aC, aZ]
     refine tH 4 160 rfl rfl (Or.inr ⟨by kernel_rfl, rfl⟩) RS.out ?_
     simp only [Act.put, aS, aC, aZ]
     refine tH 5 161 rfl rfl (Or.inr ⟨by kernel_rfl, rfl⟩) RS.out ?_
     simp only [Act.put, aS, aC, aZ]
     refine tH 6 162 rfl rfl (Or.inr ⟨by kernel_rfl, rfl⟩) RS.out ?_
     simp only [Act.put, aS, aC, aZ]
     refine tH 7 163 rfl rfl (Or.inr ⟨by kernel_rfl, rfl⟩) RS.out ?_
     simp only [Act.put, aS, aC, aZ]
     refine tH 8 164 rfl rfl (Or.inr ⟨by kernel_rfl, rfl⟩) RS.out ?_
     simp only [Act.put, aS, aC, aZ]
     refine tH 9 165 rfl rfl (Or.inr ⟨by kernel_rfl, rfl⟩) RS.out ?_
     simp only [Act.put, aS, aC, aZ]
     refine tH 10 166 rfl rfl (Or.inr ⟨by kernel_rfl, rfl⟩) RS.out ?_
     simp only [Act.put, aS, aC, aZ]
     refine tH 11 167 rfl rfl (Or.inr ⟨by kernel_rfl, rfl⟩) RS.out ?_
     simp only [Act.put, aS, aC, aZ]
     refine tH 12 168 rfl rfl (Or.inr ⟨by kernel_rfl, rfl⟩) RS.out ?_
     simp only [Act.put, aS, aC, aZ]
     refine tH 13 169 rfl rfl (Or.inr ⟨by kernel_rfl, rfl⟩) RS.out ?_
     simp only [Act.put, aS, aC, aZ]
     refine tH 14 170 rfl rfl (Or.inr ⟨by kernel_rfl, rfl⟩) RS.out ?_
     simp only [Act.put, aS, aC, aZ]
     refine tH 15 171 rfl rfl (Or.inr ⟨by kernel_rfl, rfl⟩) RS.out ?_
     simp only [Act.put, aS, aC, aZ]
     refine tH 16 172 rfl rfl (Or.inr ⟨by kernel_rfl, rfl⟩) RS.out ?_
     simp only [Act.put, aS, aC, aZ]
     refine tH 17 173 rfl rfl (Or.inr ⟨by kernel_rfl, rfl⟩) RS.out ?_
     simp only [Act.put, aS, aC, aZ]
     refine tH 18 174 rfl rfl (Or.inr ⟨by kernel_rfl, rfl⟩) RS.out ?_
     simp only [Act.put, aS, aC, aZ]
     refine tH 19 175 rfl rfl (Or.inr ⟨by kernel_rfl, rfl⟩) RS.out ?_
     simp only [Act.put, aS, aC, aZ]
     refine tH 20 176 rfl rfl (Or.inr ⟨by kernel_rfl, rfl⟩) RS.out ?_
     simp only [Act.put, aS, aC, aZ]
     refine tH 21 177 rfl rfl (Or.inr ⟨by kernel_rfl, rfl⟩) RS.out ?_
     simp only [Act.put, aS, aC, aZ]
     refine tH 22 178 rfl rfl (Or.inr ⟨by kernel_rfl, rfl⟩) RS.out ?_
     simp only [Act.put, aS, aC, aZ]
     refine tH 23 179 rfl rfl (Or.inr ⟨by kernel_rfl, rfl⟩) RS.out ?_
     simp only [Act.put, aS, aC, aZ]
     refine tH 24 180 rfl rfl (gRun rfl (.bool false) fun _ h => run_pickZ (.tmp 158) (.tmp 179) (.const (.bool false)) rfl false (.bool false) rfl rfl) RS.out ?_
     simp only [Act.put, aS, aC, aZ]
     refine wpAnyH_done (by kernel_rfl) ?_ _
     clear RS
     go_upto_region 23 with fail
     refine wp_region_lit ?_
     refine wl rfl (.int .i64 213) _ (run_mvZ (.tmp 8) rfl (.int .i64 213) rfl) ?_
     simp only [Act.put, aS, aC, aZ]
     refine wl rfl (.bool false) _ (run_eqZ (.tmp 181) (.const (.int .i64 0)) rfl (213) (0) rfl rfl false rfl) ?_
     simp only [Act.put, aS, aC, aZ]
     refine wpList_nil ?_
     go_upto_region 27 with fail
     refine wp_region_lit ?_
     refine wl rfl (.agg (rcells R vR).toArray) _ (run_loadA ag26 (.tmp 2) rfl q1 (0) rfl (rcells R vR) ((HC.out.rok HG.out)).len (RX.out.rows 0 rfl)) ?_
     simp only [Act.put, aS, aC, aZ]
     refine wl rfl (.agg (rcells R vw).toArray) _ (run_loadA ag26 (.tmp 7) rfl q2 (0) rfl (rcells R vw) ((show Rok R vw from ⟨HG.out.1.1, HG.out.1.2, H2.out.isSl⟩)).len (RX.out.rows 1 rfl)) ?_
     simp only [Act.put, aS, aC, aZ]
     refine wpList_callW eN13 [.tmp 214, .tmp 215] _ rfl rfl [(.agg (rcells R vR).toArray), (.agg (rcells R vw).toArray)] rfl ?_
     refine (same_yes R vR vw Y (HC.out.fit HG.out RX.out.below) (H2.out.fitR HG.out.1 HG.out.max)).mono ?_
     rintro e w18 ⟨rfl, b_⟩
     refine ⟨_, rfl, ?_⟩
     have HCx : Hid (CpAt w w18 vR R.cp) := HC.out.later b_
     clear HC
     have HC := HCx
     clear HCx
     have H2x : Hid (POwn w18 w.heap.size vw R.cp) := H2.out.later b_
     clear H2
     have H2 := H2x
     clear H2x
     have H3x : Hid (POwn w18 w.heap.size v3 rz.cp) := H3.out.later b_
     clear H3
     have H3 := H3x
     clear H3x
     have Rw18 : Hid (Loc w w18 [(q1, 26, rcells R vR), (q2, 26, rcells R vw), (q3, 26, rcells rz v3)]) := RX.out.later b_
     clear RX b_
     simp only [Act.put, aS, aC, aZ]
     refine wl rfl (.bool false) _ (run_not (.tmp 216) 4 rfl true rfl) ?_
     simp only [Act.put, aS, aC, aZ]
     refine wl rfl (.bool false) _ (run_mvZ (.tmp 217) rfl (.bool false) rfl) ?_
     simp only [Act.put, aS, aC, aZ]
     refine wl (by kernel_rfl) (.agg (rcells rz v3).toArray) _ (run_loadA ag26 (.tmp 9) rfl q3 (0) rfl (rcells rz v3) ((show Rok rz v3 from ⟨(Rg.zero).1.1, (Rg.zero).1.2, H3.out.isSl⟩)).len (Rw18.out.rows 2 rfl)) ?_
     simp only [Act.put, aS, aC, aZ]
     refine wl (by kernel_rfl) (.agg (rcells rz (.slice none 0 0)).toArray) _ (run_bld26 rfl) ?_
     simp only [Act.put, aS, aC, aZ]
     refine wpList_callW eN13 [.tmp 219, .tmp 220] _ (by kernel_rfl) rfl [(.agg (rcells rz v3).toArray), (.agg (rcells rz (.slice none 0 0)).toArray)] rfl ?_
     refine (same_yes rz v3 (.slice none 0 0) w18 (H3.out.fitR rz_root (by decide)) (Rok.nil.fits (PlIn.nil _))).mono ?_
     rintro e w19 ⟨rfl, b_⟩
     refine ⟨_, rfl, ?_⟩
     have HCx : Hid (CpAt w w19 vR R.cp) := HC.out.later b_
     clear HC
     have HC := HCx
     clear HCx
     have H2x : Hid (POwn w19 w.heap.size vw R.cp) := H2.out.later b_
     clear H2
     have H2 := H2x
     clear H2x
     have H3x : Hid (POwn w19 w.heap.size v3 rz.cp) := H3.out.later b_
     clear H3
     have H3 := H3x
     clear H3x
     have Rw19 : Hid (Loc w w19 [(q1, 26, rcells R vR), (q2, 26, rcells R vw), (q3, 26, rcells rz v3)]) := Rw18.out.later b_
     clear Rw18 b_
     simp only [Act.put, aS, aC, aZ]
     refine wl (by kernel_rfl) (.bool false) _ (run_not (.tmp 221) 4 rfl true rfl) ?_
     simp only [Act.put, aS, aC, aZ]
     refine wl rfl (.bool false) _ (run_pickZ (.tmp 218) (.const (.bool true)) (.tmp 222) rfl false (.bool false) rfl rfl) ?_
     simp only [Act.put, aS, aC, aZ]
     refine wl rfl (.bool false) _ (run_mvZ (.tmp 223) rfl (.bool false) rfl) ?_
     simp only [Act.put, aS, aC, aZ]
     refine wl (by kernel_rfl) (.pointer (some ⟨q2, 0 + 37, none⟩)) _ (run_fieldOp' f26_6 (.tmp 7) rfl q2 (0) rfl) ?_
     simp only [Act.put, aS, aC, aZ]
     refine wl (by kernel_rfl) (.bool true) _ (run_load1 o4 (.tmp 225) rfl q2 (0 + 37) rfl (.bool true) (Rw19.out.fld 1 rfl ((show Rok R vw from ⟨HG.out.1.1, HG.out.1.2, H2.out.isSl⟩)).root 3 _ (by rw [← HGo.out]; rfl))) ?_
     simp only [Act.put, aS, aC, aZ]
     refine wl (by kernel_rfl) (.bool true) _ (run_mvZ (.tmp 226) rfl (.bool true) rfl) ?_
     simp only [Act.put, aS, aC, aZ]
     refine wl (by kernel_rfl) (.int .i64 213) _ (run_mvZ (.tmp 8) rfl (.int .i64 213) rfl) ?_
     simp only [Act.put, aS, aC, aZ]
     refine wl (by kernel_rfl) (.bool false) _ (run_neZ (.tmp 228) (.const (.int .i64 213)) rfl (213) (213) rfl rfl false rfl) ?_
     simp only [Act.put, aS, aC, aZ]
     refine wl (by kernel_rfl) (.bool false) _ (run_pickZ (.tmp 227) (.tmp 229) (.const (.bool false)) rfl true (.bool false) rfl rfl) ?_
     simp only [Act.put, aS, aC, aZ]
     refine wl (by kernel_rfl) (.bool false) _ (run_mvZ (.tmp 230) rfl (.bool false) rfl) ?_
     simp only [Act.put, aS, aC, aZ]
     with_reducible refine wpList_skip (by kernel_rfl) ?_
     simp only [Act.put, aS, aC, aZ]
     with_reducible refine wpList_skip (by kernel_rfl) ?_
     simp only [Act.put, aS, aC, aZ]
     refine wl (by kernel_rfl) (.bool false) _ (run_pickZ (.tmp 231) (.tmp 233) (.const (.bool false)) rfl false (.bool false) rfl rfl) ?_
     simp only [Act.put, aS, aC, aZ]
     refine wl rfl (.bool false) _ (run_pickZ (.tmp 224) (.const (.bool true)) (.tmp 234) rfl false (.bool false) rfl rfl) ?_
     simp only [Act.put, aS, aC, aZ]
     refine wpList_nil ?_
     go_upto_region 6 with fail
     refine wp_region_lit ?_
     refine wl rfl (.int .i64 (i : Nat)) _ (run_mvZ (.tmp 6) rfl (.int .i64 (i : Nat)) rfl) ?_
     simp only [Act.put, aS, aC, aZ]
     refine wl rfl (.int .i64 ((i + 1 : Nat))) _ (run_addI (.tmp 18) rfl i m hlt HF.out.2.2.2.1 rfl) ?_
     simp only [Act.put, aS, aC, aZ]
     refine wl rfl (.int .i64 ((i + 1 : Nat))) _ (run_asZ (.tmp 19) rfl (.int .i64 ((i + 1 : Nat))) rfl) ?_
     simp only [Act.put, aS, aC, aZ]
     refine wpList_nil ?_
     go_wp2_with fail
     exact ⟨⟨i + 1, rfl, by omega, ⟨R, vR, Rw19.out.take 1, HC.out, HG.out⟩⟩, by simp [intOf]; omega⟩
    have HGo : Hid (R.gone = false) := eq_false_of_ne_true hg
    have HSp : Hid (holdS R hb = ((aHold R hb), 0)) := by rw [holdS, if_neg hg, aHold]; exact rfl
    clear hg
    ·as_aux_lemma =>
     have HCl : Hid (∀ U, Fits U R vR → Calls Try.prog 15 #[.agg (rcells R vR).toArray, .bool hb] U fun e w' => ∃ v', e = .returned (.tuple #[.agg (rcells (aHold R hb) v').toArray, .int .i64 0]) ∧ Below U.heap.size U w' ∧ POwn w' U.heap.size v' (aHold R hb).cp) := fun U h => by
      have h_ := hold_any R vR hb U h (by have := HG.out.2; omega)
      rw [HSp.out] at h_
      exact h_
     go_upto_region 20 with fail
     refine wp_region_held (S := fun X => Loc w X [(q1, 26, rcells R vR), (q2, 26, rcells R vw)]) (by kernel_rfl) ?_
     show wpAnyH _ _ _ _ _ 14 (Array.replicate 14 false) _ _
     obtain ⟨X, hX⟩ : ∃ X : World, X = { w15 with drawn := w15.drawn + 1 } := ⟨_, rfl⟩
     rw [← hX]
     have RX : Hid (Loc w X [(q1, 26, rcells R vR), (q2, 26, rcells R vw), (q3, 26, rcells rz (.slice none 0 0))]) := by rw [hX]; exact Rw15.out.drew
     have HCx : Hid (CpAt w X vR R.cp) := by rw [hX]; exact HC.out.later (Below.drewN (Below.refl _ _) 1)
     have H2x : Hid (POwn X w.heap.size vw R.cp) := by rw [hX]; exact H2.out.later (Below.drewN (Below.refl _ _) 1)
     have RS : Hid (Loc w X [(q1, 26, rcells R vR), (q2, 26, rcells R vw)]) := RX.out.take 2
     clear HC
     have HC := HCx
     clear HCx
     clear H2
     have H2 := H2x
     clear H2x
     clear Rw15
     clear hX
     refine tH 0 145 rfl rfl (gRun rfl (.agg (rcells R vR).toArray) fun _ h => run_loadA ag26 (.tmp 2) rfl q1 (0) rfl (rcells R vR) ((HC.out.rok HG.out)).len (h.rows 0 rfl)) RS.out ?_
     simp only [Act.put, aS, aC, aZ]
     refine tH 1 146 rfl rfl (gRun rfl vl fun _ h => run_mvZ (.tmp 1) rfl vl rfl) RS.out ?_
     simp only [Act.put, aS, aC, aZ]
     refine tH 2 147 rfl rfl (gRun rfl (.int .i64 (i : Nat)) fun _ h => run_mvZ (.tmp 6) rfl (.int .i64 (i : Nat)) rfl) RS.out ?_
     simp only [Act.put, aS, aC, aZ]
     refine tH 3 148 rfl rfl (gRun rfl (.pointer (some ⟨b, o, none⟩)) fun _ h => run_idx (.tmp 146) (.tmp 147) rfl vl _ _ rfl rfl HOd.out.1) RS.out ?_
     simp only [Act.put, aS, aC, aZ]
     refine tH 4 149 rfl rfl (gRun rfl (.pointer (some ⟨b, o + 1, none⟩)) fun _ h => run_fieldOp' f44_1 (.tmp 148) rfl b (o) rfl) RS.out ?_
     simp only [Act.put, aS, aC, aZ]
     refine tH 5 150 rfl rfl (gRun rfl (.int .i64 z) fun _ h => run_load1 o3 (.tmp 149) rfl b (o + 1) rfl (.int .i64 z) (cell_later HOd.out.2.2 h.below)) RS.out ?_
     simp only [Act.put, aS, aC, aZ]
     refine tH 6 151 rfl rfl (gRun rfl (.int .i64 (z.tmod 2)) fun _ h => run_rem2 (.tmp 150) rfl z rfl) RS.out ?_
     simp only [Act.put, aS, aC, aZ]
     refine tH 7 152 rfl rfl (gRun rfl (.bool hb) fun _ h => run_neZ (.tmp 151) (.const (.int .i64 0)) rfl (z.tmod 2) 0 rfl rfl hb HB.out) RS.out ?_
     simp only [Act.put, aS, aC, aZ]
     refine oneH (i := 8) (by kernel_rfl) ?_
     refine opCallG (some 153) rfl rfl rfl 15 _ (run_call eN15 [.tmp 145, .tmp 152] _ rfl [(.agg (rcells R vR).toArray), (.bool hb)] rfl) ?_
     refine (HCl.out X (HC.out.fit HG.out RX.out.below)).mono ?_
     rintro e w16 ⟨v3, rfl, b_, o_⟩
     refine ⟨_, rfl, ?_⟩
     have RSx : Hid (Loc w w16 [(q1, 26, rcells R vR), (q2, 26, rcells R vw)]) := RS.out.later b_
     clear RS
     have RS := RSx
     clear RSx
     have HCx : Hid (CpAt w w16 vR R.cp) := HC.out.later b_
     clear HC
     have HC := HCx
     clear HCx
     have H2x : Hid (POwn w16 w.heap.size vw R.cp) := H2.out.later b_
     clear H2
     have H2 := H2x
     clear H2x
     have H3 : Hid (POwn w16 w.heap.size v3 (aHold R hb).cp) := o_.weaken RX.out.below.size
     clear o_ HCl
     have Rw16 : Hid (Loc w w16 [(q1, 26, rcells R vR), (q2, 26, rcells R vw), (q3, 26, rcells rz (.slice none 0 0))]) := RX.out.later b_
     clear RX b_
     refine ⟨RS.out, ?_⟩
     simp only [Act.put, aS, aC, aZ]
     refine tH 9 144 rfl rfl (gRun rfl (.tuple #[(.agg (rcells (aHold R hb) v3).toArray), (.int .i64 0)]) fun _ h => run_mvZ (.tmp 153) rfl (.tuple #[(.agg (rcells (aHold R hb) v3).toArray), (.int .i64 0)]) rfl) RS.out ?_
     simp only [Act.put, aS, aC, aZ]
     refine tH 10 154 rfl rfl (gRun rfl (.agg (rcells (aHold R hb) v3).toArray) fun _ h => run_extZ (.tmp 144) 0 rfl #[(.agg (rcells (aHold R hb) v3).toArray), (.int .i64 0)] rfl (.agg (rcells (aHold R hb) v3).toArray) rfl) RS.out ?_
     simp only [Act.put, aS, aC, aZ]
     refine tH 11 155 rfl rfl (gRun rfl (.int .i64 0) fun _ h => run_extZ (.tmp 144) 1 rfl #[(.agg (rcells (aHold R hb) v3).toArray), (.int .i64 0)] rfl (.int .i64 0) rfl) RS.out ?_
     simp only [Act.put, aS, aC, aZ]
     obtain ⟨hst_, k_, hC_⟩ := Rw16.out.st26 2 rfl (Rok.nil).len (rcells (aHold R hb) v3) ((show Rok (aHold R hb) v3 from ⟨((HG.out.hold hb)).1.1, ((HG.out.hold hb)).1.2, H3.out.isSl⟩)).len ((show Rok (aHold R hb) v3 from ⟨((HG.out.hold hb)).1.1, ((HG.out.hold hb)).1.2, H3.out.isSl⟩)).one
     have hR_ := Rw16.out.at 2 rfl
     refine oneH (i := 12) (by kernel_rfl) ?_
     refine opSkipZ rfl rfl rfl _ (run_stV (.tmp 9) (.tmp 154) rfl q3 0 rfl _ rfl hst_) ?_
     obtain ⟨w17, hW_⟩ : ∃ U_ : World, U_ = w16.setRow q3 (rcells (aHold R hb) v3).toArray := ⟨_, rfl⟩
     rw [← hW_] at k_ hC_ ⊢
     clear hst_
     have HCx : Hid (CpAt w w17 vR R.cp) := HC.out.off hR_ (by decide) hC_
     clear HC
     have HC := HCx
     clear HCx
     have H2x : Hid (POwn w17 w.heap.size vw R.cp) := H2.out.off hR_ (by decide) hC_
     clear H2
     have H2 := H2x
     clear H2x
     have H3x : Hid (POwn w17 w.heap.size v3 (aHold R hb).cp) := H3.out.off hR_ (by decide) hC_
     clear H3
     have H3 := H3x
     clear H3x
     have Rw17 : Hid (Loc w w17 [(q1, 26, rcells R vR), (q2, 26, rcells R vw), (q3, 26, rcells (aHold R hb) v3)]) := k_
     clear k_ hW_ Rw16
     clear hC_ hR_
     clear RS
     have RS : Hid (Loc w w17 [(q1, 26, rcells R vR), (q2, 26, rcells R vw)]) := Rw17.out.take 2
     refine ⟨RS.out, ?_⟩
     refine tH 13 8 rfl rfl (gRun rfl (.int .i64 0) fun _ h => run_asZ (.tmp 155) rfl (.int .i64 0) rfl) RS.out ?_
     simp only [Act.put, aS, aC, aZ]
     refine wpAnyH_done (by kernel_rfl) ?_ _
     clear RS
     go_upto_region 21 with fail
     refine wp_region_held (S := fun X => Loc w X [(q1, 26, rcells R vR), (q2, 26, rcells R vw), (q3, 26, rcells (aHold R hb) v3)]) (by kernel_rfl) ?_
     show wpAnyH _ _ _ _ _ 25 (Array.replicate 25 false) _ _
     obtain ⟨Y, hX⟩ : ∃ Y : World, Y = { w17 with drawn := w17.drawn + 1 } := ⟨_, rfl⟩
     rw [← hX]
     have RX : Hid (Loc w Y [(q1, 26, rcells R vR), (q2, 26, rcells R vw), (q3, 26, rcells (aHold R hb) v3)]) := by rw [hX]; exact Rw17.out.drew
     have HCx : Hid (CpAt w Y vR R.cp) := by rw [hX]; exact HC.out.later (Below.drewN (Below.refl _ _) 1)
     have H2x : Hid (POwn Y w.heap.size vw R.cp) := by rw [hX]; exact H2.out.later (Below.drewN (Below.refl _ _) 1)
     have H3x : Hid (POwn Y w.heap.size v3 (aHold R hb).cp) := by rw [hX]; exact H3.out.later (Below.drewN (Below.refl _ _) 1)
     have RS : Hid (Loc w Y [(q1, 26, rcells R vR), (q2, 26, rcells R vw), (q3, 26, rcells (aHold R hb) v3)]) := RX.out
     clear HC
     have HC := HCx
     clear HCx
     clear H2
     have H2 := H2x
     clear H2x
     clear H3
     have H3 := H3x
     clear H3x
     clear Rw17
     clear hX
     refine tH 0 156 rfl rfl (gRun rfl (.int .i64 0) fun _ h => run_mvZ (.tmp 8) rfl (.int .i64 0) rfl) RS.out ?_
     simp only [Act.put, aS, aC, aZ]
     refine tH 1 157 rfl rfl (gRun rfl (.bool true) fun _ h => run_eqZ (.tmp 156) (.const (.int .i64 0)) rfl (0) (0) rfl rfl true rfl) RS.out ?_
     simp only [Act.put, aS, aC, aZ]
     refine tH 2 158 rfl rfl (gRun rfl (.bool true) fun _ h => run_mvZ (.tmp 157) rfl (.bool true) rfl) RS.out ?_
     simp only [Act.put, aS, aC, aZ]
     refine tH 3 159 rfl rfl (gRun (by kernel_rfl) (.pointer (some ⟨q3, 0 + 36, none⟩)) fun _ h => run_fieldOp' f26_5 (.tmp 9) rfl q3 (0) rfl) RS.out ?_
     simp only [Act.put, aS, aC, aZ]
     refine tH 4 160 rfl rfl (gRun (by kernel_rfl) (.bool hb) fun _ h => run_load1 o4 (.tmp 159) rfl q3 (0 + 36) rfl (.bool hb) (h.fld 2 rfl ((show Rok (aHold R hb) v3 from ⟨((HG.out.hold hb)).1.1, ((HG.out.hold hb)).1.2, H3.out.isSl⟩)).root 2 _ rfl)) RS.out ?_
     simp only [Act.put, aS, aC, aZ]
     refine tH 5 161 rfl rfl (gRun (by kernel_rfl) vl fun _ h => run_mvZ (.tmp 1) rfl vl rfl) RS.out ?_
     simp only [Act.put, aS, aC, aZ]
     refine tH 6 162 rfl rfl (gRun (by kernel_rfl) (.int .i64 (i : Nat)) fun _ h => run_mvZ (.tmp 6) rfl (.int .i64 (i : Nat)) rfl) RS.out ?_
     simp only [Act.put, aS, aC, aZ]
     refine tH 7 163 rfl rfl (gRun (by kernel_rfl) (.pointer (some ⟨b, o, none⟩)) fun _ h => run_idx (.tmp 161) (.tmp 162) rfl vl _ _ rfl rfl HOd.out.1) RS.out ?_
     simp only [Act.put, aS, aC, aZ]
     refine tH 8 164 rfl rfl (gRun (by kernel_rfl) (.pointer (some ⟨b, o + 1, none⟩)) fun _ h => run_fieldOp' f44_1 (.tmp 163) rfl b (o) rfl) RS.out ?_
     simp only [Act.put, aS, aC, aZ]
     refine tH 9 165 rfl rfl (gRun (by kernel_rfl) (.int .i64 z) fun _ h => run_load1 o3 (.tmp 164) rfl b (o + 1) rfl (.int .i64 z) (cell_later HOd.out.2.2 h.below)) RS.out ?_
     simp only [Act.put, aS, aC, aZ]
     refine tH 10 166 rfl rfl (gRun (by kernel_rfl) (.int .i64 (z.tmod 2)) fun _ h => run_rem2 (.tmp 165) rfl z rfl) RS.out ?_
     simp only [Act.put, aS, aC, aZ]
     refine tH 11 167 rfl rfl (gRun (by kernel_rfl) (.bool hb) fun _ h => run_neZ (.tmp 166) (.const (.int .i64 0)) rfl (z.tmod 2) 0 rfl rfl hb HB.out) RS.out ?_
     simp only [Act.put, aS, aC, aZ]
     refine tH 12 168 rfl rfl (gRun (by kernel_rfl) (.bool false) fun _ h => run_neBB (.tmp 160) (.tmp 167) rfl hb rfl rfl) RS.out ?_
     simp only [Act.put, aS, aC, aZ]
     refine tH 13 169 rfl rfl (gRun (by kernel_rfl) (.bool false) fun _ h => run_mvZ (.tmp 168) rfl (.bool false) rfl) RS.out ?_
     simp only [Act.put, aS, aC, aZ]
     refine tH 14 170 rfl rfl (gRun (by kernel_rfl) (.pointer (some ⟨q3, 0 + 35, none⟩)) fun _ h => run_fieldOp' f26_4 (.tmp 9) rfl q3 (0) rfl) RS.out ?_
     simp only [Act.put, aS, aC, aZ]
     refine tH 15 171 rfl rfl (gRun (by kernel_rfl) (.int .i64 R.expiry) fun _ h => run_load1 o3 (.tmp 170) rfl q3 (0 + 35) rfl (.int .i64 R.expiry) (h.fld 2 rfl ((show Rok (aHold R hb) v3 from ⟨((HG.out.hold hb)).1.1, ((HG.out.hold hb)).1.2, H3.out.isSl⟩)).root 1 _ rfl)) RS.out ?_
     simp only [Act.put, aS, aC, aZ]
     refine tH 16 172 rfl rfl (gRun (by kernel_rfl) (.pointer (some ⟨q2, 0 + 35, none⟩)) fun _ h => run_fieldOp' f26_4 (.tmp 7) rfl q2 (0) rfl) RS.out ?_
     simp only [Act.put, aS, aC, aZ]
     refine tH 17 173 rfl rfl (gRun (by kernel_rfl) (.int .i64 R.expiry) fun _ h => run_load1 o3 (.tmp 172) rfl q2 (0 + 35) rfl (.int .i64 R.expiry) (h.fld 1 rfl ((show Rok R vw from ⟨HG.out.1.1, HG.out.1.2, H2.out.isSl⟩)).root 1 _ rfl)) RS.out ?_
     simp only [Act.put, aS, aC, aZ]
     refine tH 18 174 rfl rfl (gRun (by kernel_rfl) (.bool false) fun _ h => run_neII (.tmp 171) (.tmp 173) rfl R.expiry rfl rfl) RS.out ?_
     simp only [Act.put, aS, aC, aZ]
     refine tH 19 175 rfl rfl (gRun (by kernel_rfl) (.bool false) fun _ h => run_pickZ (.tmp 169) (.const (.bool true)) (.tmp 174) rfl false (.bool false) rfl rfl) RS.out ?_
     simp only [Act.put, aS, aC, aZ]
     refine tH 20 176 rfl rfl (gRun (by kernel_rfl) (.bool false) fun _ h => run_mvZ (.tmp 175) rfl (.bool false) rfl) RS.out ?_
     simp only [Act.put, aS, aC, aZ]
     refine tH 21 177 rfl rfl (gRun (by kernel_rfl) (.pointer (some ⟨q3, 0 + 37, none⟩)) fun _ h => run_fieldOp' f26_6 (.tmp 9) rfl q3 (0) rfl) RS.out ?_
     simp only [Act.put, aS, aC, aZ]
     refine tH 22 178 rfl rfl (gRun (by kernel_rfl) (.bool false) fun _ h => run_load1 o4 (.tmp 177) rfl q3 (0 + 37) rfl (.bool false) (h.fld 2 rfl ((show Rok (aHold R hb) v3 from ⟨((HG.out.hold hb)).1.1, ((HG.out.hold hb)).1.2, H3.out.isSl⟩)).root 3 _ (by rw [← HGo.out]; rfl))) RS.out ?_
     simp only [Act.put, aS, aC, aZ]
     refine tH 23 179 rfl rfl (gRun (by kernel_rfl) (.bool false) fun _ h => run_pickZ (.tmp 176) (.const (.bool true)) (.tmp 178) rfl false (.bool false) rfl rfl) RS.out ?_
     simp only [Act.put, aS, aC, aZ]
     refine tH 24 180 rfl rfl (gRun rfl (.bool false) fun _ h => run_pickZ (.tmp 158) (.tmp 179) (.const (.bool false)) rfl true (.bool false) rfl rfl) RS.out ?_
     simp only [Act.put, aS, aC, aZ]
     refine wpAnyH_done (by kernel_rfl) ?_ _
     clear RS
     go_upto_region 23 with fail
     refine wp_region_lit ?_
     refine wl rfl (.int .i64 0) _ (run_mvZ (.tmp 8) rfl (.int .i64 0) rfl) ?_
     simp only [Act.put, aS, aC, aZ]
     refine wl rfl (.bool true) _ (run_eqZ (.tmp 181) (.const (.int .i64 0)) rfl (0) (0) rfl rfl true rfl) ?_
     simp only [Act.put, aS, aC, aZ]
     refine wpList_nil ?_
     go_upto_region 24 with fail
     refine wp_region_lit ?_
     refine wl rfl (.pointer (some ⟨q3, 0 + 0, none⟩)) _ (run_fieldOp' f26_0 (.tmp 9) rfl q3 (0) rfl) ?_
     simp only [Act.put, aS, aC, aZ]
     refine wl rfl (.string R.id) _ (run_load1 o9 (.tmp 183) rfl q3 (0 + 0) rfl (.string R.id) (RX.out.fid (r := (aHold R hb)) 2 rfl)) ?_
     simp only [Act.put, aS, aC, aZ]
     refine wl rfl (.pointer (some ⟨q2, 0 + 0, none⟩)) _ (run_fieldOp' f26_0 (.tmp 7) rfl q2 (0) rfl) ?_
     simp only [Act.put, aS, aC, aZ]
     refine wl rfl (.string R.id) _ (run_load1 o9 (.tmp 185) rfl q2 (0 + 0) rfl (.string R.id) (RX.out.fid (r := R) 1 rfl)) ?_
     simp only [Act.put, aS, aC, aZ]
     refine wl rfl (.bool false) _ (run_neS (.tmp 184) (.tmp 186) rfl R.id rfl rfl) ?_
     simp only [Act.put, aS, aC, aZ]
     refine wl rfl (.bool false) _ (run_mvZ (.tmp 187) rfl (.bool false) rfl) ?_
     simp only [Act.put, aS, aC, aZ]
     refine wl (by kernel_rfl) (.pointer (some ⟨q3, 0 + 1, none⟩)) _ (run_fieldOp' f26_1 (.tmp 9) rfl q3 (0) rfl) ?_
     simp only [Act.put, aS, aC, aZ]
     refine wl (by kernel_rfl) (.int .i64 R.length) _ (run_load1 o3 (.tmp 189) rfl q3 (0 + 1) rfl (.int .i64 R.length) (RX.out.flen (r := (aHold R hb)) 2 rfl)) ?_
     simp only [Act.put, aS, aC, aZ]
     refine wl (by kernel_rfl) (.pointer (some ⟨q2, 0 + 1, none⟩)) _ (run_fieldOp' f26_1 (.tmp 7) rfl q2 (0) rfl) ?_
     simp only [Act.put, aS, aC, aZ]
     refine wl (by kernel_rfl) (.int .i64 R.length) _ (run_load1 o3 (.tmp 191) rfl q2 (0 + 1) rfl (.int .i64 R.length) (RX.out.flen (r := R) 1 rfl)) ?_
     simp only [Act.put, aS, aC, aZ]
     refine wl (by kernel_rfl) (.bool false) _ (run_neII (.tmp 190) (.tmp 192) rfl R.length rfl rfl) ?_
     simp only [Act.put, aS, aC, aZ]
     refine wl rfl (.bool false) _ (run_pickZ (.tmp 188) (.const (.bool true)) (.tmp 193) rfl false (.bool false) rfl rfl) ?_
     simp only [Act.put, aS, aC, aZ]
     refine wl rfl (.bool false) _ (run_mvZ (.tmp 194) rfl (.bool false) rfl) ?_
     simp only [Act.put, aS, aC, aZ]
     refine wl (by kernel_rfl) (.pointer (some ⟨q3, 0 + 2, none⟩)) _ (run_fieldOp' f26_2 (.tmp 9) rfl q3 (0) rfl) ?_
     simp only [Act.put, aS, aC, aZ]
     refine wl (by kernel_rfl) (.agg (bcells (aHold R hb).root).toArray) _ (run_loadA ag23 (.tmp 196) rfl q3 (0 + 2) rfl (bcells (aHold R hb).root) (bc32 ((show Rok (aHold R hb) v3 from ⟨((HG.out.hold hb)).1.1, ((HG.out.hold hb)).1.2, H3.out.isSl⟩)).root) (RX.out.froot 2 rfl ((show Rok (aHold R hb) v3 from ⟨((HG.out.hold hb)).1.1, ((HG.out.hold hb)).1.2, H3.out.isSl⟩)).root)) ?_
     simp only [Act.put, aS, aC, aZ]
     refine wl (by kernel_rfl) (.pointer (some ⟨q2, 0 + 2, none⟩)) _ (run_fieldOp' f26_2 (.tmp 7) rfl q2 (0) rfl) ?_
     simp only [Act.put, aS, aC, aZ]
     refine wl (by kernel_rfl) (.agg (bcells R.root).toArray) _ (run_loadA ag23 (.tmp 198) rfl q2 (0 + 2) rfl (bcells R.root) (bc32 ((show Rok R vw from ⟨HG.out.1.1, HG.out.1.2, H2.out.isSl⟩)).root) (RX.out.froot 1 rfl ((show Rok R vw from ⟨HG.out.1.1, HG.out.1.2, H2.out.isSl⟩)).root)) ?_
     simp only [Act.put, aS, aC, aZ]
     refine wl (by kernel_rfl) (.bool false) _ (run_neHH (.tmp 197) (.tmp 199) rfl R.root ⟨HG.out.1.1, HG.out.1.2⟩ rfl rfl) ?_
     simp only [Act.put, aS, aC, aZ]
     refine wl rfl (.bool false) _ (run_pickZ (.tmp 195) (.const (.bool true)) (.tmp 200) rfl false (.bool false) rfl rfl) ?_
     simp only [Act.put, aS, aC, aZ]
     refine wl rfl (.bool false) _ (run_mvZ (.tmp 201) rfl (.bool false) rfl) ?_
     simp only [Act.put, aS, aC, aZ]
     refine wl (by kernel_rfl) (.pointer (some ⟨q3, 0 + 34, none⟩)) _ (run_fieldOp' f26_3 (.tmp 9) rfl q3 (0) rfl) ?_
     simp only [Act.put, aS, aC, aZ]
     refine wl (by kernel_rfl) (.int .i64 R.index) _ (run_load1 o3 (.tmp 203) rfl q3 (0 + 34) rfl (.int .i64 R.index) (RX.out.fld 2 rfl ((show Rok (aHold R hb) v3 from ⟨((HG.out.hold hb)).1.1, ((HG.out.hold hb)).1.2, H3.out.isSl⟩)).root 0 _ rfl)) ?_
     simp only [Act.put, aS, aC, aZ]
     refine wl (by kernel_rfl) (.pointer (some ⟨q2, 0 + 34, none⟩)) _ (run_fieldOp' f26_3 (.tmp 7) rfl q2 (0) rfl) ?_
     simp only [Act.put, aS, aC, aZ]
     refine wl (by kernel_rfl) (.int .i64 R.index) _ (run_load1 o3 (.tmp 205) rfl q2 (0 + 34) rfl (.int .i64 R.index) (RX.out.fld 1 rfl ((show Rok R vw from ⟨HG.out.1.1, HG.out.1.2, H2.out.isSl⟩)).root 0 _ rfl)) ?_
     simp only [Act.put, aS, aC, aZ]
     refine wl (by kernel_rfl) (.bool false) _ (run_neII (.tmp 204) (.tmp 206) rfl R.index rfl rfl) ?_
     simp only [Act.put, aS, aC, aZ]
     refine wl rfl (.bool false) _ (run_pickZ (.tmp 202) (.const (.bool true)) (.tmp 207) rfl false (.bool false) rfl rfl) ?_
     simp only [Act.put, aS, aC, aZ]
     refine wl rfl (.bool false) _ (run_mvZ (.tmp 208) rfl (.bool false) rfl) ?_
     simp only [Act.put, aS, aC, aZ]
     refine wl (by kernel_rfl) (.pointer (some ⟨q2, 0 + 37, none⟩)) _ (run_fieldOp' f26_6 (.tmp 7) rfl q2 (0) rfl) ?_
     simp only [Act.put, aS, aC, aZ]
     refine wl (by kernel_rfl) (.bool false) _ (run_load1 o4 (.tmp 210) rfl q2 (0 + 37) rfl (.bool false) (RX.out.fld 1 rfl ((show Rok R vw from ⟨HG.out.1.1, HG.out.1.2, H2.out.isSl⟩)).root 3 _ (by rw [← HGo.out]; rfl))) ?_
     simp only [Act.put, aS, aC, aZ]
     refine wl rfl (.bool false) _ (run_pickZ (.tmp 209) (.const (.bool true)) (.tmp 211) rfl false (.bool false) rfl rfl) ?_
     simp only [Act.put, aS, aC, aZ]
     refine wpList_nil ?_
     go_upto_region 26 with fail
     refine wp_region_lit ?_
     refine wl rfl (.agg (rcells (aHold R hb) v3).toArray) _ (run_loadA ag26 (.tmp 9) rfl q3 (0) rfl (rcells (aHold R hb) v3) ((show Rok (aHold R hb) v3 from ⟨((HG.out.hold hb)).1.1, ((HG.out.hold hb)).1.2, H3.out.isSl⟩)).len (RX.out.rows 2 rfl)) ?_
     simp only [Act.put, aS, aC, aZ]
     obtain ⟨hst_, k_, hC_⟩ := RX.out.st26 0 rfl ((HC.out.rok HG.out)).len (rcells (aHold R hb) v3) ((show Rok (aHold R hb) v3 from ⟨((HG.out.hold hb)).1.1, ((HG.out.hold hb)).1.2, H3.out.isSl⟩)).len ((show Rok (aHold R hb) v3 from ⟨((HG.out.hold hb)).1.1, ((HG.out.hold hb)).1.2, H3.out.isSl⟩)).one
     have hR_ := RX.out.at 0 rfl
     refine wlS rfl rfl _ (run_stV (.tmp 2) (.tmp 213) rfl q1 0 rfl _ rfl hst_) ?_
     obtain ⟨w18, hW_⟩ : ∃ U_ : World, U_ = Y.setRow q1 (rcells (aHold R hb) v3).toArray := ⟨_, rfl⟩
     rw [← hW_] at k_ hC_ ⊢
     clear hst_
     have HCx : Hid (CpAt w w18 vR R.cp) := HC.out.off hR_ (by decide) hC_
     clear HC
     have HC := HCx
     clear HCx
     have H2x : Hid (POwn w18 w.heap.size vw R.cp) := H2.out.off hR_ (by decide) hC_
     clear H2
     have H2 := H2x
     clear H2x
     have H3x : Hid (POwn w18 w.heap.size v3 (aHold R hb).cp) := H3.out.off hR_ (by decide) hC_
     clear H3
     have H3 := H3x
     clear H3x
     have Rw18 : Hid (Loc w w18 [(q1, 26, rcells (aHold R hb) v3), (q2, 26, rcells R vw), (q3, 26, rcells (aHold R hb) v3)]) := k_
     clear k_ hW_ RX
     clear hC_ hR_
     refine wpList_nil ?_
     go_upto_region 6 with fail
     refine wp_region_lit ?_
     refine wl rfl (.int .i64 (i : Nat)) _ (run_mvZ (.tmp 6) rfl (.int .i64 (i : Nat)) rfl) ?_
     simp only [Act.put, aS, aC, aZ]
     refine wl rfl (.int .i64 ((i + 1 : Nat))) _ (run_addI (.tmp 18) rfl i m hlt HF.out.2.2.2.1 rfl) ?_
     simp only [Act.put, aS, aC, aZ]
     refine wl rfl (.int .i64 ((i + 1 : Nat))) _ (run_asZ (.tmp 19) rfl (.int .i64 ((i + 1 : Nat))) rfl) ?_
     simp only [Act.put, aS, aC, aZ]
     refine wpList_nil ?_
     go_wp2_with fail
     exact ⟨⟨i + 1, rfl, by omega, ⟨(aHold R hb), v3, Rw18.out.take 1, Or.inr H3.out, (HG.out.hold hb)⟩⟩, by simp [intOf]; omega⟩
   have HKE : Hid (decide (kd = 1) = false) := decide_eq_false hk1
   go_upto_region 19 with fail
   refine wp_region_lit ?_
   refine wl rfl (.bool false) _ (run_eqZ (.tmp 28) (.const (.int .i64 1)) rfl kd 1 rfl rfl false HKE.out) ?_
   simp only [Act.put, aS, aC, aZ]
   refine wl rfl (.bool false) _ (run_asZ (.tmp 143) rfl (.bool false) rfl) ?_
   simp only [Act.put, aS, aC, aZ]
   refine wpList_nil ?_
   by_cases hg : R.gone = true
   ·as_aux_lemma =>
    have HGo : Hid (R.gone = true) := hg
    clear hg
    have HSp : Hid (delS R z = (rz, 213)) := by rw [delS, refS, if_pos HGo.out]; exact rfl
    have HCl : Hid (∀ U, Fits U R vR → Calls Try.prog 17 #[.agg (rcells R vR).toArray, .int .i64 z] U fun e w' => ∃ v', e = .returned (.tuple #[.agg (rcells rz v').toArray, .int .i64 213]) ∧ Below U.heap.size U w' ∧ POwn w' U.heap.size v' rz.cp) := fun U h => by
     have h_ := delete_any R vR z U h (by have := HG.out.2; omega)
     rw [HSp.out] at h_
     exact h_
    go_upto_region 11 with fail
    refine wp_region_held (S := fun X => Loc w X [(q1, 26, rcells R vR), (q2, 26, rcells R vw)]) (by kernel_rfl) ?_
    show wpAnyH _ _ _ _ _ 12 (Array.replicate 12 false) _ _
    obtain ⟨X, hX⟩ : ∃ X : World, X = { w15 with drawn := w15.drawn + 1 } := ⟨_, rfl⟩
    rw [← hX]
    have RX : Hid (Loc w X [(q1, 26, rcells R vR), (q2, 26, rcells R vw), (q3, 26, rcells rz (.slice none 0 0))]) := by rw [hX]; exact Rw15.out.drew
    have HCx : Hid (CpAt w X vR R.cp) := by rw [hX]; exact HC.out.later (Below.drewN (Below.refl _ _) 1)
    have H2x : Hid (POwn X w.heap.size vw R.cp) := by rw [hX]; exact H2.out.later (Below.drewN (Below.refl _ _) 1)
    have RS : Hid (Loc w X [(q1, 26, rcells R vR), (q2, 26, rcells R vw)]) := RX.out.take 2
    clear HC
    have HC := HCx
    clear HCx
    clear H2
    have H2 := H2x
    clear H2x
    clear Rw15
    clear hX
    refine tH 0 30 rfl rfl (gRun rfl (.agg (rcells R vR).toArray) fun _ h => run_loadA ag26 (.tmp 2) rfl q1 (0) rfl (rcells R vR) ((HC.out.rok HG.out)).len (h.rows 0 rfl)) RS.out ?_
    simp only [Act.put, aS, aC, aZ]
    refine tH 1 31 rfl rfl (gRun rfl vl fun _ h => run_mvZ (.tmp 1) rfl vl rfl) RS.out ?_
    simp only [Act.put, aS, aC, aZ]
    refine tH 2 32 rfl rfl (gRun rfl (.int .i64 (i : Nat)) fun _ h => run_mvZ (.tmp 6) rfl (.int .i64 (i : Nat)) rfl) RS.out ?_
    simp only [Act.put, aS, aC, aZ]
    refine tH 3 33 rfl rfl (gRun rfl (.pointer (some ⟨b, o, none⟩)) fun _ h => run_idx (.tmp 31) (.tmp 32) rfl vl _ _ rfl rfl HOd.out.1) RS.out ?_
    simp only [Act.put, aS, aC, aZ]
    refine tH 4 34 rfl rfl (gRun rfl (.pointer (some ⟨b, o + 1, none⟩)) fun _ h => run_fieldOp' f44_1 (.tmp 33) rfl b (o) rfl) RS.out ?_
    simp only [Act.put, aS, aC, aZ]
    refine tH 5 35 rfl rfl (gRun rfl (.int .i64 z) fun _ h => run_load1 o3 (.tmp 34) rfl b (o + 1) rfl (.int .i64 z) (cell_later HOd.out.2.2 h.below)) RS.out ?_
    simp only [Act.put, aS, aC, aZ]
    refine oneH (i := 6) (by kernel_rfl) ?_
    refine opCallG (some 36) rfl rfl rfl 17 _ (run_call eN17 [.tmp 30, .tmp 35] _ rfl [(.agg (rcells R vR).toArray), (.int .i64 z)] rfl) ?_
    refine (HCl.out X (HC.out.fit HG.out RX.out.below)).mono ?_
    rintro e w16 ⟨v3, rfl, b_, o_⟩
    refine ⟨_, rfl, ?_⟩
    have RSx : Hid (Loc w w16 [(q1, 26, rcells R vR), (q2, 26, rcells R vw)]) := RS.out.later b_
    clear RS
    have RS := RSx
    clear RSx
    have HCx : Hid (CpAt w w16 vR R.cp) := HC.out.later b_
    clear HC
    have HC := HCx
    clear HCx
    have H2x : Hid (POwn w16 w.heap.size vw R.cp) := H2.out.later b_
    clear H2
    have H2 := H2x
    clear H2x
    have H3 : Hid (POwn w16 w.heap.size v3 rz.cp) := o_.weaken RX.out.below.size
    clear o_ HCl
    have Rw16 : Hid (Loc w w16 [(q1, 26, rcells R vR), (q2, 26, rcells R vw), (q3, 26, rcells rz (.slice none 0 0))]) := RX.out.later b_
    clear RX b_
    refine ⟨RS.out, ?_⟩
    simp only [Act.put, aS, aC, aZ]
    refine tH 7 29 rfl rfl (gRun rfl (.tuple #[(.agg (rcells rz v3).toArray), (.int .i64 213)]) fun _ h => run_mvZ (.tmp 36) rfl (.tuple #[(.agg (rcells rz v3).toArray), (.int .i64 213)]) rfl) RS.out ?_
    simp only [Act.put, aS, aC, aZ]
    refine tH 8 37 rfl rfl (gRun rfl (.agg (rcells rz v3).toArray) fun _ h => run_extZ (.tmp 29) 0 rfl #[(.agg (rcells rz v3).toArray), (.int .i64 213)] rfl (.agg (rcells rz v3).toArray) rfl) RS.out ?_
    simp only [Act.put, aS, aC, aZ]
    refine tH 9 38 rfl rfl (gRun rfl (.int .i64 213) fun _ h => run_extZ (.tmp 29) 1 rfl #[(.agg (rcells rz v3).toArray), (.int .i64 213)] rfl (.int .i64 213) rfl) RS.out ?_
    simp only [Act.put, aS, aC, aZ]
    obtain ⟨hst_, k_, hC_⟩ := Rw16.out.st26 2 rfl (Rok.nil).len (rcells rz v3) ((show Rok rz v3 from ⟨(Rg.zero).1.1, (Rg.zero).1.2, H3.out.isSl⟩)).len ((show Rok rz v3 from ⟨(Rg.zero).1.1, (Rg.zero).1.2, H3.out.isSl⟩)).one
    have hR_ := Rw16.out.at 2 rfl
    refine oneH (i := 10) (by kernel_rfl) ?_
    refine opSkipZ rfl rfl rfl _ (run_stV (.tmp 9) (.tmp 37) rfl q3 0 rfl _ rfl hst_) ?_
    obtain ⟨w17, hW_⟩ : ∃ U_ : World, U_ = w16.setRow q3 (rcells rz v3).toArray := ⟨_, rfl⟩
    rw [← hW_] at k_ hC_ ⊢
    clear hst_
    have HCx : Hid (CpAt w w17 vR R.cp) := HC.out.off hR_ (by decide) hC_
    clear HC
    have HC := HCx
    clear HCx
    have H2x : Hid (POwn w17 w.heap.size vw R.cp) := H2.out.off hR_ (by decide) hC_
    clear H2
    have H2 := H2x
    clear H2x
    have H3x : Hid (POwn w17 w.heap.size v3 rz.cp) := H3.out.off hR_ (by decide) hC_
    clear H3
    have H3 := H3x
    clear H3x
    have Rw17 : Hid (Loc w w17 [(q1, 26, rcells R vR), (q2, 26, rcells R vw), (q3, 26, rcells rz v3)]) := k_
    clear k_ hW_ Rw16
    clear hC_ hR_
    clear RS
    have RS : Hid (Loc w w17 [(q1, 26, rcells R vR), (q2, 26, rcells R vw)]) := Rw17.out.take 2
    refine ⟨RS.out, ?_⟩
    refine tH 11 8 rfl rfl (gRun rfl (.int .i64 213) fun _ h => run_asZ (.tmp 38) rfl (.int .i64 213) rfl) RS.out ?_
    simp only [Act.put, aS, aC, aZ]
    refine wpAnyH_done (by kernel_rfl) ?_ _
    clear RS
    go_upto_region 12 with fail
    refine wp_region_held (S := fun X => Loc w X [(q1, 26, rcells R vR), (q2, 26, rcells R vw), (q3, 26, rcells rz v3)]) (by kernel_rfl) ?_
    show wpAnyH _ _ _ _ _ 19 (Array.replicate 19 false) _ _
    obtain ⟨Y, hX⟩ : ∃ Y : World, Y = { w17 with drawn := w17.drawn + 1 } := ⟨_, rfl⟩
    rw [← hX]
    have RX : Hid (Loc w Y [(q1, 26, rcells R vR), (q2, 26, rcells R vw), (q3, 26, rcells rz v3)]) := by rw [hX]; exact Rw17.out.drew
    have HCx : Hid (CpAt w Y vR R.cp) := by rw [hX]; exact HC.out.later (Below.drewN (Below.refl _ _) 1)
    have H2x : Hid (POwn Y w.heap.size vw R.cp) := by rw [hX]; exact H2.out.later (Below.drewN (Below.refl _ _) 1)
    have H3x : Hid (POwn Y w.heap.size v3 rz.cp) := by rw [hX]; exact H3.out.later (Below.drewN (Below.refl _ _) 1)
    have RS : Hid (Loc w Y [(q1, 26, rcells R vR), (q2, 26, rcells R vw), (q3, 26, rcells rz v3)]) := RX.out
    clear HC
    have HC := HCx
    clear HCx
    clear H2
    have H2 := H2x
    clear H2x
    clear H3
    have H3 := H3x
    clear H3x
    clear Rw17
    clear hX
    refine tH 0 39 rfl rfl (gRun rfl (.pointer (some ⟨q2, 0 + 37, none⟩)) fun _ h => run_fieldOp' f26_6 (.tmp 7) rfl q2 (0) rfl) RS.out ?_
    simp only [Act.put, aS, aC, aZ]
    refine tH 1 40 rfl rfl (gRun rfl (.bool true) fun _ h => run_load1 o4 (.tmp 39) rfl q2 (0 + 37) rfl (.bool true) (h.fld 1 rfl ((show Rok R vw from ⟨HG.out.1.1, HG.out.1.2, H2.out.isSl⟩)).root 3 _ (by rw [← HGo.out]; rfl))) RS.out ?_
    simp only [Act.put, aS, aC, aZ]
    refine tH 2 41 rfl rfl (gRun rfl (.bool false) fun _ h => run_not (.tmp 40) 4 rfl true rfl) RS.out ?_
    simp only [Act.put, aS, aC, aZ]
    refine tH 3 42 rfl rfl (gRun rfl (.bool false) fun _ h => run_mvZ (.tmp 41) rfl (.bool false) rfl) RS.out ?_
    simp only [Act.put, aS, aC, aZ]
    refine tH 4 43 rfl rfl (Or.inr ⟨by kernel_rfl, rfl⟩) RS.out ?_
    simp only [Act.put, aS, aC, aZ]
    refine tH 5 44 rfl rfl (Or.inr ⟨by kernel_rfl, rfl⟩) RS.out ?_
    simp only [Act.put, aS, aC, aZ]
    refine tH 6 45 rfl rfl (Or.inr ⟨by kernel_rfl, rfl⟩) RS.out ?_
    simp only [Act.put, aS, aC, aZ]
    refine tH 7 46 rfl rfl (gRun rfl (.bool false) fun _ h => run_pickZ (.tmp 42) (.tmp 45) (.const (.bool false)) rfl false (.bool false) rfl rfl) RS.out ?_
    simp only [Act.put, aS, aC, aZ]
    refine tH 8 47 rfl rfl (gRun rfl (.bool false) fun _ h => run_mvZ (.tmp 46) rfl (.bool false) rfl) RS.out ?_
    simp only [Act.put, aS, aC, aZ]
    refine tH 9 48 rfl rfl (Or.inr ⟨by kernel_rfl, rfl⟩) RS.out ?_
    simp only [Act.put, aS, aC, aZ]
    refine tH 10 49 rfl rfl (Or.inr ⟨by kernel_rfl, rfl⟩) RS.out ?_
    simp only [Act.put, aS, aC, aZ]
    refine tH 11 50 rfl rfl (Or.inr ⟨by kernel_rfl, rfl⟩) RS.out ?_
    simp only [Act.put, aS, aC, aZ]
    refine tH 12 51 rfl rfl (Or.inr ⟨by kernel_rfl, rfl⟩) RS.out ?_
    simp only [Act.put, aS, aC, aZ]
    refine tH 13 52 rfl rfl (Or.inr ⟨by kernel_rfl, rfl⟩) RS.out ?_
    simp only [Act.put, aS, aC, aZ]
    refine tH 14 53 rfl rfl (Or.inr ⟨by kernel_rfl, rfl⟩) RS.out ?_
    simp only [Act.put, aS, aC, aZ]
    refine tH 15 54 rfl rfl (Or.inr ⟨by kernel_rfl, rfl⟩) RS.out ?_
    simp only [Act.put, aS, aC, aZ]
    refine tH 16 55 rfl rfl (Or.inr ⟨by kernel_rfl, rfl⟩) RS.out ?_
    simp only [Act.put, aS, aC, aZ]
    refine tH 17 56 rfl rfl (gRun rfl (.bool false) fun _ h => run_pickZ (.tmp 47) (.tmp 55) (.const (.bool false)) rfl false (.bool false) rfl rfl) RS.out ?_
    simp only [Act.put, aS, aC, aZ]
    refine tH 18 10 rfl rfl (gRun rfl (.bool false) fun _ h => run_asZ (.tmp 56) rfl (.bool false) rfl) RS.out ?_
    simp only [Act.put, aS, aC, aZ]
    refine wpAnyH_done (by kernel_rfl) ?_ _
    clear RS
    go_upto_region 13 with fail
    refine wp_region_lit ?_
    refine wl rfl (.bool false) _ (run_mvZ (.tmp 10) rfl (.bool false) rfl) ?_
    simp only [Act.put, aS, aC, aZ]
    refine wl rfl (.int .i64 213) _ (run_mvZ (.tmp 8) rfl (.int .i64 213) rfl) ?_
    simp only [Act.put, aS, aC, aZ]
    refine wl rfl (.bool false) _ (run_eqZ (.tmp 58) (.const (.int .i64 0)) rfl (213) (0) rfl rfl false rfl) ?_
    simp only [Act.put, aS, aC, aZ]
    refine wl rfl (.bool false) _ (run_neBB (.tmp 57) (.tmp 59) rfl false rfl rfl) ?_
    simp only [Act.put, aS, aC, aZ]
    refine wl rfl (.bool false) _ (run_mvZ (.tmp 60) rfl (.bool false) rfl) ?_
    simp only [Act.put, aS, aC, aZ]
    refine wl (by kernel_rfl) (.int .i64 213) _ (run_mvZ (.tmp 8) rfl (.int .i64 213) rfl) ?_
    simp only [Act.put, aS, aC, aZ]
    refine wl (by kernel_rfl) (.bool false) _ (run_eqZ (.tmp 62) (.const (.int .i64 0)) rfl (213) (0) rfl rfl false rfl) ?_
    simp only [Act.put, aS, aC, aZ]
    refine wl (by kernel_rfl) (.bool false) _ (run_mvZ (.tmp 63) rfl (.bool false) rfl) ?_
    simp only [Act.put, aS, aC, aZ]
    with_reducible refine wpList_skip (by kernel_rfl) ?_
    simp only [Act.put, aS, aC, aZ]
    with_reducible refine wpList_skip (by kernel_rfl) ?_
    simp only [Act.put, aS, aC, aZ]
    with_reducible refine wpList_skip (by kernel_rfl) ?_
    simp only [Act.put, aS, aC, aZ]
    with_reducible refine wpList_skip (by kernel_rfl) ?_
    simp only [Act.put, aS, aC, aZ]
    with_reducible refine wpList_skip (by kernel_rfl) ?_
    simp only [Act.put, aS, aC, aZ]
    with_reducible refine wpList_skip (by kernel_rfl) ?_
    simp only [Act.put, aS, aC, aZ]
    with_reducible refine wpList_skip (by kernel_rfl) ?_
    simp only [Act.put, aS, aC, aZ]
    with_reducible refine wpList_skip (by kernel_rfl) ?_
    simp only [Act.put, aS, aC, aZ]
    with_reducible refine wpList_skip (by kernel_rfl) ?_
    simp only [Act.put, aS, aC, aZ]
    with_reducible refine wpList_skip (by kernel_rfl) ?_
    simp only [Act.put, aS, aC, aZ]
    with_reducible refine wpList_skip (by kernel_rfl) ?_
    simp only [Act.put, aS, aC, aZ]
    with_reducible refine wpList_skip (by kernel_rfl) ?_
    simp only [Act.put, aS, aC, aZ]
    with_reducible refine wpList_skip (by kernel_rfl) ?_
    simp only [Act.put, aS, aC, aZ]
    with_reducible refine wpList_skip (by kernel_rfl) ?_
    simp only [Act.put, aS, aC, aZ]
    with_reducible refine wpList_skip (by kernel_rfl) ?_
    simp only [Act.put, aS, aC, aZ]
    with_reducible refine wpList_skip (by kernel_rfl) ?_
    simp only [Act.put, aS, aC, aZ]
    refine wl (by kernel_rfl) (.bool false) _ (run_pickZ (.tmp 64) (.tmp 80) (.const (.bool false)) rfl false (.bool false) rfl rfl) ?_
    simp only [Act.put, aS, aC, aZ]
    refine wl rfl (.bool false) _ (run_pickZ (.tmp 61) (.const (.bool true)) (.tmp 81) rfl false (.bool false) rfl rfl) ?_
    simp only [Act.put, aS, aC, aZ]
    refine wpList_nil ?_
    go_upto_region 23 with fail
    refine wp_region_lit ?_
    refine wl rfl (.int .i64 213) _ (run_mvZ (.tmp 8) rfl (.int .i64 213) rfl) ?_
    simp only [Act.put, aS, aC, aZ]
    refine wl rfl (.bool false) _ (run_eqZ (.tmp 181) (.const (.int .i64 0)) rfl (213) (0) rfl rfl false rfl) ?_
    simp only [Act.put, aS, aC, aZ]
    refine wpList_nil ?_
    go_upto_region 27 with fail
    refine wp_region_lit ?_
    refine wl rfl (.agg (rcells R vR).toArray) _ (run_loadA ag26 (.tmp 2) rfl q1 (0) rfl (rcells R vR) ((HC.out.rok HG.out)).len (RX.out.rows 0 rfl)) ?_
    simp only [Act.put, aS, aC, aZ]
    refine wl rfl (.agg (rcells R vw).toArray) _ (run_loadA ag26 (.tmp 7) rfl q2 (0) rfl (rcells R vw) ((show Rok R vw from ⟨HG.out.1.1, HG.out.1.2, H2.out.isSl⟩)).len (RX.out.rows 1 rfl)) ?_
    simp only [Act.put, aS, aC, aZ]
    refine wpList_callW eN13 [.tmp 214, .tmp 215] _ rfl rfl [(.agg (rcells R vR).toArray), (.agg (rcells R vw).toArray)] rfl ?_
    refine (same_yes R vR vw Y (HC.out.fit HG.out RX.out.below) (H2.out.fitR HG.out.1 HG.out.max)).mono ?_
    rintro e w18 ⟨rfl, b_⟩
    refine ⟨_, rfl, ?_⟩
    have HCx : Hid (CpAt w w18 vR R.cp) := HC.out.later b_
    clear HC
    have HC := HCx
    clear HCx
    have H2x : Hid (POwn w18 w.heap.size vw R.cp) := H2.out.later b_
    clear H2
    have H2 := H2x
    clear H2x
    have H3x : Hid (POwn w18 w.heap.size v3 rz.cp) := H3.out.later b_
    clear H3
    have H3 := H3x
    clear H3x
    have Rw18 : Hid (Loc w w18 [(q1, 26, rcells R vR), (q2, 26, rcells R vw), (q3, 26, rcells rz v3)]) := RX.out.later b_
    clear RX b_
    simp only [Act.put, aS, aC, aZ]
    refine wl rfl (.bool false) _ (run_not (.tmp 216) 4 rfl true rfl) ?_
    simp only [Act.put, aS, aC, aZ]
    refine wl rfl (.bool false) _ (run_mvZ (.tmp 217) rfl (.bool false) rfl) ?_
    simp only [Act.put, aS, aC, aZ]
    refine wl (by kernel_rfl) (.agg (rcells rz v3).toArray) _ (run_loadA ag26 (.tmp 9) rfl q3 (0) rfl (rcells rz v3) ((show Rok rz v3 from ⟨(Rg.zero).1.1, (Rg.zero).1.2, H3.out.isSl⟩)).len (Rw18.out.rows 2 rfl)) ?_
    simp only [Act.put, aS, aC, aZ]
    refine wl (by kernel_rfl) (.agg (rcells rz (.slice none 0 0)).toArray) _ (run_bld26 rfl) ?_
    simp only [Act.put, aS, aC, aZ]
    refine wpList_callW eN13 [.tmp 219, .tmp 220] _ (by kernel_rfl) rfl [(.agg (rcells rz v3).toArray), (.agg (rcells rz (.slice none 0 0)).toArray)] rfl ?_
    refine (same_yes rz v3 (.slice none 0 0) w18 (H3.out.fitR rz_root (by decide)) (Rok.nil.fits (PlIn.nil _))).mono ?_
    rintro e w19 ⟨rfl, b_⟩
    refine ⟨_, rfl, ?_⟩
    have HCx : Hid (CpAt w w19 vR R.cp) := HC.out.later b_
    clear HC
    have HC := HCx
    clear HCx
    have H2x : Hid (POwn w19 w.heap.size vw R.cp) := H2.out.later b_
    clear H2
    have H2 := H2x
    clear H2x
    have H3x : Hid (POwn w19 w.heap.size v3 rz.cp) := H3.out.later b_
    clear H3
    have H3 := H3x
    clear H3x
    have Rw19 : Hid (Loc w w19 [(q1, 26, rcells R vR), (q2, 26, rcells R vw), (q3, 26, rcells rz v3)]) := Rw18.out.later b_
    clear Rw18 b_
    simp only [Act.put, aS, aC, aZ]
    refine wl (by kernel_rfl) (.bool false) _ (run_not (.tmp 221) 4 rfl true rfl) ?_
    simp only [Act.put, aS, aC, aZ]
    refine wl rfl (.bool false) _ (run_pickZ (.tmp 218) (.const (.bool true)) (.tmp 222) rfl false (.bool false) rfl rfl) ?_
    simp only [Act.put, aS, aC, aZ]
    refine wl rfl (.bool false) _ (run_mvZ (.tmp 223) rfl (.bool false) rfl) ?_
    simp only [Act.put, aS, aC, aZ]
    refine wl (by kernel_rfl) (.pointer (some ⟨q2, 0 + 37, none⟩)) _ (run_fieldOp' f26_6 (.tmp 7) rfl q2 (0) rfl) ?_
    simp only [Act.put, aS, aC, aZ]
    refine wl (by kernel_rfl) (.bool true) _ (run_load1 o4 (.tmp 225) rfl q2 (0 + 37) rfl (.bool true) (Rw19.out.fld 1 rfl ((show Rok R vw from ⟨HG.out.1.1, HG.out.1.2, H2.out.isSl⟩)).root 3 _ (by rw [← HGo.out]; rfl))) ?_
    simp only [Act.put, aS, aC, aZ]
    refine wl (by kernel_rfl) (.bool true) _ (run_mvZ (.tmp 226) rfl (.bool true) rfl) ?_
    simp only [Act.put, aS, aC, aZ]
    refine wl (by kernel_rfl) (.int .i64 213) _ (run_mvZ (.tmp 8) rfl (.int .i64 213) rfl) ?_
    simp only [Act.put, aS, aC, aZ]
    refine wl (by kernel_rfl) (.bool false) _ (run_neZ (.tmp 228) (.const (.int .i64 213)) rfl (213) (213) rfl rfl false rfl) ?_
    simp only [Act.put, aS, aC, aZ]
    refine wl (by kernel_rfl) (.bool false) _ (run_pickZ (.tmp 227) (.tmp 229) (.const (.bool false)) rfl true (.bool false) rfl rfl) ?_
    simp only [Act.put, aS, aC, aZ]
    refine wl (by kernel_rfl) (.bool false) _ (run_mvZ (.tmp 230) rfl (.bool false) rfl) ?_
    simp only [Act.put, aS, aC, aZ]
    with_reducible refine wpList_skip (by kernel_rfl) ?_
    simp only [Act.put, aS, aC, aZ]
    with_reducible refine wpList_skip (by kernel_rfl) ?_
    simp only [Act.put, aS, aC, aZ]
    refine wl (by kernel_rfl) (.bool false) _ (run_pickZ (.tmp 231) (.tmp 233) (.const (.bool false)) rfl false (.bool false) rfl rfl) ?_
    simp only [Act.put, aS, aC, aZ]
    refine wl rfl (.bool false) _ (run_pickZ (.tmp 224) (.const (.bool true)) (.tmp 234) rfl false (.bool false) rfl rfl) ?_
    simp only [Act.put, aS, aC, aZ]
    refine wpList_nil ?_
    go_upto_region 6 with fail
    refine wp_region_lit ?_
    refine wl rfl (.int .i64 (i : Nat)) _ (run_mvZ (.tmp 6) rfl (.int .i64 (i : Nat)) rfl) ?_
    simp only [Act.put, aS, aC, aZ]
    refine wl rfl (.int .i64 ((i + 1 : Nat))) _ (run_addI (.tmp 18) rfl i m hlt HF.out.2.2.2.1 rfl) ?_
    simp only [Act.put, aS, aC, aZ]
    refine wl rfl (.int .i64 ((i + 1 : Nat))) _ (run_asZ (.tmp 19) rfl (.int .i64 ((i + 1 : Nat))) rfl) ?_
    simp only [Act.put, aS, aC, aZ]
    refine wpList_nil ?_
    go_wp2_with fail
    exact ⟨⟨i + 1, rfl, by omega, ⟨R, vR, Rw19.out.take 1, HC.out, HG.out⟩⟩, by simp [intOf]; omega⟩
   have HGo : Hid (R.gone = false) := eq_false_of_ne_true hg
   by_cases hh : R.hold = true
   ·as_aux_lemma =>
    have HYo : Hid (R.hold = true) := hh
    clear hh
    have HSp : Hid (delS R z = (rz, 214)) := by rw [delS, refS, if_neg hg, if_pos HYo.out]; exact rfl
    have HCl : Hid (∀ U, Fits U R vR → Calls Try.prog 17 #[.agg (rcells R vR).toArray, .int .i64 z] U fun e w' => ∃ v', e = .returned (.tuple #[.agg (rcells rz v').toArray, .int .i64 214]) ∧ Below U.heap.size U w' ∧ POwn w' U.heap.size v' rz.cp) := fun U h => by
     have h_ := delete_any R vR z U h (by have := HG.out.2; omega)
     rw [HSp.out] at h_
     exact h_
    go_upto_region 11 with fail
    refine wp_region_held (S := fun X => Loc w X [(q1, 26, rcells R vR), (q2, 26, rcells R vw)]) (by kernel_rfl) ?_
    show wpAnyH _ _ _ _ _ 12 (Array.replicate 12 false) _ _
    obtain ⟨X, hX⟩ : ∃ X : World, X = { w15 with drawn := w15.drawn + 1 } := ⟨_, rfl⟩
    rw [← hX]
    have RX : Hid (Loc w X [(q1, 26, rcells R vR), (q2, 26, rcells R vw), (q3, 26, rcells rz (.slice none 0 0))]) := by rw [hX]; exact Rw15.out.drew
    have HCx : Hid (CpAt w X vR R.cp) := by rw [hX]; exact HC.out.later (Below.drewN (Below.refl _ _) 1)
    have H2x : Hid (POwn X w.heap.size vw R.cp) := by rw [hX]; exact H2.out.later (Below.drewN (Below.refl _ _) 1)
    have RS : Hid (Loc w X [(q1, 26, rcells R vR), (q2, 26, rcells R vw)]) := RX.out.take 2
    clear HC
    have HC := HCx
    clear HCx
    clear H2
    have H2 := H2x
    clear H2x
    clear Rw15
    clear hX
    refine tH 0 30 rfl rfl (gRun rfl (.agg (rcells R vR).toArray) fun _ h => run_loadA ag26 (.tmp 2) rfl q1 (0) rfl (rcells R vR) ((HC.out.rok HG.out)).len (h.rows 0 rfl)) RS.out ?_
    simp only [Act.put, aS, aC, aZ]
    refine tH 1 31 rfl rfl (gRun rfl vl fun _ h => run_mvZ (.tmp 1) rfl vl rfl) RS.out ?_
    simp only [Act.put, aS, aC, aZ]
    refine tH 2 32 rfl rfl (gRun rfl (.int .i64 (i : Nat)) fun _ h => run_mvZ (.tmp 6) rfl (.int .i64 (i : Nat)) rfl) RS.out ?_
    simp only [Act.put, aS, aC, aZ]
    refine tH 3 33 rfl rfl (gRun rfl (.pointer (some ⟨b, o, none⟩)) fun _ h => run_idx (.tmp 31) (.tmp 32) rfl vl _ _ rfl rfl HOd.out.1) RS.out ?_
    simp only [Act.put, aS, aC, aZ]
    refine tH 4 34 rfl rfl (gRun rfl (.pointer (some ⟨b, o + 1, none⟩)) fun _ h => run_fieldOp' f44_1 (.tmp 33) rfl b (o) rfl) RS.out ?_
    simp only [Act.put, aS, aC, aZ]
    refine tH 5 35 rfl rfl (gRun rfl (.int .i64 z) fun _ h => run_load1 o3 (.tmp 34) rfl b (o + 1) rfl (.int .i64 z) (cell_later HOd.out.2.2 h.below)) RS.out ?_
    simp only [Act.put, aS, aC, aZ]
    refine oneH (i := 6) (by kernel_rfl) ?_
    refine opCallG (some 36) rfl rfl rfl 17 _ (run_call eN17 [.tmp 30, .tmp 35] _ rfl [(.agg (rcells R vR).toArray), (.int .i64 z)] rfl) ?_
    refine (HCl.out X (HC.out.fit HG.out RX.out.below)).mono ?_
    rintro e w16 ⟨v3, rfl, b_, o_⟩
    refine ⟨_, rfl, ?_⟩
    have RSx : Hid (Loc w w16 [(q1, 26, rcells R vR), (q2, 26, rcells R vw)]) := RS.out.later b_
    clear RS
    have RS := RSx
    clear RSx
    have HCx : Hid (CpAt w w16 vR R.cp) := HC.out.later b_
    clear HC
    have HC := HCx
    clear HCx
    have H2x : Hid (POwn w16 w.heap.size vw R.cp) := H2.out.later b_
    clear H2
    have H2 := H2x
    clear H2x
    have H3 : Hid (POwn w16 w.heap.size v3 rz.cp) := o_.weaken RX.out.below.size
    clear o_ HCl
    have Rw16 : Hid (Loc w w16 [(q1, 26, rcells R vR), (q2, 26, rcells R vw), (q3, 26, rcells rz (.slice none 0 0))]) := RX.out.later b_
    clear RX b_
    refine ⟨RS.out, ?_⟩
    simp only [Act.put, aS, aC, aZ]
    refine tH 7 29 rfl rfl (gRun rfl (.tuple #[(.agg (rcells rz v3).toArray), (.int .i64 214)]) fun _ h => run_mvZ (.tmp 36) rfl (.tuple #[(.agg (rcells rz v3).toArray), (.int .i64 214)]) rfl) RS.out ?_
    simp only [Act.put, aS, aC, aZ]
    refine tH 8 37 rfl rfl (gRun rfl (.agg (rcells rz v3).toArray) fun _ h => run_extZ (.tmp 29) 0 rfl #[(.agg (rcells rz v3).toArray), (.int .i64 214)] rfl (.agg (rcells rz v3).toArray) rfl) RS.out ?_
    simp only [Act.put, aS, aC, aZ]
    refine tH 9 38 rfl rfl (gRun rfl (.int .i64 214) fun _ h => run_extZ (.tmp 29) 1 rfl #[(.agg (rcells rz v3).toArray), (.int .i64 214)] rfl (.int .i64 214) rfl) RS.out ?_
    simp only [Act.put, aS, aC, aZ]
    obtain ⟨hst_, k_, hC_⟩ := Rw16.out.st26 2 rfl (Rok.nil).len (rcells rz v3) ((show Rok rz v3 from ⟨(Rg.zero).1.1, (Rg.zero).1.2, H3.out.isSl⟩)).len ((show Rok rz v3 from ⟨(Rg.zero).1.1, (Rg.zero).1.2, H3.out.isSl⟩)).one
    have hR_ := Rw16.out.at 2 rfl
    refine oneH (i := 10) (by kernel_rfl) ?_
    refine opSkipZ rfl rfl rfl _ (run_stV (.tmp 9) (.tmp 37) rfl q3 0 rfl _ rfl hst_) ?_
    obtain ⟨w17, hW_⟩ : ∃ U_ : World, U_ = w16.setRow q3 (rcells rz v3).toArray := ⟨_, rfl⟩
    rw [← hW_] at k_ hC_ ⊢
    clear hst_
    have HCx : Hid (CpAt w w17 vR R.cp) := HC.out.off hR_ (by decide) hC_
    clear HC
    have HC := HCx
    clear HCx
    have H2x : Hid (POwn w17 w.heap.size vw R.cp) := H2.out.off hR_ (by decide) hC_
    clear H2
    have H2 := H2x
    clear H2x
    have H3x : Hid (POwn w17 w.heap.size v3 rz.cp) := H3.out.off hR_ (by decide) hC_
    clear H3
    have H3 := H3x
    clear H3x
    have Rw17 : Hid (Loc w w17 [(q1, 26, rcells R vR), (q2, 26, rcells R vw), (q3, 26, rcells rz v3)]) := k_
    clear k_ hW_ Rw16
    clear hC_ hR_
    clear RS
    have RS : Hid (Loc w w17 [(q1, 26, rcells R vR), (q2, 26, rcells R vw)]) := Rw17.out.take 2
    refine ⟨RS.out, ?_⟩
    refine tH 11 8 rfl rfl (gRun rfl (.int .i64 214) fun _ h => run_asZ (.tmp 38) rfl (.int .i64 214) rfl) RS.out ?_
    simp only [Act.put, aS, aC, aZ]
    refine wpAnyH_done (by kernel_rfl) ?_ _
    clear RS
    go_upto_region 12 with fail
    refine wp_region_held (S := fun X => Loc w X [(q1, 26, rcells R vR), (q2, 26, rcells R vw), (q3, 26, rcells rz v3)]) (by kernel_rfl) ?_
    show wpAnyH _ _ _ _ _ 19 (Array.replicate 19 false) _ _
    obtain ⟨Y, hX⟩ : ∃ Y : World, Y = { w17 with drawn := w17.drawn + 1 } := ⟨_, rfl⟩
    rw [← hX]
    have RX : Hid (Loc w Y [(q1, 26, rcells R vR), (q2, 26, rcells R vw), (q3, 26, rcells rz v3)]) := by rw [hX]; exact Rw17.out.drew
    have HCx : Hid (CpAt w Y vR R.cp) := by rw [hX]; exact HC.out.later (Below.drewN (Below.refl _ _) 1)
    have H2x : Hid (POwn Y w.heap.size vw R.cp) := by rw [hX]; exact H2.out.later (Below.drewN (Below.refl _ _) 1)
    have H3x : Hid (POwn Y w.heap.size v3 rz.cp) := by rw [hX]; exact H3.out.later (Below.drewN (Below.refl _ _) 1)
    have RS : Hid (Loc w Y [(q1, 26, rcells R vR), (q2, 26, rcells R vw), (q3, 26, rcells rz v3)]) := RX.out
    clear HC
    have HC := HCx
    clear HCx
    clear H2
    have H2 := H2x
    clear H2x
    clear H3
    have H3 := H3x
    clear H3x
    clear Rw17
    clear hX
    refine tH 0 39 rfl rfl (gRun rfl (.pointer (some ⟨q2, 0 + 37, none⟩)) fun _ h => run_fieldOp' f26_6 (.tmp 7) rfl q2 (0) rfl) RS.out ?_
    simp only [Act.put, aS, aC, aZ]
    refine tH 1 40 rfl rfl (gRun rfl (.bool false) fun _ h => run_load1 o4 (.tmp 39) rfl q2 (0 + 37) rfl (.bool false) (h.fld 1 rfl ((show Rok R vw from ⟨HG.out.1.1, HG.out.1.2, H2.out.isSl⟩)).root 3 _ (by rw [← HGo.out]; rfl))) RS.out ?_
    simp only [Act.put, aS, aC, aZ]
    refine tH 2 41 rfl rfl (gRun rfl (.bool true) fun _ h => run_not (.tmp 40) 4 rfl false rfl) RS.out ?_
    simp only [Act.put, aS, aC, aZ]
    refine tH 3 42 rfl rfl (gRun rfl (.bool true) fun _ h => run_mvZ (.tmp 41) rfl (.bool true) rfl) RS.out ?_
    simp only [Act.put, aS, aC, aZ]
    refine tH 4 43 rfl rfl (gRun (by kernel_rfl) (.pointer (some ⟨q2, 0 + 36, none⟩)) fun _ h => run_fieldOp' f26_5 (.tmp 7) rfl q2 (0) rfl) RS.out ?_
    simp only [Act.put, aS, aC, aZ]
    refine tH 5 44 rfl rfl (gRun (by kernel_rfl) (.bool true) fun _ h => run_load1 o4 (.tmp 43) rfl q2 (0 + 36) rfl (.bool true) (h.fld 1 rfl ((show Rok R vw from ⟨HG.out.1.1, HG.out.1.2, H2.out.isSl⟩)).root 2 _ (by rw [← HYo.out]; rfl))) RS.out ?_
    simp only [Act.put, aS, aC, aZ]
    refine tH 6 45 rfl rfl (gRun (by kernel_rfl) (.bool false) fun _ h => run_not (.tmp 44) 4 rfl true rfl) RS.out ?_
    simp only [Act.put, aS, aC, aZ]
    refine tH 7 46 rfl rfl (gRun rfl (.bool false) fun _ h => run_pickZ (.tmp 42) (.tmp 45) (.const (.bool false)) rfl true (.bool false) rfl rfl) RS.out ?_
    simp only [Act.put, aS, aC, aZ]
    refine tH 8 47 rfl rfl (gRun rfl (.bool false) fun _ h => run_mvZ (.tmp 46) rfl (.bool false) rfl) RS.out ?_
    simp only [Act.put, aS, aC, aZ]
    refine tH 9 48 rfl rfl (Or.inr ⟨by kernel_rfl, rfl⟩) RS.out ?_
    simp only [Act.put, aS, aC, aZ]
    refine tH 10 49 rfl rfl (Or.inr ⟨by kernel_rfl, rfl⟩) RS.out ?_
    simp only [Act.put, aS, aC, aZ]
    refine tH 11 50 rfl rfl (Or.inr ⟨by kernel_rfl, rfl⟩) RS.out ?_
    simp only [Act.put, aS, aC, aZ]
    refine tH 12 51 rfl rfl (Or.inr ⟨by kernel_rfl, rfl⟩) RS.out ?_
    simp only [Act.put, aS, aC, aZ]
    refine tH 13 52 rfl rfl (Or.inr ⟨by kernel_rfl, rfl⟩) RS.out ?_
    simp only [Act.put, aS, aC, aZ]
    refine tH 14 53 rfl rfl (Or.inr ⟨by kernel_rfl, rfl⟩) RS.out ?_
    simp only [Act.put, aS, aC, aZ]
    refine tH 15 54 rfl rfl (Or.inr ⟨by kernel_rfl, rfl⟩) RS.out ?_
    simp only [Act.put, aS, aC, aZ]
    refine tH 16 55 rfl rfl (Or.inr ⟨by kernel_rfl, rfl⟩) RS.out ?_
    simp only [Act.put, aS, aC, aZ]
    refine tH 17 56 rfl rfl (gRun rfl (.bool false) fun _ h => run_pickZ (.tmp 47) (.tmp 55) (.const (.bool false)) rfl false (.bool false) rfl rfl) RS.out ?_
    simp only [Act.put, aS, aC, aZ]
    refine tH 18 10 rfl rfl (gRun rfl (.bool false) fun _ h => run_asZ (.tmp 56) rfl (.bool false) rfl) RS.out ?_
    simp only [Act.put, aS, aC, aZ]
    refine wpAnyH_done (by kernel_rfl) ?_ _
    clear RS
    go_upto_region 13 with fail
    refine wp_region_lit ?_
    refine wl rfl (.bool false) _ (run_mvZ (.tmp 10) rfl (.bool false) rfl) ?_
    simp only [Act.put, aS, aC, aZ]
    refine wl rfl (.int .i64 214) _ (run_mvZ (.tmp 8) rfl (.int .i64 214) rfl) ?_
    simp only [Act.put, aS, aC, aZ]
    refine wl rfl (.bool false) _ (run_eqZ (.tmp 58) (.const (.int .i64 0)) rfl (214) (0) rfl rfl false rfl) ?_
    simp only [Act.put, aS, aC, aZ]
    refine wl rfl (.bool false) _ (run_neBB (.tmp 57) (.tmp 59) rfl false rfl rfl) ?_
    simp only [Act.put, aS, aC, aZ]
    refine wl rfl (.bool false) _ (run_mvZ (.tmp 60) rfl (.bool false) rfl) ?_
    simp only [Act.put, aS, aC, aZ]
    refine wl (by kernel_rfl) (.int .i64 214) _ (run_mvZ (.tmp 8) rfl (.int .i64 214) rfl) ?_
    simp only [Act.put, aS, aC, aZ]
    refine wl (by kernel_rfl) (.bool false) _ (run_eqZ (.tmp 62) (.const (.int .i64 0)) rfl (214) (0) rfl rfl false rfl) ?_
    simp only [Act.put, aS, aC, aZ]
    refine wl (by kernel_rfl) (.bool false) _ (run_mvZ (.tmp 63) rfl (.bool false) rfl) ?_
    simp only [Act.put, aS, aC, aZ]
    with_reducible refine wpList_skip (by kernel_rfl) ?_
    simp only [Act.put, aS, aC, aZ]
    with_reducible refine wpList_skip (by kernel_rfl) ?_
    simp only [Act.put, aS, aC, aZ]
    with_reducible refine wpList_skip (by kernel_rfl) ?_
    simp only [Act.put, aS, aC, aZ]
    with_reducible refine wpList_skip (by kernel_rfl) ?_
    simp only [Act.put, aS, aC, aZ]
    with_reducible refine wpList_skip (by kernel_rfl) ?_
    simp only [Act.put, aS, aC, aZ]
    with_reducible refine wpList_skip (by kernel_rfl) ?_
    simp only [Act.put, aS, aC, aZ]
    with_reducible refine wpList_skip (by kernel_rfl) ?_
    simp only [Act.put, aS, aC, aZ]
    with_reducible refine wpList_skip (by kernel_rfl) ?_
    simp only [Act.put, aS, aC, aZ]
    with_reducible refine wpList_skip (by kernel_rfl) ?_
    simp only [Act.put, aS, aC, aZ]
    with_reducible refine wpList_skip (by kernel_rfl) ?_
    simp only [Act.put, aS, aC, aZ]
    with_reducible refine wpList_skip (by kernel_rfl) ?_
    simp only [Act.put, aS, aC, aZ]
    with_reducible refine wpList_skip (by kernel_rfl) ?_
    simp only [Act.put, aS, aC, aZ]
    with_reducible refine wpList_skip (by kernel_rfl) ?_
    simp only [Act.put, aS, aC, aZ]
    with_reducible refine wpList_skip (by kernel_rfl) ?_
    simp only [Act.put, aS, aC, aZ]
    with_reducible refine wpList_skip (by kernel_rfl) ?_
    simp only [Act.put, aS, aC, aZ]
    with_reducible refine wpList_skip (by kernel_rfl) ?_
    simp only [Act.put, aS, aC, aZ]
    refine wl (by kernel_rfl) (.bool false) _ (run_pickZ (.tmp 64) (.tmp 80) (.const (.bool false)) rfl false (.bool false) rfl rfl) ?_
    simp only [Act.put, aS, aC, aZ]
    refine wl rfl (.bool false) _ (run_pickZ (.tmp 61) (.const (.bool true)) (.tmp 81) rfl false (.bool false) rfl rfl) ?_
    simp only [Act.put, aS, aC, aZ]
    refine wpList_nil ?_
    go_upto_region 23 with fail
    refine wp_region_lit ?_
    refine wl rfl (.int .i64 214) _ (run_mvZ (.tmp 8) rfl (.int .i64 214) rfl) ?_
    simp only [Act.put, aS, aC, aZ]
    refine wl rfl (.bool false) _ (run_eqZ (.tmp 181) (.const (.int .i64 0)) rfl (214) (0) rfl rfl false rfl) ?_
    simp only [Act.put, aS, aC, aZ]
    refine wpList_nil ?_
    go_upto_region 27 with fail
    refine wp_region_lit ?_
    refine wl rfl (.agg (rcells R vR).toArray) _ (run_loadA ag26 (.tmp 2) rfl q1 (0) rfl (rcells R vR) ((HC.out.rok HG.out)).len (RX.out.rows 0 rfl)) ?_
    simp only [Act.put, aS, aC, aZ]
    refine wl rfl (.agg (rcells R vw).toArray) _ (run_loadA ag26 (.tmp 7) rfl q2 (0) rfl (rcells R vw) ((show Rok R vw from ⟨HG.out.1.1, HG.out.1.2, H2.out.isSl⟩)).len (RX.out.rows 1 rfl)) ?_
    simp only [Act.put, aS, aC, aZ]
    refine wpList_callW eN13 [.tmp 214, .tmp 215] _ rfl rfl [(.agg (rcells R vR).toArray), (.agg (rcells R vw).toArray)] rfl ?_
    refine (same_yes R vR vw Y (HC.out.fit HG.out RX.out.below) (H2.out.fitR HG.out.1 HG.out.max)).mono ?_
    rintro e w18 ⟨rfl, b_⟩
    refine ⟨_, rfl, ?_⟩
    have HCx : Hid (CpAt w w18 vR R.cp) := HC.out.later b_
    clear HC
    have HC := HCx
    clear HCx
    have H2x : Hid (POwn w18 w.heap.size vw R.cp) := H2.out.later b_
    clear H2
    have H2 := H2x
    clear H2x
    have H3x : Hid (POwn w18 w.heap.size v3 rz.cp) := H3.out.later b_
    clear H3
    have H3 := H3x
    clear H3x
    have Rw18 : Hid (Loc w w18 [(q1, 26, rcells R vR), (q2, 26, rcells R vw), (q3, 26, rcells rz v3)]) := RX.out.later b_
    clear RX b_
    simp only [Act.put, aS, aC, aZ]
    refine wl rfl (.bool false) _ (run_not (.tmp 216) 4 rfl true rfl) ?_
    simp only [Act.put, aS, aC, aZ]
    refine wl rfl (.bool false) _ (run_mvZ (.tmp 217) rfl (.bool false) rfl) ?_
    simp only [Act.put, aS, aC, aZ]
    refine wl (by kernel_rfl) (.agg (rcells rz v3).toArray) _ (run_loadA ag26 (.tmp 9) rfl q3 (0) rfl (rcells rz v3) ((show Rok rz v3 from ⟨(Rg.zero).1.1, (Rg.zero).1.2, H3.out.isSl⟩)).len (Rw18.out.rows 2 rfl)) ?_
    simp only [Act.put, aS, aC, aZ]
    refine wl (by kernel_rfl) (.agg (rcells rz (.slice none 0 0)).toArray) _ (run_bld26 rfl) ?_
    simp only [Act.put, aS, aC, aZ]
    refine wpList_callW eN13 [.tmp 219, .tmp 220] _ (by kernel_rfl) rfl [(.agg (rcells rz v3).toArray), (.agg (rcells rz (.slice none 0 0)).toArray)] rfl ?_
    refine (same_yes rz v3 (.slice none 0 0) w18 (H3.out.fitR rz_root (by decide)) (Rok.nil.fits (PlIn.nil _))).mono ?_
    rintro e w19 ⟨rfl, b_⟩
    refine ⟨_, rfl, ?_⟩
    have HCx : Hid (CpAt w w19 vR R.cp) := HC.out.later b_
    clear HC
    have HC := HCx
    clear HCx
    have H2x : Hid (POwn w19 w.heap.size vw R.cp) := H2.out.later b_
    clear H2
    have H2 := H2x
    clear H2x
    have H3x : Hid (POwn w19 w.heap.size v3 rz.cp) := H3.out.later b_
    clear H3
    have H3 := H3x
    clear H3x
    have Rw19 : Hid (Loc w w19 [(q1, 26, rcells R vR), (q2, 26, rcells R vw), (q3, 26, rcells rz v3)]) := Rw18.out.later b_
    clear Rw18 b_
    simp only [Act.put, aS, aC, aZ]
    refine wl (by kernel_rfl) (.bool false) _ (run_not (.tmp 221) 4 rfl true rfl) ?_
    simp only [Act.put, aS, aC, aZ]
    refine wl rfl (.bool false) _ (run_pickZ (.tmp 218) (.const (.bool true)) (.tmp 222) rfl false (.bool false) rfl rfl) ?_
    simp only [Act.put, aS, aC, aZ]
    refine wl rfl (.bool false) _ (run_mvZ (.tmp 223) rfl (.bool false) rfl) ?_
    simp only [Act.put, aS, aC, aZ]
    refine wl (by kernel_rfl) (.pointer (some ⟨q2, 0 + 37, none⟩)) _ (run_fieldOp' f26_6 (.tmp 7) rfl q2 (0) rfl) ?_
    simp only [Act.put, aS, aC, aZ]
    refine wl (by kernel_rfl) (.bool false) _ (run_load1 o4 (.tmp 225) rfl q2 (0 + 37) rfl (.bool false) (Rw19.out.fld 1 rfl ((show Rok R vw from ⟨HG.out.1.1, HG.out.1.2, H2.out.isSl⟩)).root 3 _ (by rw [← HGo.out]; rfl))) ?_
    simp only [Act.put, aS, aC, aZ]
    refine wl (by kernel_rfl) (.bool false) _ (run_mvZ (.tmp 226) rfl (.bool false) rfl) ?_
    simp only [Act.put, aS, aC, aZ]
    with_reducible refine wpList_skip (by kernel_rfl) ?_
    simp only [Act.put, aS, aC, aZ]
    with_reducible refine wpList_skip (by kernel_rfl) ?_
    simp only [Act.put, aS, aC, aZ]
    refine wl (by kernel_rfl) (.bool false) _ (run_pickZ (.tmp 227) (.tmp 229) (.const (.bool false)) rfl false (.bool false) rfl rfl) ?_
    simp only [Act.put, aS, aC, aZ]
    refine wl (by kernel_rfl) (.bool false) _ (run_mvZ (.tmp 230) rfl (.bool false) rfl) ?_
    simp only [Act.put, aS, aC, aZ]
    with_reducible refine wpList_skip (by kernel_rfl) ?_
    simp only [Act.put, aS, aC, aZ]
    with_reducible refine wpList_skip (by kernel_rfl) ?_
    simp only [Act.put, aS, aC, aZ]
    refine wl (by kernel_rfl) (.bool false) _ (run_pickZ (.tmp 231) (.tmp 233) (.const (.bool false)) rfl false (.bool false) rfl rfl) ?_
    simp only [Act.put, aS, aC, aZ]
    refine wl rfl (.bool false) _ (run_pickZ (.tmp 224) (.const (.bool true)) (.tmp 234) rfl false (.bool false) rfl rfl) ?_
    simp only [Act.put, aS, aC, aZ]
    refine wpList_nil ?_
    go_upto_region 6 with fail
    refine wp_region_lit ?_
    refine wl rfl (.int .i64 (i : Nat)) _ (run_mvZ (.tmp 6) rfl (.int .i64 (i : Nat)) rfl) ?_
    simp only [Act.put, aS, aC, aZ]
    refine wl rfl (.int .i64 ((i + 1 : Nat))) _ (run_addI (.tmp 18) rfl i m hlt HF.out.2.2.2.1 rfl) ?_
    simp only [Act.put, aS, aC, aZ]
    refine wl rfl (.int .i64 ((i + 1 : Nat))) _ (run_asZ (.tmp 19) rfl (.int .i64 ((i + 1 : Nat))) rfl) ?_
    simp only [Act.put, aS, aC, aZ]
    refine wpList_nil ?_
    go_wp2_with fail
    exact ⟨⟨i + 1, rfl, by omega, ⟨R, vR, Rw19.out.take 1, HC.out, HG.out⟩⟩, by simp [intOf]; omega⟩
   have HYo : Hid (R.hold = false) := eq_false_of_ne_true hh
   by_cases hl : z < R.expiry
   ·as_aux_lemma =>
    have HSp : Hid (delS R z = (rz, 214)) := by rw [delS, refS, if_neg hg, if_neg hh, if_pos hl]; exact rfl
    have HLt : Hid (decide (R.expiry ≤ z) = false) := decide_eq_false (by omega)
    have HCl : Hid (∀ U, Fits U R vR → Calls Try.prog 17 #[.agg (rcells R vR).toArray, .int .i64 z] U fun e w' => ∃ v', e = .returned (.tuple #[.agg (rcells rz v').toArray, .int .i64 214]) ∧ Below U.heap.size U w' ∧ POwn w' U.heap.size v' rz.cp) := fun U h => by
     have h_ := delete_any R vR z U h (by have := HG.out.2; omega)
     rw [HSp.out] at h_
     exact h_
    go_upto_region 11 with fail
    refine wp_region_held (S := fun X => Loc w X [(q1, 26, rcells R vR), (q2, 26, rcells R vw)]) (by kernel_rfl) ?_
    show wpAnyH _ _ _ _ _ 12 (Array.replicate 12 false) _ _
    obtain ⟨X, hX⟩ : ∃ X : World, X = { w15 with drawn := w15.drawn + 1 } := ⟨_, rfl⟩
    rw [← hX]
    have RX : Hid (Loc w X [(q1, 26, rcells R vR), (q2, 26, rcells R vw), (q3, 26, rcells rz (.slice none 0 0))]) := by rw [hX]; exact Rw15.out.drew
    have HCx : Hid (CpAt w X vR R.cp) := by rw [hX]; exact HC.out.later (Below.drewN (Below.refl _ _) 1)
    have H2x : Hid (POwn X w.heap.size vw R.cp) := by rw [hX]; exact H2.out.later (Below.drewN (Below.refl _ _) 1)
    have RS : Hid (Loc w X [(q1, 26, rcells R vR), (q2, 26, rcells R vw)]) := RX.out.take 2
    clear HC
    have HC := HCx
    clear HCx
    clear H2
    have H2 := H2x
    clear H2x
    clear Rw15
    clear hX
    refine tH 0 30 rfl rfl (gRun rfl (.agg (rcells R vR).toArray) fun _ h => run_loadA ag26 (.tmp 2) rfl q1 (0) rfl (rcells R vR) ((HC.out.rok HG.out)).len (h.rows 0 rfl)) RS.out ?_
    simp only [Act.put, aS, aC, aZ]
    refine tH 1 31 rfl rfl (gRun rfl vl fun _ h => run_mvZ (.tmp 1) rfl vl rfl) RS.out ?_
    simp only [Act.put, aS, aC, aZ]
    refine tH 2 32 rfl rfl (gRun rfl (.int .i64 (i : Nat)) fun _ h => run_mvZ (.tmp 6) rfl (.int .i64 (i : Nat)) rfl) RS.out ?_
    simp only [Act.put, aS, aC, aZ]
    refine tH 3 33 rfl rfl (gRun rfl (.pointer (some ⟨b, o, none⟩)) fun _ h => run_idx (.tmp 31) (.tmp 32) rfl vl _ _ rfl rfl HOd.out.1) RS.out ?_
    simp only [Act.put, aS, aC, aZ]
    refine tH 4 34 rfl rfl (gRun rfl (.pointer (some ⟨b, o + 1, none⟩)) fun _ h => run_fieldOp' f44_1 (.tmp 33) rfl b (o) rfl) RS.out ?_
    simp only [Act.put, aS, aC, aZ]
    refine tH 5 35 rfl rfl (gRun rfl (.int .i64 z) fun _ h => run_load1 o3 (.tmp 34) rfl b (o + 1) rfl (.int .i64 z) (cell_later HOd.out.2.2 h.below)) RS.out ?_
    simp only [Act.put, aS, aC, aZ]
    refine oneH (i := 6) (by kernel_rfl) ?_
    refine opCallG (some 36) rfl rfl rfl 17 _ (run_call eN17 [.tmp 30, .tmp 35] _ rfl [(.agg (rcells R vR).toArray), (.int .i64 z)] rfl) ?_
    refine (HCl.out X (HC.out.fit HG.out RX.out.below)).mono ?_
    rintro e w16 ⟨v3, rfl, b_, o_⟩
    refine ⟨_, rfl, ?_⟩
    have RSx : Hid (Loc w w16 [(q1, 26, rcells R vR), (q2, 26, rcells R vw)]) := RS.out.later b_
    clear RS
    have RS := RSx
    clear RSx
    have HCx : Hid (CpAt w w16 vR R.cp) := HC.out.later b_
    clear HC
    have HC := HCx
    clear HCx
    have H2x : Hid (POwn w16 w.heap.size vw R.cp) := H2.out.later b_
    clear H2
    have H2 := H2x
    clear H2x
    have H3 : Hid (POwn w16 w.heap.size v3 rz.cp) := o_.weaken RX.out.below.size
    clear o_ HCl
    have Rw16 : Hid (Loc w w16 [(q1, 26, rcells R vR), (q2, 26, rcells R vw), (q3, 26, rcells rz (.slice none 0 0))]) := RX.out.later b_
    clear RX b_
    refine ⟨RS.out, ?_⟩
    simp only [Act.put, aS, aC, aZ]
    refine tH 7 29 rfl rfl (gRun rfl (.tuple #[(.agg (rcells rz v3).toArray), (.int .i64 214)]) fun _ h => run_mvZ (.tmp 36) rfl (.tuple #[(.agg (rcells rz v3).toArray), (.int .i64 214)]) rfl) RS.out ?_
    simp only [Act.put, aS, aC, aZ]
    refine tH 8 37 rfl rfl (gRun rfl (.agg (rcells rz v3).toArray) fun _ h => run_extZ (.tmp 29) 0 rfl #[(.agg (rcells rz v3).toArray), (.int .i64 214)] rfl (.agg (rcells rz v3).toArray) rfl) RS.out ?_
    simp only [Act.put, aS, aC, aZ]
    refine tH 9 38 rfl rfl (gRun rfl (.int .i64 214) fun _ h => run_extZ (.tmp 29) 1 rfl #[(.agg (rcells rz v3).toArray), (.int .i64 214)] rfl (.int .i64 214) rfl) RS.out ?_
    simp only [Act.put, aS, aC, aZ]
    obtain ⟨hst_, k_, hC_⟩ := Rw16.out.st26 2 rfl (Rok.nil).len (rcells rz v3) ((show Rok rz v3 from ⟨(Rg.zero).1.1, (Rg.zero).1.2, H3.out.isSl⟩)).len ((show Rok rz v3 from ⟨(Rg.zero).1.1, (Rg.zero).1.2, H3.out.isSl⟩)).one
    have hR_ := Rw16.out.at 2 rfl
    refine oneH (i := 10) (by kernel_rfl) ?_
    refine opSkipZ rfl rfl rfl _ (run_stV (.tmp 9) (.tmp 37) rfl q3 0 rfl _ rfl hst_) ?_
    obtain ⟨w17, hW_⟩ : ∃ U_ : World, U_ = w16.setRow q3 (rcells rz v3).toArray := ⟨_, rfl⟩
    rw [← hW_] at k_ hC_ ⊢
    clear hst_
    have HCx : Hid (CpAt w w17 vR R.cp) := HC.out.off hR_ (by decide) hC_
    clear HC
    have HC := HCx
    clear HCx
    have H2x : Hid (POwn w17 w.heap.size vw R.cp) := H2.out.off hR_ (by decide) hC_
    clear H2
    have H2 := H2x
    clear H2x
    have H3x : Hid (POwn w17 w.heap.size v3 rz.cp) := H3.out.off hR_ (by decide) hC_
    clear H3
    have H3 := H3x
    clear H3x
    have Rw17 : Hid (Loc w w17 [(q1, 26, rcells R vR), (q2, 26, rcells R vw), (q3, 26, rcells rz v3)]) := k_
    clear k_ hW_ Rw16
    clear hC_ hR_
    clear RS
    have RS : Hid (Loc w w17 [(q1, 26, rcells R vR), (q2, 26, rcells R vw)]) := Rw17.out.take 2
    refine ⟨RS.out, ?_⟩
    refine tH 11 8 rfl rfl (gRun rfl (.int .i64 214) fun _ h => run_asZ (.tmp 38) rfl (.int .i64 214) rfl) RS.out ?_
    simp only [Act.put, aS, aC, aZ]
    refine wpAnyH_done (by kernel_rfl) ?_ _
    clear RS
    go_upto_region 12 with fail
    refine wp_region_held (S := fun X => Loc w X [(q1, 26, rcells R vR), (q2, 26, rcells R vw), (q3, 26, rcells rz v3)]) (by kernel_rfl) ?_
    show wpAnyH _ _ _ _ _ 19 (Array.replicate 19 false) _ _
    obtain ⟨Y, hX⟩ : ∃ Y : World, Y = { w17 with drawn := w17.drawn + 1 } := ⟨_, rfl⟩
    rw [← hX]
    have RX : Hid (Loc w Y [(q1, 26, rcells R vR), (q2, 26, rcells R vw), (q3, 26, rcells rz v3)]) := by rw [hX]; exact Rw17.out.drew
    have HCx : Hid (CpAt w Y vR R.cp) := by rw [hX]; exact HC.out.later (Below.drewN (Below.refl _ _) 1)
    have H2x : Hid (POwn Y w.heap.size vw R.cp) := by rw [hX]; exact H2.out.later (Below.drewN (Below.refl _ _) 1)
    have H3x : Hid (POwn Y w.heap.size v3 rz.cp) := by rw [hX]; exact H3.out.later (Below.drewN (Below.refl _ _) 1)
    have RS : Hid (Loc w Y [(q1, 26, rcells R vR), (q2, 26, rcells R vw), (q3, 26, rcells rz v3)]) := RX.out
    clear HC
    have HC := HCx
    clear HCx
    clear H2
    have H2 := H2x
    clear H2x
    clear H3
    have H3 := H3x
    clear H3x
    clear Rw17
    clear hX
    refine tH 0 39 rfl rfl (gRun rfl (.pointer (some ⟨q2, 0 + 37, none⟩)) fun _ h => run_fieldOp' f26_6 (.tmp 7) rfl q2 (0) rfl) RS.out ?_
    simp only [Act.put, aS, aC, aZ]
    refine tH 1 40 rfl rfl (gRun rfl (.bool false) fun _ h => run_load1 o4 (.tmp 39) rfl q2 (0 + 37) rfl (.bool false) (h.fld 1 rfl ((show Rok R vw from ⟨HG.out.1.1, HG.out.1.2, H2.out.isSl⟩)).root 3 _ (by rw [← HGo.out]; rfl))) RS.out ?_
    simp only [Act.put, aS, aC, aZ]
    refine tH 2 41 rfl rfl (gRun rfl (.bool true) fun _ h => run_not (.tmp 40) 4 rfl false rfl) RS.out ?_
    simp only [Act.put, aS, aC, aZ]
    refine tH 3 42 rfl rfl (gRun rfl (.bool true) fun _ h => run_mvZ (.tmp 41) rfl (.bool true) rfl) RS.out ?_
    simp only [Act.put, aS, aC, aZ]
    refine tH 4 43 rfl rfl (gRun (by kernel_rfl) (.pointer (some ⟨q2, 0 + 36, none⟩)) fun _ h => run_fieldOp' f26_5 (.tmp 7) rfl q2 (0) rfl) RS.out ?_
    simp only [Act.put, aS, aC, aZ]
    refine tH 5 44 rfl rfl (gRun (by kernel_rfl) (.bool false) fun _ h => run_load1 o4 (.tmp 43) rfl q2 (0 + 36) rfl (.bool false) (h.fld 1 rfl ((show Rok R vw from ⟨HG.out.1.1, HG.out.1.2, H2.out.isSl⟩)).root 2 _ (by rw [← HYo.out]; rfl))) RS.out ?_
    simp only [Act.put, aS, aC, aZ]
    refine tH 6 45 rfl rfl (gRun (by kernel_rfl) (.bool true) fun _ h => run_not (.tmp 44) 4 rfl false rfl) RS.out ?_
    simp only [Act.put, aS, aC, aZ]
    refine tH 7 46 rfl rfl (gRun rfl (.bool true) fun _ h => run_pickZ (.tmp 42) (.tmp 45) (.const (.bool false)) rfl true (.bool true) rfl rfl) RS.out ?_
    simp only [Act.put, aS, aC, aZ]
    refine tH 8 47 rfl rfl (gRun rfl (.bool true) fun _ h => run_mvZ (.tmp 46) rfl (.bool true) rfl) RS.out ?_
    simp only [Act.put, aS, aC, aZ]
    refine tH 9 48 rfl rfl (gRun (by kernel_rfl) (.pointer (some ⟨q2, 0 + 35, none⟩)) fun _ h => run_fieldOp' f26_4 (.tmp 7) rfl q2 (0) rfl) RS.out ?_
    simp only [Act.put, aS, aC, aZ]
    refine tH 10 49 rfl rfl (gRun (by kernel_rfl) (.int .i64 R.expiry) fun _ h => run_load1 o3 (.tmp 48) rfl q2 (0 + 35) rfl (.int .i64 R.expiry) (h.fld 1 rfl ((show Rok R vw from ⟨HG.out.1.1, HG.out.1.2, H2.out.isSl⟩)).root 1 _ rfl)) RS.out ?_
    simp only [Act.put, aS, aC, aZ]
    refine tH 11 50 rfl rfl (gRun (by kernel_rfl) vl fun _ h => run_mvZ (.tmp 1) rfl vl rfl) RS.out ?_
    simp only [Act.put, aS, aC, aZ]
    refine tH 12 51 rfl rfl (gRun (by kernel_rfl) (.int .i64 (i : Nat)) fun _ h => run_mvZ (.tmp 6) rfl (.int .i64 (i : Nat)) rfl) RS.out ?_
    simp only [Act.put, aS, aC, aZ]
    refine tH 13 52 rfl rfl (gRun (by kernel_rfl) (.pointer (some ⟨b, o, none⟩)) fun _ h => run_idx (.tmp 50) (.tmp 51) rfl vl _ _ rfl rfl HOd.out.1) RS.out ?_
    simp only [Act.put, aS, aC, aZ]
    refine tH 14 53 rfl rfl (gRun (by kernel_rfl) (.pointer (some ⟨b, o + 1, none⟩)) fun _ h => run_fieldOp' f44_1 (.tmp 52) rfl b (o) rfl) RS.out ?_
    simp only [Act.put, aS, aC, aZ]
    refine tH 15 54 rfl rfl (gRun (by kernel_rfl) (.int .i64 z) fun _ h => run_load1 o3 (.tmp 53) rfl b (o + 1) rfl (.int .i64 z) (cell_later HOd.out.2.2 h.below)) RS.out ?_
    simp only [Act.put, aS, aC, aZ]
    refine tH 16 55 rfl rfl (gRun (by kernel_rfl) (.bool false) fun _ h => run_leqZ (.tmp 49) (.tmp 54) rfl R.expiry z rfl rfl false HLt.out) RS.out ?_
    simp only [Act.put, aS, aC, aZ]
    refine tH 17 56 rfl rfl (gRun rfl (.bool false) fun _ h => run_pickZ (.tmp 47) (.tmp 55) (.const (.bool false)) rfl true (.bool false) rfl rfl) RS.out ?_
    simp only [Act.put, aS, aC, aZ]
    refine tH 18 10 rfl rfl (gRun rfl (.bool false) fun _ h => run_asZ (.tmp 56) rfl (.bool false) rfl) RS.out ?_
    simp only [Act.put, aS, aC, aZ]
    refine wpAnyH_done (by kernel_rfl) ?_ _
    clear RS
    go_upto_region 13 with fail
    refine wp_region_lit ?_
    refine wl rfl (.bool false) _ (run_mvZ (.tmp 10) rfl (.bool false) rfl) ?_
    simp only [Act.put, aS, aC, aZ]
    refine wl rfl (.int .i64 214) _ (run_mvZ (.tmp 8) rfl (.int .i64 214) rfl) ?_
    simp only [Act.put, aS, aC, aZ]
    refine wl rfl (.bool false) _ (run_eqZ (.tmp 58) (.const (.int .i64 0)) rfl (214) (0) rfl rfl false rfl) ?_
    simp only [Act.put, aS, aC, aZ]
    refine wl rfl (.bool false) _ (run_neBB (.tmp 57) (.tmp 59) rfl false rfl rfl) ?_
    simp only [Act.put, aS, aC, aZ]
    refine wl rfl (.bool false) _ (run_mvZ (.tmp 60) rfl (.bool false) rfl) ?_
    simp only [Act.put, aS, aC, aZ]
    refine wl (by kernel_rfl) (.int .i64 214) _ (run_mvZ (.tmp 8) rfl (.int .i64 214) rfl) ?_
    simp only [Act.put, aS, aC, aZ]
    refine wl (by kernel_rfl) (.bool false) _ (run_eqZ (.tmp 62) (.const (.int .i64 0)) rfl (214) (0) rfl rfl false rfl) ?_
    simp only [Act.put, aS, aC, aZ]
    refine wl (by kernel_rfl) (.bool false) _ (run_mvZ (.tmp 63) rfl (.bool false) rfl) ?_
    simp only [Act.put, aS, aC, aZ]
    with_reducible refine wpList_skip (by kernel_rfl) ?_
    simp only [Act.put, aS, aC, aZ]
    with_reducible refine wpList_skip (by kernel_rfl) ?_
    simp only [Act.put, aS, aC, aZ]
    with_reducible refine wpList_skip (by kernel_rfl) ?_
    simp only [Act.put, aS, aC, aZ]
    with_reducible refine wpList_skip (by kernel_rfl) ?_
    simp only [Act.put, aS, aC, aZ]
    with_reducible refine wpList_skip (by kernel_rfl) ?_
    simp only [Act.put, aS, aC, aZ]
    with_reducible refine wpList_skip (by kernel_rfl) ?_
    simp only [Act.put, aS, aC, aZ]
    with_reducible refine wpList_skip (by kernel_rfl) ?_
    simp only [Act.put, aS, aC, aZ]
    with_reducible refine wpList_skip (by kernel_rfl) ?_
    simp only [Act.put, aS, aC, aZ]
    with_reducible refine wpList_skip (by kernel_rfl) ?_
    simp only [Act.put, aS, aC, aZ]
    with_reducible refine wpList_skip (by kernel_rfl) ?_
    simp only [Act.put, aS, aC, aZ]
    with_reducible refine wpList_skip (by kernel_rfl) ?_
    simp only [Act.put, aS, aC, aZ]
    with_reducible refine wpList_skip (by kernel_rfl) ?_
    simp only [Act.put, aS, aC, aZ]
    with_reducible refine wpList_skip (by kernel_rfl) ?_
    simp only [Act.put, aS, aC, aZ]
    with_reducible refine wpList_skip (by kernel_rfl) ?_
    simp only [Act.put, aS, aC, aZ]
    with_reducible refine wpList_skip (by kernel_rfl) ?_
    simp only [Act.put, aS, aC, aZ]
    with_reducible refine wpList_skip (by kernel_rfl) ?_
    simp only [Act.put, aS, aC, aZ]
    refine wl (by kernel_rfl) (.bool false) _ (run_pickZ (.tmp 64) (.tmp 80) (.const (.bool false)) rfl false (.bool false) rfl rfl) ?_
    simp only [Act.put, aS, aC, aZ]
    refine wl rfl (.bool false) _ (run_pickZ (.tmp 61) (.const (.bool true)) (.tmp 81) rfl false (.bool false) rfl rfl) ?_
    simp only [Act.put, aS, aC, aZ]
    refine wpList_nil ?_
    go_upto_region 23 with fail
    refine wp_region_lit ?_
    refine wl rfl (.int .i64 214) _ (run_mvZ (.tmp 8) rfl (.int .i64 214) rfl) ?_
    simp only [Act.put, aS, aC, aZ]
    refine wl rfl (.bool false) _ (run_eqZ (.tmp 181) (.const (.int .i64 0)) rfl (214) (0) rfl rfl false rfl) ?_
    simp only [Act.put, aS, aC, aZ]
    refine wpList_nil ?_
    go_upto_region 27 with fail
    refine wp_region_lit ?_
    refine wl rfl (.agg (rcells R vR).toArray) _ (run_loadA ag26 (.tmp 2) rfl q1 (0) rfl (rcells R vR) ((HC.out.rok HG.out)).len (RX.out.rows 0 rfl)) ?_
    simp only [Act.put, aS, aC, aZ]
    refine wl rfl (.agg (rcells R vw).toArray) _ (run_loadA ag26 (.tmp 7) rfl q2 (0) rfl (rcells R vw) ((show Rok R vw from ⟨HG.out.1.1, HG.out.1.2, H2.out.isSl⟩)).len (RX.out.rows 1 rfl)) ?_
    simp only [Act.put, aS, aC, aZ]
    refine wpList_callW eN13 [.tmp 214, .tmp 215] _ rfl rfl [(.agg (rcells R vR).toArray), (.agg (rcells R vw).toArray)] rfl ?_
    refine (same_yes R vR vw Y (HC.out.fit HG.out RX.out.below) (H2.out.fitR HG.out.1 HG.out.max)).mono ?_
    rintro e w18 ⟨rfl, b_⟩
    refine ⟨_, rfl, ?_⟩
    have HCx : Hid (CpAt w w18 vR R.cp) := HC.out.later b_
    clear HC
    have HC := HCx
    clear HCx
    have H2x : Hid (POwn w18 w.heap.size vw R.cp) := H2.out.later b_
    clear H2
    have H2 := H2x
    clear H2x
    have H3x : Hid (POwn w18 w.heap.size v3 rz.cp) := H3.out.later b_
    clear H3
    have H3 := H3x
    clear H3x
    have Rw18 : Hid (Loc w w18 [(q1, 26, rcells R vR), (q2, 26, rcells R vw), (q3, 26, rcells rz v3)]) := RX.out.later b_
    clear RX b_
    simp only [Act.put, aS, aC, aZ]
    refine wl rfl (.bool false) _ (run_not (.tmp 216) 4 rfl true rfl) ?_
    simp only [Act.put, aS, aC, aZ]
    refine wl rfl (.bool false) _ (run_mvZ (.tmp 217) rfl (.bool false) rfl) ?_
    simp only [Act.put, aS, aC, aZ]
    refine wl (by kernel_rfl) (.agg (rcells rz v3).toArray) _ (run_loadA ag26 (.tmp 9) rfl q3 (0) rfl (rcells rz v3) ((show Rok rz v3 from ⟨(Rg.zero).1.1, (Rg.zero).1.2, H3.out.isSl⟩)).len (Rw18.out.rows 2 rfl)) ?_
    simp only [Act.put, aS, aC, aZ]
    refine wl (by kernel_rfl) (.agg (rcells rz (.slice none 0 0)).toArray) _ (run_bld26 rfl) ?_
    simp only [Act.put, aS, aC, aZ]
    refine wpList_callW eN13 [.tmp 219, .tmp 220] _ (by kernel_rfl) rfl [(.agg (rcells rz v3).toArray), (.agg (rcells rz (.slice none 0 0)).toArray)] rfl ?_
    refine (same_yes rz v3 (.slice none 0 0) w18 (H3.out.fitR rz_root (by decide)) (Rok.nil.fits (PlIn.nil _))).mono ?_
    rintro e w19 ⟨rfl, b_⟩
    refine ⟨_, rfl, ?_⟩
    have HCx : Hid (CpAt w w19 vR R.cp) := HC.out.later b_
    clear HC
    have HC := HCx
    clear HCx
    have H2x : Hid (POwn w19 w.heap.size vw R.cp) := H2.out.later b_
    clear H2
    have H2 := H2x
    clear H2x
    have H3x : Hid (POwn w19 w.heap.size v3 rz.cp) := H3.out.later b_
    clear H3
    have H3 := H3x
    clear H3x
    have Rw19 : Hid (Loc w w19 [(q1, 26, rcells R vR), (q2, 26, rcells R vw), (q3, 26, rcells rz v3)]) := Rw18.out.later b_
    clear Rw18 b_
    simp only [Act.put, aS, aC, aZ]
    refine wl (by kernel_rfl) (.bool false) _ (run_not (.tmp 221) 4 rfl true rfl) ?_
    simp only [Act.put, aS, aC, aZ]
    refine wl rfl (.bool false) _ (run_pickZ (.tmp 218) (.const (.bool true)) (.tmp 222) rfl false (.bool false) rfl rfl) ?_
    simp only [Act.put, aS, aC, aZ]
    refine wl rfl (.bool false) _ (run_mvZ (.tmp 223) rfl (.bool false) rfl) ?_
    simp only [Act.put, aS, aC, aZ]
    refine wl (by kernel_rfl) (.pointer (some ⟨q2, 0 + 37, none⟩)) _ (run_fieldOp' f26_6 (.tmp 7) rfl q2 (0) rfl) ?_
    simp only [Act.put, aS, aC, aZ]
    refine wl (by kernel_rfl) (.bool false) _ (run_load1 o4 (.tmp 225) rfl q2 (0 + 37) rfl (.bool false) (Rw19.out.fld 1 rfl ((show Rok R vw from ⟨HG.out.1.1, HG.out.1.2, H2.out.isSl⟩)).root 3 _ (by rw [← HGo.out]; rfl))) ?_
    simp only [Act.put, aS, aC, aZ]
    refine wl (by kernel_rfl) (.bool false) _ (run_mvZ (.tmp 226) rfl (.bool false) rfl) ?_
    simp only [Act.put, aS, aC, aZ]
    with_reducible refine wpList_skip (by kernel_rfl) ?_
    simp only [Act.put, aS, aC, aZ]
    with_reducible refine wpList_skip (by kernel_rfl) ?_
    simp only [Act.put, aS, aC, aZ]
    refine wl (by kernel_rfl) (.bool false) _ (run_pickZ (.tmp 227) (.tmp 229) (.const (.bool false)) rfl false (.bool false) rfl rfl) ?_
    simp only [Act.put, aS, aC, aZ]
    refine wl (by kernel_rfl) (.bool false) _ (run_mvZ (.tmp 230) rfl (.bool false) rfl) ?_
    simp only [Act.put, aS, aC, aZ]
    with_reducible refine wpList_skip (by kernel_rfl) ?_
    simp only [Act.put, aS, aC, aZ]
    with_reducible refine wpList_skip (by kernel_rfl) ?_
    simp only [Act.put, aS, aC, aZ]
    refine wl (by kernel_rfl) (.bool false) _ (run_pickZ (.tmp 231) (.tmp 233) (.const (.bool false)) rfl false (.bool false) rfl rfl) ?_
    simp only [Act.put, aS, aC, aZ]
    refine wl rfl (.bool false) _ (run_pickZ (.tmp 224) (.const (.bool true)) (.tmp 234) rfl false (.bool false) rfl rfl) ?_
    simp only [Act.put, aS, aC, aZ]
    refine wpList_nil ?_
    go_upto_region 6 with fail
    refine wp_region_lit ?_
    refine wl rfl (.int .i64 (i : Nat)) _ (run_mvZ (.tmp 6) rfl (.int .i64 (i : Nat)) rfl) ?_
    simp only [Act.put, aS, aC, aZ]
    refine wl rfl (.int .i64 ((i + 1 : Nat))) _ (run_addI (.tmp 18) rfl i m hlt HF.out.2.2.2.1 rfl) ?_
    simp only [Act.put, aS, aC, aZ]
    refine wl rfl (.int .i64 ((i + 1 : Nat))) _ (run_asZ (.tmp 19) rfl (.int .i64 ((i + 1 : Nat))) rfl) ?_
    simp only [Act.put, aS, aC, aZ]
    refine wpList_nil ?_
    go_wp2_with fail
    exact ⟨⟨i + 1, rfl, by omega, ⟨R, vR, Rw19.out.take 1, HC.out, HG.out⟩⟩, by simp [intOf]; omega⟩
   have HSp : Hid (delS R z = ((aDel R), 0)) := by rw [delS, refS, if_neg hg, if_neg hh, if_neg hl]; exact rfl
   have HLt : Hid (decide (R.expiry ≤ z) = true) := decide_eq_true (by omega)
   ·as_aux_lemma =>
    have HCl : Hid (∀ U, Fits U R vR → Calls Try.prog 17 #[.agg (rcells R vR).toArray, .int .i64 z] U fun e w' => ∃ v', e = .returned (.tuple #[.agg (rcells (aDel R) v').toArray, .int .i64 0]) ∧ Below U.heap.size U w' ∧ POwn w' U.heap.size v' (aDel R).cp) := fun U h => by
     have h_ := delete_any R vR z U h (by have := HG.out.2; omega)
     rw [HSp.out] at h_
     exact h_
    go_upto_region 11 with fail
    refine wp_region_held (S := fun X => Loc w X [(q1, 26, rcells R vR), (q2, 26, rcells R vw)]) (by kernel_rfl) ?_
    show wpAnyH _ _ _ _ _ 12 (Array.replicate 12 false) _ _
    obtain ⟨X, hX⟩ : ∃ X : World, X = { w15 with drawn := w15.drawn + 1 } := ⟨_, rfl⟩
    rw [← hX]
    have RX : Hid (Loc w X [(q1, 26, rcells R vR), (q2, 26, rcells R vw), (q3, 26, rcells rz (.slice none 0 0))]) := by rw [hX]; exact Rw15.out.drew
    have HCx : Hid (CpAt w X vR R.cp) := by rw [hX]; exact HC.out.later (Below.drewN (Below.refl _ _) 1)
    have H2x : Hid (POwn X w.heap.size vw R.cp) := by rw [hX]; exact H2.out.later (Below.drewN (Below.refl _ _) 1)
    have RS : Hid (Loc w X [(q1, 26, rcells R vR), (q2, 26, rcells R vw)]) := RX.out.take 2
    clear HC
    have HC := HCx
    clear HCx
    clear H2
    have H2 := H2x
    clear H2x
    clear Rw15
    clear hX
    refine tH 0 30 rfl rfl (gRun rfl (.agg (rcells R vR).toArray) fun _ h => run_loadA ag26 (.tmp 2) rfl q1 (0) rfl (rcells R vR) ((HC.out.rok HG.out)).len (h.rows 0 rfl)) RS.out ?_
    simp only [Act.put, aS, aC, aZ]
    refine tH 1 31 rfl rfl (gRun rfl vl fun _ h => run_mvZ (.tmp 1) rfl vl rfl) RS.out ?_
    simp only [Act.put, aS, aC, aZ]
    refine tH 2 32 rfl rfl (gRun rfl (.int .i64 (i : Nat)) fun _ h => run_mvZ (.tmp 6) rfl (.int .i64 (i : Nat)) rfl) RS.out ?_
    simp only [Act.put, aS, aC, aZ]
    refine tH 3 33 rfl rfl (gRun rfl (.pointer (some ⟨b, o, none⟩)) fun _ h => run_idx (.tmp 31) (.tmp 32) rfl vl _ _ rfl rfl HOd.out.1) RS.out ?_
    simp only [Act.put, aS, aC, aZ]
    refine tH 4 34 rfl rfl (gRun rfl (.pointer (some ⟨b, o + 1, none⟩)) fun _ h => run_fieldOp' f44_1 (.tmp 33) rfl b (o) rfl) RS.out ?_
    simp only [Act.put, aS, aC, aZ]
    refine tH 5 35 rfl rfl (gRun rfl (.int .i64 z) fun _ h => run_load1 o3 (.tmp 34) rfl b (o + 1) rfl (.int .i64 z) (cell_later HOd.out.2.2 h.below)) RS.out ?_
    simp only [Act.put, aS, aC, aZ]
    refine oneH (i := 6) (by kernel_rfl) ?_
    refine opCallG (some 36) rfl rfl rfl 17 _ (run_call eN17 [.tmp 30, .tmp 35] _ rfl [(.agg (rcells R vR).toArray), (.int .i64 z)] rfl) ?_
    refine (HCl.out X (HC.out.fit HG.out RX.out.below)).mono ?_
    rintro e w16 ⟨v3, rfl, b_, o_⟩
    refine ⟨_, rfl, ?_⟩
    have RSx : Hid (Loc w w16 [(q1, 26, rcells R vR), (q2, 26, rcells R vw)]) := RS.out.later b_
    clear RS
    have RS := RSx
    clear RSx
    have HCx : Hid (CpAt w w16 vR R.cp) := HC.out.later b_
    clear HC
    have HC := HCx
    clear HCx
    have H2x : Hid (POwn w16 w.heap.size vw R.cp) := H2.out.later b_
    clear H2
    have H2 := H2x
    clear H2x
    have H3 : Hid (POwn w16 w.heap.size v3 (aDel R).cp) := o_.weaken RX.out.below.size
    clear o_ HCl
    have Rw16 : Hid (Loc w w16 [(q1, 26, rcells R vR), (q2, 26, rcells R vw), (q3, 26, rcells rz (.slice none 0 0))]) := RX.out.later b_
    clear RX b_
    refine ⟨RS.out, ?_⟩
    simp only [Act.put, aS, aC, aZ]
    refine tH 7 29 rfl rfl (gRun rfl (.tuple #[(.agg (rcells (aDel R) v3).toArray), (.int .i64 0)]) fun _ h => run_mvZ (.tmp 36) rfl (.tuple #[(.agg (rcells (aDel R) v3).toArray), (.int .i64 0)]) rfl) RS.out ?_
    simp only [Act.put, aS, aC, aZ]
    refine tH 8 37 rfl rfl (gRun rfl (.agg (rcells (aDel R) v3).toArray) fun _ h => run_extZ (.tmp 29) 0 rfl #[(.agg (rcells (aDel R) v3).toArray), (.int .i64 0)] rfl (.agg (rcells (aDel R) v3).toArray) rfl) RS.out ?_
    simp only [Act.put, aS, aC, aZ]
    refine tH 9 38 rfl rfl (gRun rfl (.int .i64 0) fun _ h => run_extZ (.tmp 29) 1 rfl #[(.agg (rcells (aDel R) v3).toArray), (.int .i64 0)] rfl (.int .i64 0) rfl) RS.out ?_
    simp only [Act.put, aS, aC, aZ]
    obtain ⟨hst_, k_, hC_⟩ := Rw16.out.st26 2 rfl (Rok.nil).len (rcells (aDel R) v3) ((show Rok (aDel R) v3 from ⟨(HG.out.del).1.1, (HG.out.del).1.2, H3.out.isSl⟩)).len ((show Rok (aDel R) v3 from ⟨(HG.out.del).1.1, (HG.out.del).1.2, H3.out.isSl⟩)).one
    have hR_ := Rw16.out.at 2 rfl
    refine oneH (i := 10) (by kernel_rfl) ?_
    refine opSkipZ rfl rfl rfl _ (run_stV (.tmp 9) (.tmp 37) rfl q3 0 rfl _ rfl hst_) ?_
    obtain ⟨w17, hW_⟩ : ∃ U_ : World, U_ = w16.setRow q3 (rcells (aDel R) v3).toArray := ⟨_, rfl⟩
    rw [← hW_] at k_ hC_ ⊢
    clear hst_
    have HCx : Hid (CpAt w w17 vR R.cp) := HC.out.off hR_ (by decide) hC_
    clear HC
    have HC := HCx
    clear HCx
    have H2x : Hid (POwn w17 w.heap.size vw R.cp) := H2.out.off hR_ (by decide) hC_
    clear H2
    have H2 := H2x
    clear H2x
    have H3x : Hid (POwn w17 w.heap.size v3 (aDel R).cp) := H3.out.off hR_ (by decide) hC_
    clear H3
    have H3 := H3x
    clear H3x
    have Rw17 : Hid (Loc w w17 [(q1, 26, rcells R vR), (q2, 26, rcells R vw), (q3, 26, rcells (aDel R) v3)]) := k_
    clear k_ hW_ Rw16
    clear hC_ hR_
    clear RS
    have RS : Hid (Loc w w17 [(q1, 26, rcells R vR), (q2, 26, rcells R vw)]) := Rw17.out.take 2
    refine ⟨RS.out, ?_⟩
    refine tH 11 8 rfl rfl (gRun rfl (.int .i64 0) fun _ h => run_asZ (.tmp 38) rfl (.int .i64 0) rfl) RS.out ?_
    simp only [Act.put, aS, aC, aZ]
    refine wpAnyH_done (by kernel_rfl) ?_ _
    clear RS
    go_upto_region 12 with fail
    refine wp_region_held (S := fun X => Loc w X [(q1, 26, rcells R vR), (q2, 26, rcells R vw), (q3, 26, rcells (aDel R) v3)]) (by kernel_rfl) ?_
    show wpAnyH _ _ _ _ _ 19 (Array.replicate 19 false) _ _
    obtain ⟨Y, hX⟩ : ∃ Y : World, Y = { w17 with drawn := w17.drawn + 1 } := ⟨_, rfl⟩
    rw [← hX]
    have RX : Hid (Loc w Y [(q1, 26, rcells R vR), (q2, 26, rcells R vw), (q3, 26, rcells (aDel R) v3)]) := by rw [hX]; exact Rw17.out.drew
    have HCx : Hid (CpAt w Y vR R.cp) := by rw [hX]; exact HC.out.later (Below.drewN (Below.refl _ _) 1)
    have H2x : Hid (POwn Y w.heap.size vw R.cp) := by rw [hX]; exact H2.out.later (Below.drewN (Below.refl _ _) 1)
    have H3x : Hid (POwn Y w.heap.size v3 (aDel R).cp) := by rw [hX]; exact H3.out.later (Below.drewN (Below.refl _ _) 1)
    have RS : Hid (Loc w Y [(q1, 26, rcells R vR), (q2, 26, rcells R vw), (q3, 26, rcells (aDel R) v3)]) := RX.out
    clear HC
    have HC := HCx
    clear HCx
    clear H2
    have H2 := H2x
    clear H2x
    clear H3
    have H3 := H3x
    clear H3x
    clear Rw17
    clear hX
    refine tH 0 39 rfl rfl (gRun rfl (.pointer (some ⟨q2, 0 + 37, none⟩)) fun _ h => run_fieldOp' f26_6 (.tmp 7) rfl q2 (0) rfl) RS.out ?_
    simp only [Act.put, aS, aC, aZ]
    refine tH 1 40 rfl rfl (gRun rfl (.bool false) fun _ h => run_load1 o4 (.tmp 39) rfl q2 (0 + 37) rfl (.bool false) (h.fld 1 rfl ((show Rok R vw from ⟨HG.out.1.1, HG.out.1.2, H2.out.isSl⟩)).root 3 _ (by rw [← HGo.out]; rfl))) RS.out ?_
    simp only [Act.put, aS, aC, aZ]
    refine tH 2 41 rfl rfl (gRun rfl (.bool true) fun _ h => run_not (.tmp 40) 4 rfl false rfl) RS.out ?_
    simp only [Act.put, aS, aC, aZ]
    refine tH 3 42 rfl rfl (gRun rfl (.bool true) fun _ h => run_mvZ (.tmp 41) rfl (.bool true) rfl) RS.out ?_
    simp only [Act.put, aS, aC, aZ]
    refine tH 4 43 rfl rfl (gRun (by kernel_rfl) (.pointer (some ⟨q2, 0 + 36, none⟩)) fun _ h => run_fieldOp' f26_5 (.tmp 7) rfl q2 (0) rfl) RS.out ?_
    simp only [Act.put, aS, aC, aZ]
    refine tH 5 44 rfl rfl (gRun (by kernel_rfl) (.bool false) fun _ h => run_load1 o4 (.tmp 43) rfl q2 (0 + 36) rfl (.bool false) (h.fld 1 rfl ((show Rok R vw from ⟨HG.out.1.1, HG.out.1.2, H2.out.isSl⟩)).root 2 _ (by rw [← HYo.out]; rfl))) RS.out ?_
    simp only [Act.put, aS, aC, aZ]
    refine tH 6 45 rfl rfl (gRun (by kernel_rfl) (.bool true) fun _ h => run_not (.tmp 44) 4 rfl false rfl) RS.out ?_
    simp only [Act.put, aS, aC, aZ]
    refine tH 7 46 rfl rfl (gRun rfl (.bool true) fun _ h => run_pickZ (.tmp 42) (.tmp 45) (.const (.bool false)) rfl true (.bool true) rfl rfl) RS.out ?_
    simp only [Act.put, aS, aC, aZ]
    refine tH 8 47 rfl rfl (gRun rfl (.bool true) fun _ h => run_mvZ (.tmp 46) rfl (.bool true) rfl) RS.out ?_
    simp only [Act.put, aS, aC, aZ]
    refine tH 9 48 rfl rfl (gRun (by kernel_rfl) (.pointer (some ⟨q2, 0 + 35, none⟩)) fun _ h => run_fieldOp' f26_4 (.tmp 7) rfl q2 (0) rfl) RS.out ?_
    simp only [Act.put, aS, aC, aZ]
    refine tH 10 49 rfl rfl (gRun (by kernel_rfl) (.int .i64 R.expiry) fun _ h => run_load1 o3 (.tmp 48) rfl q2 (0 + 35) rfl (.int .i64 R.expiry) (h.fld 1 rfl ((show Rok R vw from ⟨HG.out.1.1, HG.out.1.2, H2.out.isSl⟩)).root 1 _ rfl)) RS.out ?_
    simp only [Act.put, aS, aC, aZ]
    refine tH 11 50 rfl rfl (gRun (by kernel_rfl) vl fun _ h => run_mvZ (.tmp 1) rfl vl rfl) RS.out ?_
    simp only [Act.put, aS, aC, aZ]
    refine tH 12 51 rfl rfl (gRun (by kernel_rfl) (.int .i64 (i : Nat)) fun _ h => run_mvZ (.tmp 6) rfl (.int .i64 (i : Nat)) rfl) RS.out ?_
    simp only [Act.put, aS, aC, aZ]
    refine tH 13 52 rfl rfl (gRun (by kernel_rfl) (.pointer (some ⟨b, o, none⟩)) fun _ h => run_idx (.tmp 50) (.tmp 51) rfl vl _ _ rfl rfl HOd.out.1) RS.out ?_
    simp only [Act.put, aS, aC, aZ]
    refine tH 14 53 rfl rfl (gRun (by kernel_rfl) (.pointer (some ⟨b, o + 1, none⟩)) fun _ h => run_fieldOp' f44_1 (.tmp 52) rfl b (o) rfl) RS.out ?_
    simp only [Act.put, aS, aC, aZ]
    refine tH 15 54 rfl rfl (gRun (by kernel_rfl) (.int .i64 z) fun _ h => run_load1 o3 (.tmp 53) rfl b (o + 1) rfl (.int .i64 z) (cell_later HOd.out.2.2 h.below)) RS.out ?_
    simp only [Act.put, aS, aC, aZ]
    refine tH 16 55 rfl rfl (gRun (by kernel_rfl) (.bool true) fun _ h => run_leqZ (.tmp 49) (.tmp 54) rfl R.expiry z rfl rfl true HLt.out) RS.out ?_
    simp only [Act.put, aS, aC, aZ]
    refine tH 17 56 rfl rfl (gRun rfl (.bool true) fun _ h => run_pickZ (.tmp 47) (.tmp 55) (.const (.bool false)) rfl true (.bool true) rfl rfl) RS.out ?_
    simp only [Act.put, aS, aC, aZ]
    refine tH 18 10 rfl rfl (gRun rfl (.bool true) fun _ h => run_asZ (.tmp 56) rfl (.bool true) rfl) RS.out ?_
    simp only [Act.put, aS, aC, aZ]
    refine wpAnyH_done (by kernel_rfl) ?_ _
    clear RS
    go_upto_region 13 with fail
    refine wp_region_lit ?_
    refine wl rfl (.bool true) _ (run_mvZ (.tmp 10) rfl (.bool true) rfl) ?_
    simp only [Act.put, aS, aC, aZ]
    refine wl rfl (.int .i64 0) _ (run_mvZ (.tmp 8) rfl (.int .i64 0) rfl) ?_
    simp only [Act.put, aS, aC, aZ]
    refine wl rfl (.bool true) _ (run_eqZ (.tmp 58) (.const (.int .i64 0)) rfl (0) (0) rfl rfl true rfl) ?_
    simp only [Act.put, aS, aC, aZ]
    refine wl rfl (.bool false) _ (run_neBB (.tmp 57) (.tmp 59) rfl true rfl rfl) ?_
    simp only [Act.put, aS, aC, aZ]
    refine wl rfl (.bool false) _ (run_mvZ (.tmp 60) rfl (.bool false) rfl) ?_
    simp only [Act.put, aS, aC, aZ]
    refine wl (by kernel_rfl) (.int .i64 0) _ (run_mvZ (.tmp 8) rfl (.int .i64 0) rfl) ?_
    simp only [Act.put, aS, aC, aZ]
    refine wl (by kernel_rfl) (.bool true) _ (run_eqZ (.tmp 62) (.const (.int .i64 0)) rfl (0) (0) rfl rfl true rfl) ?_
    simp only [Act.put, aS, aC, aZ]
    refine wl (by kernel_rfl) (.bool true) _ (run_mvZ (.tmp 63) rfl (.bool true) rfl) ?_
    simp only [Act.put, aS, aC, aZ]
    refine wl (by kernel_rfl) (.pointer (some ⟨q3, 0 + 37, none⟩)) _ (run_fieldOp' f26_6 (.tmp 9) rfl q3 (0) rfl) ?_
    simp only [Act.put, aS, aC, aZ]
    refine wl (by kernel_rfl) (.bool true) _ (run_load1 o4 (.tmp 65) rfl q3 (0 + 37) rfl (.bool true) (RX.out.fld 2 rfl ((show Rok (aDel R) v3 from ⟨(HG.out.del).1.1, (HG.out.del).1.2, H3.out.isSl⟩)).root 3 _ rfl)) ?_
    simp only [Act.put, aS, aC, aZ]
    refine wl (by kernel_rfl) (.bool false) _ (run_not (.tmp 66) 4 rfl true rfl) ?_
    simp only [Act.put, aS, aC, aZ]
    refine wl (by kernel_rfl) (.bool false) _ (run_mvZ (.tmp 67) rfl (.bool false) rfl) ?_
    simp only [Act.put, aS, aC, aZ]
    refine wl (by kernel_rfl) (.pointer (some ⟨q3, 0 + 35, none⟩)) _ (run_fieldOp' f26_4 (.tmp 9) rfl q3 (0) rfl) ?_
    simp only [Act.put, aS, aC, aZ]
    refine wl (by kernel_rfl) (.int .i64 R.expiry) _ (run_load1 o3 (.tmp 69) rfl q3 (0 + 35) rfl (.int .i64 R.expiry) (RX.out.fld 2 rfl ((show Rok (aDel R) v3 from ⟨(HG.out.del).1.1, (HG.out.del).1.2, H3.out.isSl⟩)).root 1 _ rfl)) ?_
    simp only [Act.put, aS, aC, aZ]
    refine wl (by kernel_rfl) (.pointer (some ⟨q2, 0 + 35, none⟩)) _ (run_fieldOp' f26_4 (.tmp 7) rfl q2 (0) rfl) ?_
    simp only [Act.put, aS, aC, aZ]
    refine wl (by kernel_rfl) (.int .i64 R.expiry) _ (run_load1 o3 (.tmp 71) rfl q2 (0 + 35) rfl (.int .i64 R.expiry) (RX.out.fld 1 rfl ((show Rok R vw from ⟨HG.out.1.1, HG.out.1.2, H2.out.isSl⟩)).root 1 _ rfl)) ?_
    simp only [Act.put, aS, aC, aZ]
    refine wl (by kernel_rfl) (.bool false) _ (run_neII (.tmp 70) (.tmp 72) rfl R.expiry rfl rfl) ?_
    simp only [Act.put, aS, aC, aZ]
    refine wl (by kernel_rfl) (.bool false) _ (run_pickZ (.tmp 68) (.const (.bool true)) (.tmp 73) rfl false (.bool false) rfl rfl) ?_
    simp only [Act.put, aS, aC, aZ]
    refine wl (by kernel_rfl) (.bool false) _ (run_mvZ (.tmp 74) rfl (.bool false) rfl) ?_
    simp only [Act.put, aS, aC, aZ]
    refine wl (by kernel_rfl) (.pointer (some ⟨q3, 0 + 38, none⟩)) _ (run_fieldOp' f26_7 (.tmp 9) rfl q3 (0) rfl) ?_
    simp only [Act.put, aS, aC, aZ]
    refine wl (by kernel_rfl) v3 _ (run_load1 o24 (.tmp 76) rfl q3 (0 + 38) rfl v3 (RX.out.fld 2 rfl ((show Rok (aDel R) v3 from ⟨(HG.out.del).1.1, (HG.out.del).1.2, H3.out.isSl⟩)).root 4 _ rfl)) ?_
    simp only [Act.put, aS, aC, aZ]
    refine wl (by kernel_rfl) (.int .i64 0) _ (run_lenP (ps := []) (H3.out.isIn HG.out.del.max) (.tmp 77) rfl rfl) ?_
    simp only [Act.put, aS, aC, aZ]
    refine wl (by kernel_rfl) (.bool false) _ (run_gtrZ (.tmp 78) (.const (.int .i64 0)) rfl 0 0 rfl rfl false rfl) ?_
    simp only [Act.put, aS, aC, aZ]
    refine wl (by kernel_rfl) (.bool false) _ (run_pickZ (.tmp 75) (.const (.bool true)) (.tmp 79) rfl false (.bool false) rfl rfl) ?_
    simp only [Act.put, aS, aC, aZ]
    refine wl (by kernel_rfl) (.bool false) _ (run_pickZ (.tmp 64) (.tmp 80) (.const (.bool false)) rfl true (.bool false) rfl rfl) ?_
    simp only [Act.put, aS, aC, aZ]
    refine wl rfl (.bool false) _ (run_pickZ (.tmp 61) (.const (.bool true)) (.tmp 81) rfl false (.bool false) rfl rfl) ?_
    simp only [Act.put, aS, aC, aZ]
    refine wpList_nil ?_
    go_upto_region 23 with fail
    refine wp_region_lit ?_
    refine wl rfl (.int .i64 0) _ (run_mvZ (.tmp 8) rfl (.int .i64 0) rfl) ?_
    simp only [Act.put, aS, aC, aZ]
    refine wl rfl (.bool true) _ (run_eqZ (.tmp 181) (.const (.int .i64 0)) rfl (0) (0) rfl rfl true rfl) ?_
    simp only [Act.put, aS, aC, aZ]
    refine wpList_nil ?_
    go_upto_region 24 with fail
    refine wp_region_lit ?_
    refine wl rfl (.pointer (some ⟨q3, 0 + 0, none⟩)) _ (run_fieldOp' f26_0 (.tmp 9) rfl q3 (0) rfl) ?_
    simp only [Act.put, aS, aC, aZ]
    refine wl rfl (.string R.id) _ (run_load1 o9 (.tmp 183) rfl q3 (0 + 0) rfl (.string R.id) (RX.out.fid (r := (aDel R)) 2 rfl)) ?_
    simp only [Act.put, aS, aC, aZ]
    refine wl rfl (.pointer (some ⟨q2, 0 + 0, none⟩)) _ (run_fieldOp' f26_0 (.tmp 7) rfl q2 (0) rfl) ?_
    simp only [Act.put, aS, aC, aZ]
    refine wl rfl (.string R.id) _ (run_load1 o9 (.tmp 185) rfl q2 (0 + 0) rfl (.string R.id) (RX.out.fid (r := R) 1 rfl)) ?_
    simp only [Act.put, aS, aC, aZ]
    refine wl rfl (.bool false) _ (run_neS (.tmp 184) (.tmp 186) rfl R.id rfl rfl) ?_
    simp only [Act.put, aS, aC, aZ]
    refine wl rfl (.bool false) _ (run_mvZ (.tmp 187) rfl (.bool false) rfl) ?_
    simp only [Act.put, aS, aC, aZ]
    refine wl (by kernel_rfl) (.pointer (some ⟨q3, 0 + 1, none⟩)) _ (run_fieldOp' f26_1 (.tmp 9) rfl q3 (0) rfl) ?_
    simp only [Act.put, aS, aC, aZ]
    refine wl (by kernel_rfl) (.int .i64 R.length) _ (run_load1 o3 (.tmp 189) rfl q3 (0 + 1) rfl (.int .i64 R.length) (RX.out.flen (r := (aDel R)) 2 rfl)) ?_
    simp only [Act.put, aS, aC, aZ]
    refine wl (by kernel_rfl) (.pointer (some ⟨q2, 0 + 1, none⟩)) _ (run_fieldOp' f26_1 (.tmp 7) rfl q2 (0) rfl) ?_
    simp only [Act.put, aS, aC, aZ]
    refine wl (by kernel_rfl) (.int .i64 R.length) _ (run_load1 o3 (.tmp 191) rfl q2 (0 + 1) rfl (.int .i64 R.length) (RX.out.flen (r := R) 1 rfl)) ?_
    simp only [Act.put, aS, aC, aZ]
    refine wl (by kernel_rfl) (.bool false) _ (run_neII (.tmp 190) (.tmp 192) rfl R.length rfl rfl) ?_
    simp only [Act.put, aS, aC, aZ]
    refine wl rfl (.bool false) _ (run_pickZ (.tmp 188) (.const (.bool true)) (.tmp 193) rfl false (.bool false) rfl rfl) ?_
    simp only [Act.put, aS, aC, aZ]
    refine wl rfl (.bool false) _ (run_mvZ (.tmp 194) rfl (.bool false) rfl) ?_
    simp only [Act.put, aS, aC, aZ]
    refine wl (by kernel_rfl) (.pointer (some ⟨q3, 0 + 2, none⟩)) _ (run_fieldOp' f26_2 (.tmp 9) rfl q3 (0) rfl) ?_
    simp only [Act.put, aS, aC, aZ]
    refine wl (by kernel_rfl) (.agg (bcells (aDel R).root).toArray) _ (run_loadA ag23 (.tmp 196) rfl q3 (0 + 2) rfl (bcells (aDel R).root) (bc32 ((show Rok (aDel R) v3 from ⟨(HG.out.del).1.1, (HG.out.del).1.2, H3.out.isSl⟩)).root) (RX.out.froot 2 rfl ((show Rok (aDel R) v3 from ⟨(HG.out.del).1.1, (HG.out.del).1.2, H3.out.isSl⟩)).root)) ?_
    simp only [Act.put, aS, aC, aZ]
    refine wl (by kernel_rfl) (.pointer (some ⟨q2, 0 + 2, none⟩)) _ (run_fieldOp' f26_2 (.tmp 7) rfl q2 (0) rfl) ?_
    simp only [Act.put, aS, aC, aZ]
    refine wl (by kernel_rfl) (.agg (bcells R.root).toArray) _ (run_loadA ag23 (.tmp 198) rfl q2 (0 + 2) rfl (bcells R.root) (bc32 ((show Rok R vw from ⟨HG.out.1.1, HG.out.1.2, H2.out.isSl⟩)).root) (RX.out.froot 1 rfl ((show Rok R vw from ⟨HG.out.1.1, HG.out.1.2, H2.out.isSl⟩)).root)) ?_
    simp only [Act.put, aS, aC, aZ]
    refine wl (by kernel_rfl) (.bool false) _ (run_neHH (.tmp 197) (.tmp 199) rfl R.root ⟨HG.out.1.1, HG.out.1.2⟩ rfl rfl) ?_
    simp only [Act.put, aS, aC, aZ]
    refine wl rfl (.bool false) _ (run_pickZ (.tmp 195) (.const (.bool true)) (.tmp 200) rfl false (.bool false) rfl rfl) ?_
    simp only [Act.put, aS, aC, aZ]
    refine wl rfl (.bool false) _ (run_mvZ (.tmp 201) rfl (.bool false) rfl) ?_
    simp only [Act.put, aS, aC, aZ]
    refine wl (by kernel_rfl) (.pointer (some ⟨q3, 0 + 34, none⟩)) _ (run_fieldOp' f26_3 (.tmp 9) rfl q3 (0) rfl) ?_
    simp only [Act.put, aS, aC, aZ]
    refine wl (by kernel_rfl) (.int .i64 R.index) _ (run_load1 o3 (.tmp 203) rfl q3 (0 + 34) rfl (.int .i64 R.index) (RX.out.fld 2 rfl ((show Rok (aDel R) v3 from ⟨(HG.out.del).1.1, (HG.out.del).1.2, H3.out.isSl⟩)).root 0 _ rfl)) ?_
    simp only [Act.put, aS, aC, aZ]
    refine wl (by kernel_rfl) (.pointer (some ⟨q2, 0 + 34, none⟩)) _ (run_fieldOp' f26_3 (.tmp 7) rfl q2 (0) rfl) ?_
    simp only [Act.put, aS, aC, aZ]
    refine wl (by kernel_rfl) (.int .i64 R.index) _ (run_load1 o3 (.tmp 205) rfl q2 (0 + 34) rfl (.int .i64 R.index) (RX.out.fld 1 rfl ((show Rok R vw from ⟨HG.out.1.1, HG.out.1.2, H2.out.isSl⟩)).root 0 _ rfl)) ?_
    simp only [Act.put, aS, aC, aZ]
    refine wl (by kernel_rfl) (.bool false) _ (run_neII (.tmp 204) (.tmp 206) rfl R.index rfl rfl) ?_
    simp only [Act.put, aS, aC, aZ]
    refine wl rfl (.bool false) _ (run_pickZ (.tmp 202) (.const (.bool true)) (.tmp 207) rfl false (.bool false) rfl rfl) ?_
    simp only [Act.put, aS, aC, aZ]
    refine wl rfl (.bool false) _ (run_mvZ (.tmp 208) rfl (.bool false) rfl) ?_
    simp only [Act.put, aS, aC, aZ]
    refine wl (by kernel_rfl) (.pointer (some ⟨q2, 0 + 37, none⟩)) _ (run_fieldOp' f26_6 (.tmp 7) rfl q2 (0) rfl) ?_
    simp only [Act.put, aS, aC, aZ]
    refine wl (by kernel_rfl) (.bool false) _ (run_load1 o4 (.tmp 210) rfl q2 (0 + 37) rfl (.bool false) (RX.out.fld 1 rfl ((show Rok R vw from ⟨HG.out.1.1, HG.out.1.2, H2.out.isSl⟩)).root 3 _ (by rw [← HGo.out]; rfl))) ?_
    simp only [Act.put, aS, aC, aZ]
    refine wl rfl (.bool false) _ (run_pickZ (.tmp 209) (.const (.bool true)) (.tmp 211) rfl false (.bool false) rfl rfl) ?_
    simp only [Act.put, aS, aC, aZ]
    refine wpList_nil ?_
    go_upto_region 26 with fail
    refine wp_region_lit ?_
    refine wl rfl (.agg (rcells (aDel R) v3).toArray) _ (run_loadA ag26 (.tmp 9) rfl q3 (0) rfl (rcells (aDel R) v3) ((show Rok (aDel R) v3 from ⟨(HG.out.del).1.1, (HG.out.del).1.2, H3.out.isSl⟩)).len (RX.out.rows 2 rfl)) ?_
    simp only [Act.put, aS, aC, aZ]
    obtain ⟨hst_, k_, hC_⟩ := RX.out.st26 0 rfl ((HC.out.rok HG.out)).len (rcells (aDel R) v3) ((show Rok (aDel R) v3 from ⟨(HG.out.del).1.1, (HG.out.del).1.2, H3.out.isSl⟩)).len ((show Rok (aDel R) v3 from ⟨(HG.out.del).1.1, (HG.out.del).1.2, H3.out.isSl⟩)).one
    have hR_ := RX.out.at 0 rfl
    refine wlS rfl rfl _ (run_stV (.tmp 2) (.tmp 213) rfl q1 0 rfl _ rfl hst_) ?_
    obtain ⟨w18, hW_⟩ : ∃ U_ : World, U_ = Y.setRow q1 (rcells (aDel R) v3).toArray := ⟨_, rfl⟩
    rw [← hW_] at k_ hC_ ⊢
    clear hst_
    have HCx : Hid (CpAt w w18 vR R.cp) := HC.out.off hR_ (by decide) hC_
    clear HC
    have HC := HCx
    clear HCx
    have H2x : Hid (POwn w18 w.heap.size vw R.cp) := H2.out.off hR_ (by decide) hC_
    clear H2
    have H2 := H2x
    clear H2x
    have H3x : Hid (POwn w18 w.heap.size v3 (aDel R).cp) := H3.out.off hR_ (by decide) hC_
    clear H3
    have H3 := H3x
    clear H3x
    have Rw18 : Hid (Loc w w18 [(q1, 26, rcells (aDel R) v3), (q2, 26, rcells R vw), (q3, 26, rcells (aDel R) v3)]) := k_
    clear k_ hW_ RX
    clear hC_ hR_
    refine wpList_nil ?_
    go_upto_region 6 with fail
    refine wp_region_lit ?_
    refine wl rfl (.int .i64 (i : Nat)) _ (run_mvZ (.tmp 6) rfl (.int .i64 (i : Nat)) rfl) ?_
    simp only [Act.put, aS, aC, aZ]
    refine wl rfl (.int .i64 ((i + 1 : Nat))) _ (run_addI (.tmp 18) rfl i m hlt HF.out.2.2.2.1 rfl) ?_
    simp only [Act.put, aS, aC, aZ]
    refine wl rfl (.int .i64 ((i + 1 : Nat))) _ (run_asZ (.tmp 19) rfl (.int .i64 ((i + 1 : Nat))) rfl) ?_
    simp only [Act.put, aS, aC, aZ]
    refine wpList_nil ?_
    go_wp2_with fail
    exact ⟨⟨i + 1, rfl, by omega, ⟨(aDel R), v3, Rw18.out.take 1, Or.inr H3.out, HG.out.del⟩⟩, by simp [intOf]; omega⟩
  ·have HD : Hid (decide (i < m) = false) := decide_eq_false hlt
   go_upto_region 5 with fail
   refine wp_region_lit ?_
   refine wl rfl (.int .i64 (i : Nat)) _ (run_mvZ (.tmp 6) rfl (.int .i64 (i : Nat)) rfl) ?_
   simp only [Act.put, aS, aC, aZ]
   refine wl rfl vl _ (run_mvZ (.tmp 1) rfl vl rfl) ?_
   simp only [Act.put, aS, aC, aZ]
   refine wl rfl (.int .i64 (m : Nat)) _ ((by rw [HF.out.2.2.1]; exact run_lenD HF.out.2.1 (.tmp 15) rfl rfl)) ?_
   simp only [Act.put, aS, aC, aZ]
   refine wl rfl (.bool false) _ (run_lssN (.tmp 14) (.tmp 16) rfl i m rfl rfl false HD.out) ?_
   simp only [Act.put, aS, aC, aZ]
   refine wpList_nil ?_
   go_upto_region 29 with fail
   refine wp_region_lit ?_
   refine wl rfl (.bool true) _ (run_mvZ (.tmp 5) rfl (.bool true) rfl) ?_
   simp only [Act.put, aS, aC, aZ]
   refine wl rfl (.bool true) _ (run_asZ (.tmp 236) rfl (.bool true) rfl) ?_
   simp only [Act.put, aS, aC, aZ]
   refine wpList_nil ?_
   go_wp2_with fail
   first | (rw [HPQ.out]; exact ⟨rfl, RA.out.below⟩) | (go_ret; rw [HPQ.out]; exact ⟨rfl, RA.out.below⟩)

end Go.Proofs.Ytobolkllplmmcaa

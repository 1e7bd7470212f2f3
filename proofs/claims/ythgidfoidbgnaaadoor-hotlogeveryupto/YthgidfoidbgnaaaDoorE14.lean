/- Frames written, the program's and the document's; numbers written. Regions that draw their order, taken by hand: what is pure comes first, then the calls, which wait for one another. -/
import Derived.Test.YthgidfoidbgnaaaDoorE13
import Derived.OrdersHeld
namespace Go.Proofs.YthgidfoidbgnaaaDoor.Fr
open Go.RowKit

theorem below_append {a b c : World} (h : Below a.heap.size a b) (k : Below b.heap.size b c) : Below a.heap.size a c := h.trans (k.mono h.size)

set_option maxHeartbeats 400000 in
theorem pack_any (kind : Nat) (hk : kind < 256) (v : Value) (cs : List Nat) (w : World) (h : SliceIn w v cs) (ht : TabIn w) (hsz : cs.length + 9 ≤ 140737488355328) :
  Calls Tryd.prog 62 #[.int .u8 (kind : Nat), v] w fun e w' => ∃ v', e = .returned v' ∧ BOwn w' w.heap.size v' (Frame.pack kind cs) ∧ Below w.heap.size w w' := by
 go_enter Tryd.func62, Tryd.ntmps62
 go_wp2_with (first
  | (refine wpList_len (.tmp 6) rfl rfl v cs rfl h ?_)
  | (refine wpList_make0 (.const (.int .i64 0)) (.tmp 9) rfl rfl w.heap.size (cs.length + 9) _ rfl rfl (by omega) (by omega) (Nat.le_refl _) ?_; intro v1 w1 o1 b1; have O1 : Hid (BOwn w1 w.heap.size v1 []) := o1; have B1 : Hid (Below w.heap.size w w1) := b1; clear o1 b1)
  | (refine wpList_len (.tmp 12) rfl rfl v cs rfl h ?_)
  | (go_at_call 74; refine (lay_any v1 [] cs.length 4 w.heap.size w1 O1.out B1.out.size (by decide) (by simp)).mono ?_; rintro e w2 ⟨v2, rfl, o2, b2⟩; have O2 : Hid (BOwn w2 w.heap.size v2 ([] ++ Frame.be 4 cs.length)) := o2; have B2 : Hid (Below w.heap.size w w2) := B1.out.trans b2; clear o2 b2 O1 B1)
  | (refine wpList_lit1 (.tmp 17) rfl rfl kind hk _ rfl rfl ?_; intro v3 w3 s3 b3; have S3 : Hid (SliceIn w3 v3 [kind]) := s3; have B3 : Hid (Below w2.heap.size w2 w3) := b3; clear s3 b3)
  | (refine wpList_append (.tmp 16) (.tmp 18) rfl rfl w.heap.size v2 v3 ([] ++ Frame.be 4 cs.length) [kind] rfl (O2.out.later B3.out (Nat.le_refl _)) rfl S3.out (by simp [Frame.be_length]) (below_append B2.out B3.out).size ?_; intro v4 w4 o4 b4; have O4 : Hid (BOwn w4 w.heap.size v4 (([] ++ Frame.be 4 cs.length) ++ [kind])) := o4; have B4 : Hid (Below w.heap.size w w4) := (below_append B2.out B3.out).trans b4; clear o4 b4 B3 O2 B2 S3)
  | (refine wpList_append (.tmp 20) (.tmp 21) rfl rfl w.heap.size v4 v (([] ++ Frame.be 4 cs.length) ++ [kind]) cs rfl O4.out rfl (h.later B4.out) (by simp [Frame.be_length]; omega) B4.out.size ?_; intro v5 w5 o5 b5; have O5 : Hid (BOwn w5 w.heap.size v5 (Frame.body kind cs)) := (by have e : ([] ++ Frame.be 4 cs.length) ++ [kind] ++ cs = Frame.body kind cs := (by simp [Frame.body]); rw [← e]; exact o5); have B5 : Hid (Below w.heap.size w w5) := B4.out.trans b5; clear o5 b5 O4 B4)
  | (go_at_call 75; refine (sum_any v5 (Frame.body kind cs) w5 (O5.out.slice (Frame.body_lt kind cs hk h.mem)) (ht.later B5.out)).mono ?_; rintro e w6 ⟨rfl, rfl⟩; have HC : Hid (Frame.pack kind cs = Frame.body kind cs ++ Frame.be 4 (Frame.crc (Frame.body kind cs))) := rfl; have hcl := Frame.crc_lt (Frame.body kind cs); generalize Frame.crc (Frame.body kind cs) = sm at HC hcl ⊢)
  | (go_at_call 74; refine (lay_any v5 (Frame.body kind cs) sm 4 w.heap.size w5 O5.out B5.out.size (by decide) (by rw [Frame.body_length]; omega)).mono ?_; rintro e w7 ⟨v7, rfl, o7, b7⟩; have O7 : Hid (BOwn w7 w.heap.size v7 (Frame.pack kind cs)) := (by rw [HC.out]; exact o7); have B7 : Hid (Below w.heap.size w w7) := B5.out.trans b7; clear o7 b7 O5 B5))
 go_ret
 exact ⟨_, rfl, O7.out, B7.out⟩

set_option maxHeartbeats 400000 in
theorem number_yes (v : Value) (cs : List Nat) (n size : Nat) (w : World) (h : SliceIn w v cs) (h1 : 1 ≤ size) (h8 : size ≤ 8) (hsz : cs.length + size ≤ 140737488355328) :
  Calls Tryd.prog 76 #[v, .int .u64 (n : Nat), .int .i64 (size : Nat)] w fun e w' => ∃ v', e = .returned v' ∧ BOwn w' w.heap.size v' (cs ++ Frame.be size n) ∧ Below w.heap.size w w' := by
 go_enter Tryd.func76, Tryd.ntmps76
 go_wp2_with (first
  | (go_at_call 92; refine (sizeHolds_yes _ _ (by omega) (by omega)).mono ?_; rintro e w' ⟨rfl, rfl⟩)
  | (refine wpList_len (.tmp 12) rfl rfl v cs rfl h ?_)
  | (refine wpList_make0 (.const (.int .i64 0)) (.tmp 15) rfl rfl w.heap.size (cs.length + size) _ rfl rfl (by omega) (by omega) (Nat.le_refl _) ?_; intro v1 w1 o1 b1; have O1 : Hid (BOwn w1 w.heap.size v1 []) := o1; have B1 : Hid (Below w.heap.size w w1) := b1; clear o1 b1)
  | (refine wpList_append (.tmp 16) (.tmp 17) rfl rfl w.heap.size v1 v [] cs rfl O1.out rfl (h.later B1.out) (by simp; omega) B1.out.size ?_; intro v2 w2 o2 b2; have O2 : Hid (BOwn w2 w.heap.size v2 cs) := o2; have B2 : Hid (Below w.heap.size w w2) := B1.out.trans b2; clear o2 b2 O1 B1)
  | (go_at_call 74; refine (lay_any v2 cs n size w.heap.size w2 O2.out B2.out.size h8 hsz).mono ?_; rintro e w3 ⟨v3, rfl, o3, b3⟩; have O3 : Hid (BOwn w3 w.heap.size v3 (cs ++ Frame.be size n)) := o3; have B3 : Hid (Below w.heap.size w w3) := B2.out.trans b3; clear o3 b3 O2 B2))
 go_ret
 exact ⟨_, rfl, O3.out, B3.out⟩
/-! the document's own -/
end Go.Proofs.YthgidfoidbgnaaaDoor.Fr

namespace Go.Proofs.YthgidfoidbgnaaaDoor.Fr
open Go.RowKit

section
variable {ops : Array Oper} {Q : Exit → Act → World → Prop} {a : Act} {w : World} {listed : Array Bool} {fuel : Nat} {S : World → Prop} {o : Oper}
theorem takeH {i : Nat} (d : Option Tmp) {oi : Oper} {v : Value} (hi : ops[i]? = some oi) (hd : oi.dst = d)
  (hs : Region.noSelect ops = true) (hf : Region.free .any ops listed i = true) (hr : (Region.ready .any ops listed).contains i = true)
  (hQ : ∀ c a w, Q (.panic c) (a.put d v) w → Q (.panic c) a w) (hy : YieldsIf Tryd.prog ops S oi v a) (hS : S w)
  (h : wpAnyH Tryd.prog .any ops Q S fuel (listed.setIfInBounds i true) (a.put d v) w) : wpAnyH Tryd.prog .any ops Q S (fuel + 1) listed a w := by
 subst hd
 exact wpAnyH_take hi hs hf hr hQ hy hS h
/-- shorter: the three conditions and the last one by themselves -/
theorem tH (i : Nat) (s : Nat) {oi : Oper} {v : Value} (hi : ops[i]? = some oi) (hd : oi.dst = some s)
    (hy : YieldsIf Tryd.prog ops S oi v a) (hS : S w)
    (h : wpAnyH Tryd.prog .any ops Q S fuel (listed.setIfInBounds i true) (a.put (some s) v) w)
    (hk : (Region.noSelect ops && Region.free .any ops listed i && (Region.ready .any ops listed).contains i) = true := by kernel_rfl)
    (hQ : ∀ c a w, Q (.panic c) (a.put (some s) v) w → Q (.panic c) a w := by exact fun _ _ _ h => h) : wpAnyH Tryd.prog .any ops Q S (fuel + 1) listed a w := by
  simp only [Bool.and_eq_true] at hk
  exact takeH (some s) hi hd hk.1.1 hk.1.2 hk.2 hQ hy hS h
theorem oneH {i : Nat} (hr : Region.ready .any ops listed = [i]) (h : wpOp Tryd.prog ops Q i (fun a' w' => S w' ∧ wpAnyH Tryd.prog .any ops Q S fuel (listed.setIfInBounds i true) a' w') a w) : wpAnyH Tryd.prog .any ops Q S (fuel + 1) listed a w :=
 wpAnyH_all (rs := [i]) hr (by simp) fun j hj => by obtain rfl := List.mem_singleton.1 hj; exact h
theorem opCallA {i : Nat} (d : Option Tmp) {K : Act → World → Prop} (hi : ops[i]? = some o) (hd : o.dst = d) (hgd : o.guard = none) (f : Nat) (args : Array Value) (hrun : (execOp a.eval o).run Tryd.prog w = .ok (.enter f args) w) (h : Calls Tryd.prog f args w fun e w' => ∃ v, e = .returned v ∧ K (a.put d v) w') : wpOp Tryd.prog ops Q i K a w := by
 subst hd
 unfold wpOp
 have hw : Region.wanted o (yielded ops a.tmps) = true := by simp [Region.wanted, hgd]
 simp only [hi, hw, if_true, Oper.wp, hrun, Oper.upon]
 refine .inl (Calls.mono h fun e w' he => ?_)
 obtain ⟨v, rfl, hK⟩ := he
 exact hK
theorem yRun (hgd : o.guard = none) (v : Value) (hr : ∀ w, S w → (execOp a.eval o).run Tryd.prog w = .ok (.value v) w) : YieldsIf Tryd.prog ops S o v a :=
 Or.inl ⟨by simp [Region.wanted, hgd], hr⟩
theorem yMove (hgd : o.guard = none) (x : Operand) (ho : o.op = .move x) (v : Value) (hv : a.eval x = v) : YieldsIf Tryd.prog ops S o v a :=
 yRun hgd v fun w _ => by simp [execOp, ho, hv]
theorem yAssign (hgd : o.guard = none) (x : Operand) (ho : o.op = .assign x) (v : Value) (hv : a.eval x = v) : YieldsIf Tryd.prog ops S o v a :=
 yRun hgd v fun w _ => by simp [execOp, ho, hv]
theorem ySub (hgd : o.guard = none) (x : Operand) (lo hi mx : Option Operand) (ho : o.op = .slice 28 x lo hi mx) (v v' : Value) (hx : a.eval x = v) (hr : ∀ w', (Instr.slice 28 v (lo.map a.eval) (hi.map a.eval) (mx.map a.eval)).run Tryd.prog w' = .ok v' w') : YieldsIf Tryd.prog ops S o v' a :=
 yRun hgd v' fun w _ => by
  have hu' : Tryd.prog.underlying 28 = some (.slice (Tryd.prog.elem 28)) := by rw [elem22]; exact Tryd.underlying28
  simp [execOp, ho, hx, run_sliceAt_slice _ _ _ _ _ _ hu', hr]
theorem yIndex (hgd : o.guard = none) (x i : Operand) (ho : o.op = .indexAddr 28 x i) (v : Value) (hx : a.eval x = v) (I : Value) (hi : a.eval i = I) (p : Value) (hr : ∀ w', (Instr.indexAt 28 v I).run Tryd.prog w' = .ok p w') : YieldsIf Tryd.prog ops S o p a :=
 yRun hgd p fun w _ => by simp only [execOp, ho, hx, hi, hr, Sem.run_bind, Sem.run_pure, Result.andThen_ok]
theorem yLoad (hgd : o.guard = none) (x : Operand) (ho : o.op = .load 5 x) (b j : Nat) (hx : a.eval x = .pointer (some ⟨b, j, none⟩)) (c : Nat) (hc : ∀ w, S w → w.cell? ⟨b, j, none⟩ = some (.int .u8 (c : Nat))) : YieldsIf Tryd.prog ops S o (.int .u8 (c : Nat)) a :=
 yRun hgd _ fun w hS => by
  have := hc w hS
  have hr : (Instr.loadAt 5 (.pointer (some ⟨b, j, none⟩))).run Tryd.prog w = .ok (.int .u8 (c : Nat)) w := by simp [Instr.loadAt, Instr.sureAddr, go_sem, this]
  simp only [execOp, ho, hx, hr, Sem.run_bind, Sem.run_pure, Result.andThen_ok]
theorem run_index {v : Value} {cs : List Nat} (hin : SliceIn w v cs) (k : Nat) (hk : k < cs.length) : ∃ b j, (∀ w', (Instr.indexAt 28 v (.int .i64 (k : Nat))).run Tryd.prog w' = .ok (.pointer (some ⟨b, j, none⟩)) w') ∧ w.cell? ⟨b, j, none⟩ = some (.int .u8 (cs.getD k 0 : Nat)) := by
 obtain ⟨p, cap, rfl, hl, hin⟩ := hin
 rcases hin with rfl | ⟨b, off, rfl, hc, _⟩
 ·simp at hk
 obtain ⟨i5, hi5, hsz⟩ := Option.map_eq_some_iff.1 size5
 exact ⟨b, off + k, fun w' => by simp [Instr.indexAt, asIntOf, run_underlying Tryd.underlying28, hk, sizeOf, typeInfo, hi5, hsz, add_none], hc k hk⟩
theorem yConv (hgd : o.guard = none) (x : Operand) (ho : o.op = .convert 138 98 x) (s : Nat) (hs : s < 4294967296) (hx : a.eval x = .int .u32 (s : Nat)) : YieldsIf Tryd.prog ops S o (.int .u64 (s : Nat)) a :=
 yRun hgd _ fun w _ => by
  have hr : (convert 138 98 (.int .u32 (s : Nat))).run Tryd.prog w = .ok (.int .u64 (s : Nat)) w := by
   have e : IntKind.u64.wrap (s : Int) = (s : Int) := by rw [IntKind.wrap_u64]; omega
   simp [go_sem, e]
  simp only [execOp, ho, hx, hr, Sem.run_bind, Sem.run_pure, Result.andThen_ok]
theorem yNeq (hgd : o.guard = none) (x y : Operand) (ho : o.op = .binOp .neq 98 x y 98) (s t : Nat) (hx : a.eval x = .int .u64 (s : Nat)) (hy : a.eval y = .int .u64 (t : Nat)) : YieldsIf Tryd.prog ops S o (.bool ((s : Int) != (t : Int))) a :=
 yRun hgd _ fun w _ => by
  simp only [execOp, ho, hx, hy]
  simp [go_sem]
def EntersF (f : Nat) : Prop := ∀ args w, (callFunc f args).run Tryd.prog w = .ok (.enter f args) w
theorem enters {f : Nat} {fn : Func} (hf : Tryd.prog.funcs[f]? = some fn) (hn : (fn.name == "runtime.NumGoroutine") = false) (hb : fn.body.isNone = false) : EntersF f := by
 intro args w
 have h1 : fn.name ≠ "runtime.NumGoroutine" := by simpa using hn
 have hb' : fn.body ≠ none := by intro hn; rw [hn] at hb; cases hb
 simp [callFunc, hf, h1, hb', mark]
theorem en21 : EntersF 75 := enters Tryd.func75 (by kernel_rfl) (by kernel_rfl)
theorem en23 : EntersF 94 := enters Tryd.func94 (by kernel_rfl) (by kernel_rfl)
theorem en24 : EntersF 93 := enters Tryd.func93 (by kernel_rfl) (by kernel_rfl)
theorem run_call {f : Nat} (ef : EntersF f) (xs : List Operand) (ts : Array TypeId) (ho : o.op = .call { callee := .value (.func f), args := xs.toArray, argTypes := ts }) (vs : List Value) (hv : xs.map a.eval = vs) : (execOp a.eval o).run Tryd.prog w = .ok (.enter f vs.toArray) w := by
 subst hv
 have hen := ef (xs.map a.eval).toArray w
 simp [execOp, ho, resolve, BigFrame.eval_func, Deferred.ofValue, invoke, hen]
end
theorem results_tmp4 {fn : Func} {t u v x : Tmp} (h : fn.results = #[.tmp t, .tmp u, .tmp v, .tmp x]) (tmps : Array Value) (P : Program) (w : World) :
  (results fn tmps).run P w = .ok (.tuple #[tmps.getD t undef, tmps.getD u undef, tmps.getD v undef, tmps.getD x undef]) w := by
 simp [results, h]
theorem below_drawn (w : World) (n : Nat) : Below w.heap.size w { w with drawn := n } := ⟨rfl, rfl, rfl, Nat.le_refl _, fun _ _ => rfl⟩
theorem take_all_drop (cs : List Nat) (l : Nat) : (cs.take cs.length).drop l = cs.drop l := by rw [List.take_length]
end Go.Proofs.YthgidfoidbgnaaaDoor.Fr

/- Layer 8: what WalAnew keeps. Layer 8: WalAnew, walked. Layer 8: what comes in: the table that is listed, scripts, lists of numbers, rows of bytes. For every list of transactions, every number of times and every list of what a boot keeps: the same transactions, appended anew behind each Truncate, are told once: the law WalAnew returns true and changes nothing that was there. Conditions: what is read holds together at most 1048576 values and letters; the table crc.halves starts as the program's text lays it (the card ties it). -/
import Derived.Test.YtomfdnjbipgmcaaDoorZ39
import Derived.Test.YtomfdnjbipgmcaaDoorTie
import Derived.Test.YtomfdnjbipgmcaaDoorCards
import Derived.ProofKit
import Derived.OpenShut
import Derived.ChangeOld
import Derived.Below
import Derived.SizedLaws
import Derived.Deep.DeepHandedRow
import Derived.Deep.Slices
import Derived.Deep.Matrix
import Derived.Lib.LaidTab
namespace Go.Proofs.YtomfdnjbipgmcaaDoor
open Go.RowKit Go.Maps

section
variable {w : World} {a : Act} {o : Oper}
theorem run_extZ (x : Operand) (i : Nat) (ho : o.op = .extract x i) (vs : Array Value) (hx : a.eval x = .tuple vs) (v : Value) (hv : vs[i]? = some v) : (execOp a.eval o).run Tryd.prog w = .ok (.value v) w := by simp [execOp, ho, hx, Instr.extract, hv]
theorem run_eqZ {t : Nat} (x y : Operand) (ho : o.op = .binOp .eql t x y t) (z z' : Int) (hx : a.eval x = .int .i64 z) (hy : a.eval y = .int .i64 z') (b : Bool) (hb : decide (z = z') = b) : (execOp a.eval o).run Tryd.prog w = .ok (.value (.bool b)) w := by
  subst hb
  simp only [execOp, ho, hx, hy]
  by_cases h : z = z'
  · subst h; simp [go_sem]
  · simp [go_sem, h]
theorem run_neZ {t : Nat} (x y : Operand) (ho : o.op = .binOp .neq t x y t) (z z' : Int) (hx : a.eval x = .int .i64 z) (hy : a.eval y = .int .i64 z') (b : Bool) (hb : (!decide (z = z')) = b) : (execOp a.eval o).run Tryd.prog w = .ok (.value (.bool b)) w := by
  subst hb
  simp only [execOp, ho, hx, hy]
  by_cases h : z = z'
  · subst h; simp [go_sem]
  · simp [go_sem, h]
theorem run_lenZ {t : TypeId} (hu : Tryd.prog.underlying t = some (.slice (Tryd.prog.elem t))) (x : Operand) (ho : o.op = .call { callee := .builtin .len, args := #[x], argTypes := #[t] }) (p : Option Addr) (n cap : Nat) (hx : a.eval x = .slice p n cap) : (execOp a.eval o).run Tryd.prog w = .ok (.value (.int .i64 (n : Nat))) w := by
  have hr := run_len_slice (P := Tryd.prog) w t o.type p n cap hu
  simp only [execOp, ho, resolve, invoke, builtin, Sem.run_bind, Sem.run_pure, Result.andThen_ok, List.map_toArray, List.map_cons, List.map_nil, hx, hr]
  rfl
theorem run_lssZ (x y : Operand) (ho : o.op = .binOp .lss 3 x y 3) (z z' : Int) (hx : a.eval x = .int .i64 z) (hy : a.eval y = .int .i64 z') (b : Bool) (hb : decide (z < z') = b) : (execOp a.eval o).run Tryd.prog w = .ok (.value (.bool b)) w := by
  subst hb
  simp only [execOp, ho, hx, hy]
  simp [go_sem]
theorem run_leqZ (x y : Operand) (ho : o.op = .binOp .leq 3 x y 3) (z z' : Int) (hx : a.eval x = .int .i64 z) (hy : a.eval y = .int .i64 z') (b : Bool) (hb : decide (z ≤ z') = b) : (execOp a.eval o).run Tryd.prog w = .ok (.value (.bool b)) w := by
  subst hb
  simp only [execOp, ho, hx, hy]
  simp [go_sem]
theorem run_gtrZ (x y : Operand) (ho : o.op = .binOp .gtr 3 x y 3) (z z' : Int) (hx : a.eval x = .int .i64 z) (hy : a.eval y = .int .i64 z') (b : Bool) (hb : decide (z' < z) = b) : (execOp a.eval o).run Tryd.prog w = .ok (.value (.bool b)) w := by
  subst hb
  simp only [execOp, ho, hx, hy]
  simp [go_sem]
theorem i64_wrap (r : Int) (h0 : -9223372036854775808 ≤ r) (h1 : r ≤ 9223372036854775807) : IntKind.i64.wrap r = r := by
  simp [IntKind.wrap, IntKind.signed, IntKind.bits]
  omega
theorem run_addI (x y : Operand) (ho : o.op = .binOp .add 3 x y 3) (m n r : Int) (hr : m + n = r) (h0 : -9223372036854775808 ≤ r) (h1 : r ≤ 9223372036854775807) (hx : a.eval x = .int .i64 m) (hy : a.eval y = .int .i64 n) : (execOp a.eval o).run Tryd.prog w = .ok (.value (.int .i64 r)) w :=
  run_binOp' x y ho _ _ _ hx hy rfl (by subst hr; simp [binOp, Op.intArith, i64_wrap _ h0 h1])
theorem s28 : (Tryd.prog.info? 28).map (·.size) = some 1 := by kernel_rfl
theorem sl36 : Tryd.prog.underlying 36 = some (.slice (Tryd.prog.elem 36)) := by kernel_rfl
theorem o28' : OneT 28 := fun w g o v h => by simp [loadVar, isAgg, run_underlying Tryd.underlying28, h]
theorem info28z : (Tryd.prog.info? 28).map (fun i => (i.zero, i.size, i.bytes)) = some (some (.slice none 0 0), 1, 24) := by kernel_rfl
theorem run_ix36 (x i : Operand) (ho : o.op = .indexAddr 36 x i) (g off n cap j : Nat) (hx : a.eval x = .slice (some ⟨g, off, none⟩) n cap) (hi : a.eval i = .int .i64 (j : Nat)) (hj : j < n) : (execOp a.eval o).run Tryd.prog w = .ok (.value (.pointer (some ⟨g, off + j, none⟩))) w := by
  obtain ⟨i5, hi5, hsz⟩ := Option.map_eq_some_iff.1 s28
  simp [execOp, ho, hx, hi, Instr.indexAt, asIntOf, run_underlying Tryd.underlying36, hj, sizeOf, typeInfo, hi5, hsz, add_none]
theorem run_app36 (x y : Operand) (ho : o.op = .call { callee := .builtin .append, args := #[x, y], argTypes := #[36, 36] }) (v u v' : Value) (w' : World) (hx : a.eval x = v) (hy : a.eval y = u) (hr : (Builtin.append_ #[36, 36] o.type #[v, u]).run Tryd.prog w = .ok v' w') : (execOp a.eval o).run Tryd.prog w = .ok (.value v') w' := by
  simp only [execOp, ho, resolve, invoke, builtin, Sem.run_bind, Sem.run_pure, Result.andThen_ok, List.map_toArray, List.map_cons, List.map_nil, hx, hy, hr]
theorem run_lit36n (ho : o.op = .buildSlice 36 0 #[]) : (execOp a.eval o).run Tryd.prog w = .ok (.value (.slice (some ⟨w.heap.size, 0, none⟩) 0 0)) (w.alloc (.cells #[] 28)) := by
  have hr : (Instr.buildSlice 36 0 #[]).run Tryd.prog w = .ok (.slice (some ⟨w.heap.size, 0, none⟩) 0 0) (w.alloc (.cells #[] 28)) := by kernel_rfl
  simp only [execOp, ho, List.map_toArray, List.map_nil, hr, Sem.run_bind, Sem.run_pure, Result.andThen_ok]
theorem run_lit36a (x : Operand) (ho : o.op = .buildSlice 36 1 #[(0, x)]) (p : Option Addr) (n c : Nat) (hx : a.eval x = .slice p n c) : (execOp a.eval o).run Tryd.prog w = .ok (.value (.slice (some ⟨w.heap.size, 0, none⟩) 1 1)) (w.alloc (.cells #[.slice p n c] 28)) := by
  have hr : (Instr.buildSlice 36 1 #[(0, .slice p n c)]).run Tryd.prog w = .ok (.slice (some ⟨w.heap.size, 0, none⟩) 1 1) (w.alloc (.cells #[.slice p n c] 28)) := by kernel_rfl
  simp only [execOp, ho, List.map_toArray, List.map_cons, List.map_nil, hx, hr, Sem.run_bind, Sem.run_pure, Result.andThen_ok]
end
/-- an Append to any journal, the fuse not burning -/
theorem app_far {m : Pl} {n : Nat} (lv : Lv m 0) (hn : m.size 0 = n) (h8 : 8 ≤ n) (hf : m.fuse < 0) (S used : Nat) (L : List (List Nat)) (hb : ∀ r ∈ L, ∀ c ∈ r, c < 256) (hl : longTx L = false) :
    ((m.app 0 S used n L).1 = 0 ∨ (m.app 0 S used n L).1 = 3) ∧ (m.app 0 S used n L).2.1.sh = m.sh ∧ (m.app 0 S used n L).2.1.on = true ∧ (m.app 0 S used n L).2.1.fuse < 0 ∧ (m.app 0 S used n L).2.1.steps ≤ m.steps + 100 := by
  have hK : (rowSecs S (bodyOf L)).length ≤ 90 := by rw [rowSecs_length, bodyOf_length]; have := (notLong hl).2.2.1; unfold secsOf; omega
  unfold Pl.app
  rw [hl, if_neg (by decide)]
  cases hfb : fitsB L n used with
  | false => exact ⟨Or.inr rfl, rfl, lv.on, hf, by show m.steps ≤ _; omega⟩
  | true =>
    rw [if_pos rfl]
    have hfit : secsOf (txSize L) + used ≤ n - 1 := by
      unfold fitsB at hfb
      simp only [Bool.and_eq_true, decide_eq_true_eq] at hfb
      omega
    rcases Lv.lay (rowSecs S (bodyOf L)) (1 + used) m lv (rowSecs_sec S _ (bodyOf_lt L hb)) (by rw [hn, rowSecs_length, bodyOf_length]; omega) with ⟨k1, k⟩ | ⟨k1, k⟩
    · exact ⟨Or.inl k1, k.oth.sh, k.lv.on, k.fuse hf, by have := k.le; show (m.lay (0 : Nat) (1 + used) (rowSecs S (bodyOf L))).2.steps ≤ _; omega⟩
    · exact absurd k.fuse (by omega)
/-- an Append, whatever it is -/
theorem sApp {w0 W : World} {c : Nat → Colour} {g n : Nat} {m : Pl} {K : Nat} (h : Sw w0 W c g n m K) (hK : K ≤ 1000000) {gw S E : Nat} {D : List (List (List Nat))} (hw : WalAt W c 2 gw g (0 : Nat) S E) (hgw : w0.heap.size ≤ gw) (hj : Jo m 0 n S E D) (hf : m.fuse < 0) (v : Value) (L : List (List Nat)) (hr : RowsIn W v L) (hsz : txSize L ≤ 100000000) :
    Calls Tryd.prog 14 #[ptr gw, v] W fun e W' => ∃ (er : Int) (c' : Nat → Colour) (m' : Pl) (un : Nat) (D' : List (List (List Nat))), e = .returned (.int .i64 er) ∧ ((er = 0 ∧ D' = D ++ [L]) ∨ (er = 3 ∧ D' = D) ∨ (er = 5 ∧ D' = D)) ∧ Sw w0 W' c' g n m' (K + 100) ∧ WalAt W' c' 2 gw g (0 : Nat) S un ∧ Jo m' 0 n S un D' ∧ m'.fuse < 0 ∧ (∀ b, b < W.heap.size → c' b = c b) ∧ Ch (fun b => (c b).1 = 2 ∨ b = gw) W W' := by
  have hle := h.le
  have hjl := hj.le
  have h8 := hj.jc.lv.2.2.2
  refine (append_any' h.live 0 S E hw (by omega) h.shape (by simp) (show 1 ≤ n by omega) (by omega) v L hr hsz).mono ?_
  rintro e W' ⟨rfl, c', q1, q2, q3, q4⟩
  have hlv := hj.jc.lv
  have hfar : longTx L = false → _ := fun hl => app_far hlv.1 hlv.2.2.1 h8 hf S E L hr.mem hl
  rcases app_cases hj (by omega) L hr.mem with ⟨_, _, e1⟩ | ⟨_, _, e1, _⟩ | ⟨k1, _, M, un, e1, e2, e3, e4⟩ | ⟨k1, _, M, e1, e2, _⟩
  · have e1' : m.app 0 S E ([n].getD 0 0) L = (5, m, E) := e1
    rw [e1'] at q2 q4 ⊢
    exact ⟨5, c', m, E, D, rfl, Or.inr (Or.inr ⟨rfl, rfl⟩), h.next q1 q2 q3 hgw rfl (by omega), q4, hj, hf, q1, q3⟩
  · have e1' : m.app 0 S E ([n].getD 0 0) L = (3, m, E) := e1
    rw [e1'] at q2 q4 ⊢
    exact ⟨3, c', m, E, D, rfl, Or.inr (Or.inl ⟨rfl, rfl⟩), h.next q1 q2 q3 hgw rfl (by omega), q4, hj, hf, q1, q3⟩
  · have e1' : m.app 0 S E ([n].getD 0 0) L = (0, M, un) := e1
    have h5 := (hfar k1).2.2.2.1
    rw [e1] at h5
    rw [e1'] at q2 q4 ⊢
    exact ⟨0, c', M, un, D ++ [L], rfl, Or.inl ⟨rfl, rfl⟩, h.next q1 q2 q3 hgw e3.sh (by omega), q4, e2, h5, q1, q3⟩
  · have h5 := (hfar k1).2.2.1
    rw [e1, e2] at h5
    cases h5
/-- transactions that the law keeps: their rows are the arguments' -/
structure Told (w W : World) (c : Nat → Colour) (gw : Nat) (v : Value) (D : List (List (List Nat))) (us : List Value) : Prop where
  own : W.ownsRow 0 28 1 v D.length us
  ap : ∀ b, v.ownBlock = some b → w.heap.size ≤ b ∧ b < W.heap.size ∧ (c b).1 ≠ 2 ∧ b ≠ gw
  rows : ∀ i, i < D.length → RowsIn w (us.getD i undef) (D.getD i [])
theorem Told.step {w W W' : World} {c c' : Nat → Colour} {gw : Nat} {v : Value} {D : List (List (List Nat))} {us : List Value} (h : Told w W c gw v D us) (hcc : ∀ b, b < W.heap.size → c' b = c b) (hch : Ch (fun b => (c b).1 = 2 ∨ b = gw) W W') : Told w W' c' gw v D us := by
  refine ⟨ownK h.own fun b hb => ?_, fun b hb => ?_, h.rows⟩
  · obtain ⟨_, h2, h3, h4⟩ := h.ap b hb
    exact hch.block b h2 fun e => e.elim h3 h4
  · obtain ⟨h1, h2, h3, h4⟩ := h.ap b hb
    exact ⟨h1, Nat.lt_of_lt_of_le h2 hch.size, by rw [hcc b h2]; exact h3, h4⟩
theorem Told.txs {w W : World} {c : Nat → Colour} {gw : Nat} {v : Value} {D : List (List (List Nat))} {us : List Value} (h : Told w W c gw v D us) (hb : Below w.heap.size w W) (hl : D.length ≤ 1000000) : TxsIn W v D := by
  have hul : us.length = D.length := by have := h.own.1; omega
  rcases h.own.2 with ⟨e, h0⟩ | ⟨g, cap, cur, e, _, hg, hcap, _, _, htake⟩
  · obtain rfl : D = [] := List.length_eq_zero_iff.1 h0
    exact ⟨none, 0, e, by decide, Or.inl rfl⟩
  · refine ⟨_, cap, e, hl, Or.inr ⟨g, 0, rfl, fun i hi => ⟨us.getD i undef, ?_, RowsIn.later (h.rows i hi) hb⟩⟩⟩
    have h2 := h.own.cells (g := g) (by rw [e]; rfl) i (us.getD i undef) (by rw [List.getD_eq_getElem?_getD, List.getElem?_eq_getElem (by omega)]; rfl)
    rw [add_none] at h2
    exact h2
theorem Sw.chS {w0 W W' : World} {c : Nat → Colour} {g n : Nat} {m : Pl} {K : Nat} {S : Nat → Prop} (h : Sw w0 W c g n m K) (hc : Ch S W W') (hS : ∀ b, b < W.heap.size → S b → w0.heap.size ≤ b ∧ (c b).1 ≠ 2) : Sw w0 W' c g n m K := by
  have h0 := h.tab0
  exact ⟨⟨h.live.1.ch hc (fun b hb e => (hS b hb e).2) fun _ _ => rfl, h.live.2.1, fun b hb => h.live.2.2 b (Nat.le_trans hc.size hb)⟩, TabIn.ch h.tab hc (fun e => by have := (hS 0 (tab_lt h.tab) e).1; omega), h.cc, h.below.trans (hc.below h.below.size fun b hb e => by have := (hS b (Nat.lt_of_lt_of_le hb h.below.size) e).1; omega), h.shape, h.le, h.tab0⟩
theorem WalAt.chS {W W' : World} {c : Nat → Colour} {t gw g : Nat} {d : Int} {s used : Nat} {S : Nat → Prop} (h : WalAt W c t gw g d s used) (hc : Ch S W W') (hS : ¬ S gw ∧ ¬ S 0) : WalAt W' c t gw g d s used :=
  ⟨hc.row hS.1 h.row, h.ap, TabIn.ch h.tab hc hS.2, h.tap⟩
/-- one transaction more -/
theorem Told.push {w W : World} {c : Nat → Colour} {g n gw S E : Nat} {m : Pl} {K : Nat} {v : Value} {D : List (List (List Nat))} {us : List Value} (h : Told w W c gw v D us) (hs : Sw w W c g n m K) (hw : WalAt W c 2 gw g (0 : Nat) S E) (hl : D.length ≤ 1000) (p : Option Addr) (k cap : Nat) (L : List (List Nat)) (hr : RowsIn w (.slice p k cap) L) (ty : TypeId) : ∃ v' W', (Builtin.append_ #[36, 36] ty #[v, .slice (some ⟨W.heap.size, 0, none⟩) 1 1]).run Tryd.prog (W.alloc (.cells #[.slice p k cap] 28)) = .ok v' W' ∧ Sw w W' c g n m K ∧ WalAt W' c 2 gw g (0 : Nat) S E ∧ Told w W' c gw v' (D ++ [L]) (us ++ [.slice p k cap]) := by
  have b1 := below_alloc W (.cells #[.slice p k cap] 28)
  have s1 := hs.bel b1
  have w1 := hw.below b1
  have t1 := h.step (fun _ _ => rfl) (Ch.of_below b1 : Ch (fun b => (c b).1 = 2 ∨ b = gw) W _)
  have rr : Row (W.alloc (.cells #[.slice p k cap] 28)) W.heap.size 28 [.slice p k cap] := Row.new W 28 _
  have hz1 : (W.alloc (.cells #[.slice p k cap] 28)).heap.size = W.heap.size + 1 := World.size_alloc _ _
  have hul : us.length = D.length := by have := h.own.1; omega
  obtain ⟨v', W', hrn, ho, hg, hb⟩ := app_one' (t := 36) (e := 28) Tryd.underlying36 info28z ty v D.length us t1.own W.heap.size (.slice p k cap) rfl rr (by omega)
  have hch : Ch (fun b => v.ownBlock = some b) (W.alloc (.cells #[.slice p k cap] 28)) W' := ⟨hg.os, hg.tape, hg.output, hg.size, fun k hk hn => hg.block k hk fun e => hn e.symm⟩
  have h0 := hs.tab0
  refine ⟨v', W', hrn, s1.chS hch fun b _ e => ⟨(t1.ap b e).1, (t1.ap b e).2.2.1⟩, w1.chS hch ⟨fun e => (t1.ap gw e).2.2.2 rfl, fun e => by have := (t1.ap 0 e).1; omega⟩, ⟨by rw [List.length_append]; exact ho, fun b hb' => ?_, fun i hi => ?_⟩⟩
  · have hlt : b < W'.heap.size := by
      rcases ho.2 with ⟨e, h0⟩ | ⟨b', cap', cur, e, _, hg', _⟩
      · omega
      · rw [e] at hb'
        injection hb' with hb'
        rw [← hb']
        exact (Array.getElem?_eq_some_iff.1 hg').1
    rcases hb with hb | hb
    · obtain ⟨k1, k2, k3, k4⟩ := t1.ap b (by rw [← hb]; exact hb')
      exact ⟨k1, hlt, k3, k4⟩
    · rw [hb] at hb'
      injection hb' with hb'
      have hgw := w1.row.lt
      have hbs := s1.below.size
      exact ⟨by omega, hlt, s1.live.2.2 b (by omega), by omega⟩
  · rw [List.length_append] at hi
    rcases Nat.lt_or_ge i D.length with h1 | h1
    · rw [getD_left us _ _ i (by omega), getD_left D _ _ i h1]
      exact h.rows i h1
    · have e1 : i = D.length := by simp at hi; omega
      rw [e1, getD_last D, ← hul, getD_last us]
      exact hr
theorem Told.nil {w W : World} {c : Nat → Colour} {g n gw S E : Nat} {m : Pl} {K : Nat} (hs : Sw w W c g n m K) (hw : WalAt W c 2 gw g (0 : Nat) S E) : Told w (W.alloc (.cells #[] 28)) c gw (.slice (some ⟨W.heap.size, 0, none⟩) 0 0) [] [] := by
  have rr : Row (W.alloc (.cells #[] 28)) W.heap.size 28 [] := Row.new W 28 []
  have hz1 : (W.alloc (.cells #[] 28)).heap.size = W.heap.size + 1 := World.size_alloc _ _
  have hgw := hw.row.lt
  have hbs := hs.below.size
  refine ⟨⟨rfl, Or.inr ⟨W.heap.size, 0, #[], rfl, Nat.zero_le _, rr, Nat.le_refl _, by unfold maxLen; omega, rfl, rfl⟩⟩, fun b hb => ?_, fun i hi => absurd hi (Nat.not_lt_zero _)⟩
  injection hb with hb
  have hb : W.heap.size = b := hb
  exact ⟨by omega, by omega, hs.live.2.2 b (by omega), by omega⟩
end Go.Proofs.YtomfdnjbipgmcaaDoor

namespace Go.Proofs.YtomfdnjbipgmcaaDoor
open Go.RowKit Go.Maps

theorem eM5 : EntersF 5 := Go.Proofs.enters_of Tryd.func5 (by kernel_rfl) rfl
theorem eM6 : EntersF 6 := Go.Proofs.enters_of Tryd.func6 (by kernel_rfl) rfl
theorem eM8 : EntersF 8 := Go.Proofs.enters_of Tryd.func8 (by kernel_rfl) rfl
theorem eM11 : EntersF 11 := Go.Proofs.enters_of Tryd.func11 (by kernel_rfl) rfl
theorem eM12 : EntersF 12 := Go.Proofs.enters_of Tryd.func12 (by kernel_rfl) rfl
theorem eM13 : EntersF 13 := Go.Proofs.enters_of Tryd.func13 (by kernel_rfl) rfl
theorem eM14 : EntersF 14 := Go.Proofs.enters_of Tryd.func14 (by kernel_rfl) rfl
theorem eM15 : EntersF 15 := Go.Proofs.enters_of Tryd.func15 (by kernel_rfl) rfl
theorem eM16 : EntersF 16 := Go.Proofs.enters_of Tryd.func16 (by kernel_rfl) rfl
theorem IntsIn.keep {w W : World} {v : Value} {ks : List Int} (h : IntsIn w v ks) (hb : Below w.heap.size w W) {c : Nat → Colour} (hc : ∀ b, b < w.heap.size → c b = (0, 0)) : KeepIn W c 2 v ks := by
  obtain ⟨p, cap, h1, h2, h3, h4⟩ := h
  refine ⟨p, cap, h1, h2, h3, ?_⟩
  rcases h4 with h4 | ⟨b, off, h5, h6⟩
  · exact Or.inl h4
  · by_cases h0 : ks = []
    · exact Or.inl h0
    · have hlt := block_lt_of_cell (h6 0 (List.length_pos_iff.2 h0))
      exact Or.inr ⟨b, off, h5, by rw [hc b hlt]; decide, Nat.lt_of_lt_of_le hlt hb.size, fun j hj => by rw [← h6 j hj]; exact World.cell?_of_block (hb.block b hlt)⟩
/-- transactions that came in -/
def ArgIn (w : World) (v : Value) (D : List (List (List Nat))) : Prop :=
  ∃ p cap, v = .slice p D.length cap ∧ D.length ≤ 1099511627776 ∧ (D = [] ∨ ∃ b off, p = some ⟨b, off, none⟩ ∧ ∀ i, i < D.length → ∃ u, w.cell? ⟨b, off + i, none⟩ = some u ∧ RowsIn w u (D.getD i []))
theorem ArgIn.arg {w : World} {p : Option Addr} {n cap : Nat} {D : List (List (List Nat))} (h : ArgIn w (.slice p n cap) D) (k : Nat) (hk : k < D.length) : ∃ (b off : Nat) (pu : Option Addr) (cu : Nat), p = some ⟨b, off, none⟩ ∧ RowsIn w (.slice pu (D.getD k []).length cu) (D.getD k []) ∧ ∀ W, Below w.heap.size w W → W.cell? ⟨b, off + k, none⟩ = some (.slice pu (D.getD k []).length cu) := by
  obtain ⟨p', cap', h1, _, h3⟩ := h
  injection h1 with h1 h1'
  subst h1
  rcases h3 with h3 | ⟨b, off, h4, h5⟩
  · rw [h3] at hk; exact absurd hk (Nat.not_lt_zero _)
  · obtain ⟨u, h6, h7⟩ := h5 k hk
    obtain ⟨pu, cu, h8, _⟩ := id h7
    subst h8
    exact ⟨b, off, pu, cu, h4, h7, fun W hW => by rw [← h6]; exact World.cell?_of_block (hW.block b (block_lt_of_cell h6))⟩
theorem ArgIn.len {w : World} {p : Option Addr} {n cap : Nat} {D : List (List (List Nat))} (h : ArgIn w (.slice p n cap) D) : n = D.length ∧ n ≤ 1099511627776 := by
  obtain ⟨p', cap', h1, h2, _⟩ := h
  injection h1 with h1 h3 h4
  exact ⟨h3, by omega⟩
theorem Sw.mono {w0 W : World} {c : Nat → Colour} {g n : Nat} {m : Pl} {K K' : Nat} (h : Sw w0 W c g n m K) (hk : K ≤ K') : Sw w0 W c g n m K' := ⟨h.live, h.tab, h.cc, h.below, h.shape, by have := h.le; omega, h.tab0⟩
/-- ahead of a round -/
structure AnS (w : World) (g i : Nat) (c : Nat → Colour) (m : Pl) (D : List (List (List Nat))) (W : World) : Prop where
  le : i ≤ 6
  sw : Sw w W c g 64 m (5000 + 1000 * i)
  jc : Jc m 0 64 D
  calm : m.fuse < 0
  zero : i = 0 → D = []
/-- within a round: what was appended -/
structure AnK (w : World) (g gw S B k : Nat) (c : Nat → Colour) (m : Pl) (E : Nat) (D : List (List (List Nat))) (v : Value) (us : List Value) (W : World) : Prop where
  le : k ≤ 7
  few : D.length ≤ k
  told : Told w W c gw v D us
  sw : Sw w W c g 64 m (B + 100 * k)
  wal : WalAt W c 2 gw g (0 : Nat) S E
  jo : Jo m 0 64 S E D
  calm : m.fuse < 0
  gwn : w.heap.size ≤ gw
set_option maxHeartbeats 16000000 in
set_option maxRecDepth 100000 in
theorem walAnew_any (w : World) (ht : Fr.TabIn w) (p0 : Option Addr) (n0 cap0 : Nat) (l : List (List (List Nat))) (hl : ArgIn w (.slice p0 n0 cap0) l) (hsz : ∀ k, k < l.length → txSize (l.getD k []) ≤ 100000000) (tm : Int) (htm : -9223372036854775808 ≤ tm ∧ tm ≤ 9223372036854775807) (vk : Value) (ks : List Int) (hk : IntsIn w vk ks) : Calls Tryd.prog 4 #[.slice p0 n0 cap0, .int .i64 tm, vk] w fun e w' => e = .returned (.bool true) ∧ Below w.heap.size w w' := by
  have HT : Hid (Fr.TabIn w) := ht
  have HL : Hid (ArgIn w (.slice p0 n0 cap0) l) := hl
  have HN : Hid (n0 = l.length ∧ n0 ≤ 1099511627776) := hl.len
  have HSZ : Hid (∀ k, k < l.length → txSize (l.getD k []) ≤ 100000000) := hsz
  have HK : Hid (IntsIn w vk ks) := hk
  obtain ⟨wh, hwh⟩ : ∃ wh, wh = whichOf tm 6 := ⟨_, rfl⟩
  have hw6 : wh < 6 := by rw [hwh]; exact whichOf_lt tm 6 (by decide)
  have HWH : Hid (∀ W, Calls Tryd.prog 8 #[.int .i64 tm, .int .i64 6] W fun e w' => e = .returned (.int .i64 (wh : Nat)) ∧ W = w') := fun W => by rw [hwh]; exact which_any W tm 6 (by decide) htm.1 htm.2
  have HMD : Hid (∀ W, Below w.heap.size w W → Calls Tryd.prog 6 #[.int .i64 1, .int .i64 64] W fun e w' => ∃ g c', e = .returned (ptr g) ∧ Sw w w' c' g 64 (newPl (List.replicate 1 ((64 : Nat) : Int)) []) 0) := fun W hW => by
    refine (made_any W (fun _ => (0, 0)) 2 1 64 ⟨by decide, by decide⟩ ⟨by decide, by decide⟩).mono ?_
    rintro e w' ⟨g, c', rfl, _, h2, h3, h4⟩
    exact ⟨g, c', rfl, ⟨h3, TabIn.later ht (hW.trans (h4.mono hW.size)), fun b hlt => h2 b (Nat.lt_of_lt_of_le hlt hW.size), hW.trans (h4.mono hW.size), newPl_rep 1 64, Nat.le_refl _, tab_lt ht⟩⟩
  obtain ⟨PQ, hPQ⟩ : ∃ PQ : Ending → World → Prop, PQ = fun (e : Ending) (w' : World) => e = .returned (.bool true) ∧ Below w.heap.size w w' := ⟨_, rfl⟩
  have HPQ : Hid (PQ = fun (e : Ending) (w' : World) => e = .returned (.bool true) ∧ Below w.heap.size w w') := hPQ
  rw [← hPQ]
  clear hPQ ht hl hsz hk htm hwh
  go_enter Tryd.func4, Tryd.ntmps4
  go_upto_region 0 with fail
  refine wp_region_lit ?_
  refine wl rfl (.bool false) _ (run_asZ (.const (.bool false)) rfl (.bool false) rfl) ?_
  simp only [Act.put, List.setIfInBounds_toArray, List.set_cons_succ, List.set_cons_zero]
  refine wpList_nil ?_
  go_upto_region 1 with fail
  refine wp_region_lit ?_
  refine wpList_callW eM5 [] _ rfl rfl [] rfl ?_
  refine (shown_any w HT.out).mono ?_
  rintro e W0 ⟨rfl, b_⟩
  refine ⟨_, rfl, ?_⟩
  have HB0 : Hid (Below w.heap.size w W0) := b_
  clear b_
  simp only [Act.put, List.setIfInBounds_toArray, List.set_cons_succ, List.set_cons_zero]
  refine wl rfl (.bool true) _ (run_asZ (.tmp 20) rfl (.bool true) rfl) ?_
  simp only [Act.put, List.setIfInBounds_toArray, List.set_cons_succ, List.set_cons_zero]
  refine wpList_nil ?_
  go_upto_region 2 with fail
  refine wp_region_lit ?_
  refine wl rfl (.bool true) _ (run_mvZ (.tmp 7) rfl (.bool true) rfl) ?_
  simp only [Act.put, List.setIfInBounds_toArray, List.set_cons_succ, List.set_cons_zero]
  refine wl rfl (.bool false) _ (run_not (.tmp 21) 4 rfl true rfl) ?_
  simp only [Act.put, List.setIfInBounds_toArray, List.set_cons_succ, List.set_cons_zero]
  refine wpList_nil ?_
  go_upto_region 4 with fail
  refine wp_region_lit ?_
  refine wpList_callW eM6 [.const (.int .i64 1), .const (.int .i64 64)] _ rfl rfl [.int .i64 1, .int .i64 64] rfl ?_
  refine (HMD.out W0 HB0.out).mono ?_
  rintro e W1 ⟨g, c1, rfl, h_⟩
  refine ⟨_, rfl, ?_⟩
  have H1 : Hid (Sw w W1 c1 g 64 (newPl (List.replicate 1 ((64 : Nat) : Int)) []) 0) := h_
  clear h_ HMD HB0
  simp only [Act.put, List.setIfInBounds_toArray, List.set_cons_succ, List.set_cons_zero]
  refine wl rfl (ptr g) _ (run_asZ (.tmp 23) rfl (ptr g) rfl) ?_
  simp only [Act.put, List.setIfInBounds_toArray, List.set_cons_succ, List.set_cons_zero]
  refine wpList_nil ?_
  go_upto_region 5 with fail
  refine wp_region_lit ?_
  refine wl rfl (ptr g) _ (run_mvZ (.tmp 8) rfl (ptr g) rfl) ?_
  simp only [Act.put, List.setIfInBounds_toArray, List.set_cons_succ, List.set_cons_zero]
  refine wl rfl (.bool false) _ (run_binOp' (.tmp 24) (.const (.pointer none)) rfl _ _ _ rfl rfl rfl (by kernel_rfl)) ?_
  simp only [Act.put, List.setIfInBounds_toArray, List.set_cons_succ, List.set_cons_zero]
  refine wpList_nil ?_
  go_upto_region 7 with fail
  refine wp_region_lit ?_
  refine wl rfl (ptr g) _ (run_mvZ (.tmp 8) rfl (ptr g) rfl) ?_
  simp only [Act.put, List.setIfInBounds_toArray, List.set_cons_succ, List.set_cons_zero]
  refine wpList_callW eM11 [.tmp 26, .const (.int .i64 0)] _ rfl rfl [(ptr g), .int .i64 0] rfl ?_
  refine (sFormat H1.out (by decide) (by decide) rfl (by show (-1 : Int) < 0; decide)).mono ?_
  rintro e W2 ⟨rfl, c2, m2, h_, j_, f_⟩
  refine ⟨_, rfl, ?_⟩
  have H2 : Hid (AnS w g 0 c2 m2 [] W2) := ⟨by decide, h_, j_, f_, fun _ => rfl⟩
  clear h_ j_ f_ H1
  simp only [Act.put, List.setIfInBounds_toArray, List.set_cons_succ, List.set_cons_zero]
  refine wl rfl (.int .i64 0) _ (run_asZ (.tmp 27) rfl (.int .i64 0) rfl) ?_
  simp only [Act.put, List.setIfInBounds_toArray, List.set_cons_succ, List.set_cons_zero]
  refine wpList_nil ?_
  go_upto_region 8 with fail
  refine wp_region_lit ?_
  refine wl rfl (.int .i64 0) _ (run_mvZ (.tmp 9) rfl (.int .i64 0) rfl) ?_
  simp only [Act.put, List.setIfInBounds_toArray, List.set_cons_succ, List.set_cons_zero]
  refine wl rfl (.bool false) _ (run_neZ (.tmp 28) (.const (.int .i64 0)) rfl (0) (0) rfl rfl false rfl) ?_
  simp only [Act.put, List.setIfInBounds_toArray, List.set_cons_succ, List.set_cons_zero]
  refine wpList_nil ?_
  go_upto_region 10 with fail
  refine wp_region_lit ?_
  refine wl rfl (.int .i64 0) _ (run_asZ (.const (.int .i64 0)) rfl (.int .i64 0) rfl) ?_
  simp only [Act.put, List.setIfInBounds_toArray, List.set_cons_succ, List.set_cons_zero]
  refine wpList_nil ?_
  go_wp2_with fail
  go_loopw [10] (fun vi W => ∃ (i : Nat) (c : Nat → Colour) (m : Pl) (D : List (List (List Nat))), vi = .int .i64 (i : Nat) ∧ AnS w g i c m D W) (fun vi _ => 7 - (intOf vi).toNat)
  case atStart => exact ⟨0, c2, m2, [], rfl, H2.out⟩
  case round =>
    obtain ⟨i, c, m, D, rfl, hst⟩ := hrel
    have HS : Hid (AnS w g i c m D wr) := hst
    clear hst H2
    have hi6 := HS.out.le
    obtain ⟨WK, hWK⟩ : ∃ W : World, W = wr := ⟨_, rfl⟩
    subst hWK
    by_cases hi : i < 1 + wh
    · have h1 : decide ((i : Int) < ((1 + wh : Nat) : Int)) = true := decide_eq_true (by omega)
      go_upto_region 11 with fail
      refine wp_region_lit ?_
      refine wl rfl (.int .i64 (i : Nat)) _ (run_mvZ (.tmp 10) rfl (.int .i64 (i : Nat)) rfl) ?_
      simp only [Act.put, List.setIfInBounds_toArray, List.set_cons_succ, List.set_cons_zero]
      refine wl rfl (.int .i64 tm) _ (run_mvZ (.tmp 1) rfl (.int .i64 tm) rfl) ?_
      simp only [Act.put, List.setIfInBounds_toArray, List.set_cons_succ, List.set_cons_zero]
      refine wpList_callW eM8 [.tmp 31, .const (.int .i64 6)] _ rfl rfl [(.int .i64 tm), .int .i64 6] rfl ?_
      refine (HWH.out WK).mono ?_
      rintro e W_ ⟨rfl, rfl⟩
      refine ⟨_, rfl, ?_⟩
      simp only [Act.put, List.setIfInBounds_toArray, List.set_cons_succ, List.set_cons_zero]
      refine wl rfl (.int .i64 ((1 + wh : Nat) : Int)) _ (run_addI (.const (.int .i64 1)) (.tmp 32) rfl _ _ ((1 + wh : Nat) : Int) (by omega) (by omega) (by omega) rfl rfl) ?_
      simp only [Act.put, List.setIfInBounds_toArray, List.set_cons_succ, List.set_cons_zero]
      refine wl rfl (.bool true) _ (run_lssZ (.tmp 30) (.tmp 33) rfl _ _ rfl rfl true h1) ?_
      simp only [Act.put, List.setIfInBounds_toArray, List.set_cons_succ, List.set_cons_zero]
      refine wpList_nil ?_
      clear h1
      go_upto_region 13 with fail
      refine wp_region_lit ?_
      refine wl rfl (ptr g) _ (run_mvZ (.tmp 8) rfl (ptr g) rfl) ?_
      simp only [Act.put, List.setIfInBounds_toArray, List.set_cons_succ, List.set_cons_zero]
      refine wpList_callW eM12 [.tmp 38, .const (.int .i64 0)] _ rfl rfl [(ptr g), .int .i64 0] rfl ?_
      refine (sOpen HS.out.sw (by omega) HS.out.jc HS.out.calm).mono ?_
      rintro e W3 ⟨gw, p3, cap3, S3, E3, c3, m3, rfl, h_, g_, a_, j_, f_, _, _, _⟩
      refine ⟨_, rfl, ?_⟩
      have H3 : Hid (Sw w W3 c3 g 64 m3 (5000 + 1000 * i + 2) ∧ WalAt W3 c3 2 gw g (0 : Nat) S3 E3 ∧ Jo m3 0 64 S3 E3 D ∧ m3.fuse < 0 ∧ w.heap.size ≤ gw) := ⟨h_, a_, j_, f_, Nat.le_trans HS.out.sw.below.size g_⟩
      have HD0 : Hid (i = 0 → D.length = 0) := fun h => by rw [HS.out.zero h]; rfl
      clear h_ g_ a_ j_ f_ HS
      simp only [Act.put, List.setIfInBounds_toArray, List.set_cons_succ, List.set_cons_zero]
      refine wl rfl (.tuple #[(ptr gw), (.slice p3 D.length cap3), (.int .i64 0)]) _ (run_mvZ (.tmp 39) rfl (.tuple #[(ptr gw), (.slice p3 D.length cap3), (.int .i64 0)]) rfl) ?_
      simp only [Act.put, List.setIfInBounds_toArray, List.set_cons_succ, List.set_cons_zero]
      refine wl rfl (ptr gw) _ (run_extZ (.tmp 37) 0 rfl #[(ptr gw), (.slice p3 D.length cap3), (.int .i64 0)] rfl (ptr gw) rfl) ?_
      simp only [Act.put, List.setIfInBounds_toArray, List.set_cons_succ, List.set_cons_zero]
      refine wl rfl (.slice p3 D.length cap3) _ (run_extZ (.tmp 37) 1 rfl #[(ptr gw), (.slice p3 D.length cap3), (.int .i64 0)] rfl (.slice p3 D.length cap3) rfl) ?_
      simp only [Act.put, List.setIfInBounds_toArray, List.set_cons_succ, List.set_cons_zero]
      refine wl rfl (.int .i64 0) _ (run_extZ (.tmp 37) 2 rfl #[(ptr gw), (.slice p3 D.length cap3), (.int .i64 0)] rfl (.int .i64 0) rfl) ?_
      simp only [Act.put, List.setIfInBounds_toArray, List.set_cons_succ, List.set_cons_zero]
      refine wl rfl (ptr gw) _ (run_asZ (.tmp 40) rfl (ptr gw) rfl) ?_
      simp only [Act.put, List.setIfInBounds_toArray, List.set_cons_succ, List.set_cons_zero]
      refine wl rfl (.slice p3 D.length cap3) _ (run_asZ (.tmp 41) rfl (.slice p3 D.length cap3) rfl) ?_
      simp only [Act.put, List.setIfInBounds_toArray, List.set_cons_succ, List.set_cons_zero]
      refine wl rfl (.int .i64 0) _ (run_asZ (.tmp 42) rfl (.int .i64 0) rfl) ?_
      simp only [Act.put, List.setIfInBounds_toArray, List.set_cons_succ, List.set_cons_zero]
      refine wpList_nil ?_
      go_upto_region 14 with fail
      refine wp_region_lit ?_
      refine wl rfl (ptr gw) _ (run_mvZ (.tmp 11) rfl (ptr gw) rfl) ?_
      simp only [Act.put, List.setIfInBounds_toArray, List.set_cons_succ, List.set_cons_zero]
      refine wl rfl (.bool false) _ (run_binOp' (.tmp 43) (.const (.pointer none)) rfl _ _ _ rfl rfl rfl (by kernel_rfl)) ?_
      simp only [Act.put, List.setIfInBounds_toArray, List.set_cons_succ, List.set_cons_zero]
      refine wl rfl (.bool false) _ (run_mvZ (.tmp 44) rfl (.bool false) rfl) ?_
      simp only [Act.put, List.setIfInBounds_toArray, List.set_cons_succ, List.set_cons_zero]
      refine wl (by kernel_rfl) (.int .i64 0) _ (run_mvZ (.tmp 13) rfl (.int .i64 0) rfl) ?_
      simp only [Act.put, List.setIfInBounds_toArray, List.set_cons_succ, List.set_cons_zero]
      refine wl (by kernel_rfl) (.bool false) _ (run_neZ (.tmp 46) (.const (.int .i64 0)) rfl (0) (0) rfl rfl false rfl) ?_
      simp only [Act.put, List.setIfInBounds_toArray, List.set_cons_succ, List.set_cons_zero]
      refine wl rfl (.bool false) _ (run_pickZ (.tmp 45) (.const (.bool true)) (.tmp 47) rfl false (.bool false) rfl rfl) ?_
      simp only [Act.put, List.setIfInBounds_toArray, List.set_cons_succ, List.set_cons_zero]
      refine wpList_nil ?_
      go_upto_region 16 with fail
      refine wp_region_lit ?_
      refine wl rfl (ptr gw) _ (run_mvZ (.tmp 11) rfl (ptr gw) rfl) ?_
      simp only [Act.put, List.setIfInBounds_toArray, List.set_cons_succ, List.set_cons_zero]
      refine wpList_callW eM13 [.tmp 49] _ rfl rfl [(ptr gw)] rfl ?_
      refine (sTrunc H3.out.1 (by omega) H3.out.2.1 H3.out.2.2.2.2 H3.out.2.2.1 H3.out.2.2.2.1).mono ?_
      rintro e W4 ⟨rfl, c4, m4, h_, a_, j_, f_, _, _⟩
      refine ⟨_, rfl, ?_⟩
      have H4 : Hid (Sw w W4 c4 g 64 m4 (5000 + 1000 * i + 4) ∧ WalAt W4 c4 2 gw g (0 : Nat) (S3 + 1) 0 ∧ Jo m4 0 64 (S3 + 1) 0 [] ∧ m4.fuse < 0 ∧ w.heap.size ≤ gw) := ⟨h_, a_, j_, f_, H3.out.2.2.2.2⟩
      clear h_ a_ j_ f_ H3
      simp only [Act.put, List.setIfInBounds_toArray, List.set_cons_succ, List.set_cons_zero]
      refine wl rfl (.int .i64 0) _ (run_asZ (.tmp 50) rfl (.int .i64 0) rfl) ?_
      simp only [Act.put, List.setIfInBounds_toArray, List.set_cons_succ, List.set_cons_zero]
      refine wpList_nil ?_
      by_cases hi0 : i = 0
      · have d1 : decide ((i : Int) = 0) = true := decide_eq_true (by omega)
        have hd0 := HD0.out hi0
        have d2 : decide ((0 : Int) < (D.length : Int)) = false := decide_eq_false (by omega)
        go_upto_region 17 with fail
        refine wp_region_lit ?_
        refine wl rfl (.int .i64 0) _ (run_mvZ (.tmp 14) rfl (.int .i64 0) rfl) ?_
        simp only [Act.put, List.setIfInBounds_toArray, List.set_cons_succ, List.set_cons_zero]
        refine wl rfl (.bool false) _ (run_neZ (.tmp 51) (.const (.int .i64 0)) rfl (0) (0) rfl rfl false rfl) ?_
        simp only [Act.put, List.setIfInBounds_toArray, List.set_cons_succ, List.set_cons_zero]
        refine wl rfl (.bool false) _ (run_mvZ (.tmp 52) rfl (.bool false) rfl) ?_
        simp only [Act.put, List.setIfInBounds_toArray, List.set_cons_succ, List.set_cons_zero]
        refine wl (by kernel_rfl) (.int .i64 (i : Nat)) _ (run_mvZ (.tmp 10) rfl (.int .i64 (i : Nat)) rfl) ?_
        simp only [Act.put, List.setIfInBounds_toArray, List.set_cons_succ, List.set_cons_zero]
        refine wl (by kernel_rfl) (.bool true) _ (run_eqZ (.tmp 54) (.const (.int .i64 0)) rfl _ _ rfl rfl true d1) ?_
        simp only [Act.put, List.setIfInBounds_toArray, List.set_cons_succ, List.set_cons_zero]
        refine wl (by kernel_rfl) (.bool true) _ (run_mvZ (.tmp 55) rfl (.bool true) rfl) ?_
        simp only [Act.put, List.setIfInBounds_toArray, List.set_cons_succ, List.set_cons_zero]
        refine wl (by kernel_rfl) (.slice p3 D.length cap3) _ (run_mvZ (.tmp 12) rfl (.slice p3 D.length cap3) rfl) ?_
        simp only [Act.put, List.setIfInBounds_toArray, List.set_cons_succ, List.set_cons_zero]
        refine wl (by kernel_rfl) (.int .i64 (D.length : Nat)) _ (run_lenZ sl36 (.tmp 57) rfl p3 D.length cap3 rfl) ?_
        simp only [Act.put, List.setIfInBounds_toArray, List.set_cons_succ, List.set_cons_zero]
        refine wl (by kernel_rfl) (.bool false) _ (run_gtrZ (.tmp 58) (.const (.int .i64 0)) rfl _ _ rfl rfl false d2) ?_
        simp only [Act.put, List.setIfInBounds_toArray, List.set_cons_succ, List.set_cons_zero]
        refine wl (by kernel_rfl) (.bool false) _ (run_pickZ (.tmp 56) (.tmp 59) (.const (.bool false)) rfl true (.bool false) rfl rfl) ?_
        simp only [Act.put, List.setIfInBounds_toArray, List.set_cons_succ, List.set_cons_zero]
        refine wl rfl (.bool false) _ (run_pickZ (.tmp 53) (.const (.bool true)) (.tmp 60) rfl false (.bool false) rfl rfl) ?_
        simp only [Act.put, List.setIfInBounds_toArray, List.set_cons_succ, List.set_cons_zero]
        refine wpList_nil ?_
        clear d1 d2 hd0
        go_upto_region 19 with fail
        refine wp_region_lit ?_
        refine wl rfl (.slice (some ⟨W4.heap.size, 0, none⟩) 0 0) _ (run_lit36n rfl) ?_
        have H5 : Hid (AnK w g gw (S3 + 1) (5000 + 1000 * i + 4) 0 c4 m4 0 [] (.slice (some ⟨W4.heap.size, 0, none⟩) 0 0) [] (W4.alloc (.cells #[] 28))) := ⟨by decide, Nat.le_refl _, Told.nil H4.out.1 H4.out.2.1, H4.out.1.bel (below_alloc W4 _), H4.out.2.1.below (below_alloc W4 _), H4.out.2.2.1, H4.out.2.2.2.1, H4.out.2.2.2.2⟩
        obtain ⟨W5, hW_⟩ : ∃ W, W = W4.alloc (.cells #[] 28) := ⟨_, rfl⟩
        obtain ⟨va, hv_⟩ : ∃ v, v = Value.slice (some ⟨W4.heap.size, 0, none⟩) 0 0 := ⟨_, rfl⟩
        rw [← hW_, ← hv_] at H5
        rw [← hW_, ← hv_]
        clear hW_ hv_ H4
        simp only [Act.put, List.setIfInBounds_toArray, List.set_cons_succ, List.set_cons_zero]
        refine wl rfl va _ (run_asZ (.tmp 62) rfl va rfl) ?_
        simp only [Act.put, List.setIfInBounds_toArray, List.set_cons_succ, List.set_cons_zero]
        refine wpList_nil ?_
        go_upto_region 20 with fail
        refine wp_region_lit ?_
        refine wl rfl (.int .i64 0) _ (run_asZ (.const (.int .i64 0)) rfl (.int .i64 0) rfl) ?_
        simp only [Act.put, List.setIfInBounds_toArray, List.set_cons_succ, List.set_cons_zero]
        refine wpList_nil ?_
        go_wp2_with fail
        go_loopw [15, 16] (fun va vk W => ∃ (k : Nat) (c : Nat → Colour) (m : Pl) (E : Nat) (D : List (List (List Nat))) (us : List Value), vk = .int .i64 (k : Nat) ∧ AnK w g gw (S3 + 1) (5000 + 1000 * i + 4) k c m E D va us W) (fun _ vk _ => 8 - (intOf vk).toNat)
        case atStart => exact ⟨0, c4, m4, 0, [], [], rfl, H5.out⟩
        case round =>
          obtain ⟨k, c, m, E, D2, us, rfl, hst⟩ := hrel
          have HJ : Hid (AnK w g gw (S3 + 1) (5000 + 1000 * i + 4) k c m E D2 u15 us wr) := hst
          clear hst H5
          have hk7 := HJ.out.le
          by_cases hlt : k < n0
          · by_cases hki : k ≤ i
            · have h1 : decide ((k : Int) < (n0 : Int)) = true := decide_eq_true (by omega)
              have h2 : decide ((k : Int) ≤ (i : Int)) = true := decide_eq_true (by omega)
              go_upto_region 21 with fail
              refine wp_region_lit ?_
              refine wl rfl (.int .i64 (k : Nat)) _ (run_mvZ (.tmp 16) rfl (.int .i64 (k : Nat)) rfl) ?_
              simp only [Act.put, List.setIfInBounds_toArray, List.set_cons_succ, List.set_cons_zero]
              refine wl rfl (.slice p0 n0 cap0) _ (run_mvZ (.tmp 0) rfl (.slice p0 n0 cap0) rfl) ?_
              simp only [Act.put, List.setIfInBounds_toArray, List.set_cons_succ, List.set_cons_zero]
              refine wl rfl (.int .i64 (n0 : Nat)) _ (run_lenZ sl36 (.tmp 64) rfl p0 n0 cap0 rfl) ?_
              simp only [Act.put, List.setIfInBounds_toArray, List.set_cons_succ, List.set_cons_zero]
              refine wl rfl (.bool true) _ (run_lssZ (.tmp 63) (.tmp 65) rfl _ _ rfl rfl true h1) ?_
              simp only [Act.put, List.setIfInBounds_toArray, List.set_cons_succ, List.set_cons_zero]
              refine wl rfl (.bool true) _ (run_mvZ (.tmp 66) rfl (.bool true) rfl) ?_
              simp only [Act.put, List.setIfInBounds_toArray, List.set_cons_succ, List.set_cons_zero]
              refine wl (by kernel_rfl) (.int .i64 (k : Nat)) _ (run_mvZ (.tmp 16) rfl (.int .i64 (k : Nat)) rfl) ?_
              simp only [Act.put, List.setIfInBounds_toArray, List.set_cons_succ, List.set_cons_zero]
              refine wl (by kernel_rfl) (.int .i64 (i : Nat)) _ (run_mvZ (.tmp 10) rfl (.int .i64 (i : Nat)) rfl) ?_
              simp only [Act.put, List.setIfInBounds_toArray, List.set_cons_succ, List.set_cons_zero]
              refine wl (by kernel_rfl) (.bool true) _ (run_leqZ (.tmp 68) (.tmp 69) rfl _ _ rfl rfl true h2) ?_
              simp only [Act.put, List.setIfInBounds_toArray, List.set_cons_succ, List.set_cons_zero]
              refine wl rfl (.bool true) _ (run_pickZ (.tmp 67) (.tmp 70) (.const (.bool false)) rfl true (.bool true) rfl rfl) ?_
              simp only [Act.put, List.setIfInBounds_toArray, List.set_cons_succ, List.set_cons_zero]
              refine wpList_nil ?_
              clear h1 h2
              obtain ⟨fb, fo, pu, cu, hp0, hrow, hu⟩ := HL.out.arg k (by rw [← HN.out.1]; exact hlt)
              subst hp0
              obtain ⟨L, hLe⟩ : ∃ L, L = l.getD k [] := ⟨_, rfl⟩
              have hLsz : txSize L ≤ 100000000 := by rw [hLe]; exact HSZ.out k (by rw [← HN.out.1]; exact hlt)
              rw [← hLe] at hrow hu
              obtain ⟨ul, hul⟩ : ∃ ul, ul = L.length := ⟨_, rfl⟩
              rw [← hul] at hrow hu
              have HU : Hid (RowsIn w (.slice pu ul cu) L ∧ ∀ W, Below w.heap.size w W → W.cell? ⟨fb, fo + k, none⟩ = some (.slice pu ul cu)) := ⟨hrow, hu⟩
              clear hrow hu hLe hul
              go_upto_region 23 with fail
              refine wp_region_lit ?_
              refine wl rfl (ptr gw) _ (run_mvZ (.tmp 11) rfl (ptr gw) rfl) ?_
              simp only [Act.put, List.setIfInBounds_toArray, List.set_cons_succ, List.set_cons_zero]
              refine wl rfl (.slice (some ⟨fb, fo, none⟩) n0 cap0) _ (run_mvZ (.tmp 0) rfl (.slice (some ⟨fb, fo, none⟩) n0 cap0) rfl) ?_
              simp only [Act.put, List.setIfInBounds_toArray, List.set_cons_succ, List.set_cons_zero]
              refine wl rfl (.int .i64 (k : Nat)) _ (run_mvZ (.tmp 16) rfl (.int .i64 (k : Nat)) rfl) ?_
              simp only [Act.put, List.setIfInBounds_toArray, List.set_cons_succ, List.set_cons_zero]
              refine wl rfl (.pointer (some ⟨fb, fo + k, none⟩)) _ (run_ix36 (.tmp 75) (.tmp 76) rfl fb fo n0 cap0 k rfl rfl hlt) ?_
              simp only [Act.put, List.setIfInBounds_toArray, List.set_cons_succ, List.set_cons_zero]
              refine wl rfl (.slice pu ul cu) _ (run_load1 o28' (.tmp 77) rfl fb (fo + k) rfl (.slice pu ul cu) (HU.out.2 _ HJ.out.sw.below)) ?_
              simp only [Act.put, List.setIfInBounds_toArray, List.set_cons_succ, List.set_cons_zero]
              refine wpList_callW eM14 [.tmp 74, .tmp 78] _ rfl rfl [(ptr gw), (.slice pu ul cu)] rfl ?_
              refine (sApp HJ.out.sw (by omega) HJ.out.wal HJ.out.gwn HJ.out.jo HJ.out.calm _ L (RowsIn.later HU.out.1 HJ.out.sw.below) hLsz).mono ?_
              rintro e W6 ⟨er, c6, m6, un, D6, rfl, al_, h_, a_, j_, f_, cc_, ch_⟩
              refine ⟨_, rfl, ?_⟩
              have H6 : Hid (Told w W6 c6 gw u15 D2 us ∧ Sw w W6 c6 g 64 m6 (5000 + 1000 * i + 4 + 100 * k + 100) ∧ WalAt W6 c6 2 gw g (0 : Nat) (S3 + 1) un ∧ Jo m6 0 64 (S3 + 1) un D6 ∧ m6.fuse < 0) := ⟨HJ.out.told.step cc_ ch_, h_, a_, j_, f_⟩
              have HFW : Hid (D2.length ≤ k ∧ w.heap.size ≤ gw) := ⟨HJ.out.few, HJ.out.gwn⟩
              clear h_ a_ j_ f_ cc_ ch_ HJ
              simp only [Act.put, List.setIfInBounds_toArray, List.set_cons_succ, List.set_cons_zero]
              refine wl rfl (.int .i64 er) _ (run_asZ (.tmp 79) rfl (.int .i64 er) rfl) ?_
              simp only [Act.put, List.setIfInBounds_toArray, List.set_cons_succ, List.set_cons_zero]
              refine wpList_nil ?_
              rcases al_ with ⟨rfl, rfl⟩ | ⟨rfl, rfl⟩ | ⟨rfl, rfl⟩
              · go_upto_region 24 with fail
                refine wp_region_lit ?_
                refine wl rfl (.int .i64 0) _ (run_mvZ (.tmp 17) rfl (.int .i64 0) rfl) ?_
                simp only [Act.put, List.setIfInBounds_toArray, List.set_cons_succ, List.set_cons_zero]
                refine wl rfl (.bool true) _ (run_eqZ (.tmp 80) (.const (.int .i64 0)) rfl (0) (0) rfl rfl true rfl) ?_
                simp only [Act.put, List.setIfInBounds_toArray, List.set_cons_succ, List.set_cons_zero]
                refine wpList_nil ?_
                go_upto_region 25 with fail
                refine wp_region_lit ?_
                refine wl rfl u15 _ (run_mvZ (.tmp 15) rfl u15 rfl) ?_
                simp only [Act.put, List.setIfInBounds_toArray, List.set_cons_succ, List.set_cons_zero]
                refine wl rfl (.slice (some ⟨fb, fo, none⟩) n0 cap0) _ (run_mvZ (.tmp 0) rfl (.slice (some ⟨fb, fo, none⟩) n0 cap0) rfl) ?_
                simp only [Act.put, List.setIfInBounds_toArray, List.set_cons_succ, List.set_cons_zero]
                refine wl rfl (.int .i64 (k : Nat)) _ (run_mvZ (.tmp 16) rfl (.int .i64 (k : Nat)) rfl) ?_
                simp only [Act.put, List.setIfInBounds_toArray, List.set_cons_succ, List.set_cons_zero]
                refine wl rfl (.pointer (some ⟨fb, fo + k, none⟩)) _ (run_ix36 (.tmp 83) (.tmp 84) rfl fb fo n0 cap0 k rfl rfl hlt) ?_
                simp only [Act.put, List.setIfInBounds_toArray, List.set_cons_succ, List.set_cons_zero]
                refine wl rfl (.slice pu ul cu) _ (run_load1 o28' (.tmp 85) rfl fb (fo + k) rfl (.slice pu ul cu) (HU.out.2 _ H6.out.2.1.below)) ?_
                simp only [Act.put, List.setIfInBounds_toArray, List.set_cons_succ, List.set_cons_zero]
                refine wl rfl (.slice (some ⟨W6.heap.size, 0, none⟩) 1 1) _ (run_lit36a (.tmp 86) rfl _ _ _ rfl) ?_
                simp only [Act.put, List.setIfInBounds_toArray, List.set_cons_succ, List.set_cons_zero]
                obtain ⟨v7, W7, hr7, s7, a7, t7⟩ := H6.out.1.push H6.out.2.1 H6.out.2.2.1 (by have := HFW.out.1; omega) pu ul cu L HU.out.1 _
                refine wl rfl v7 W7 (run_app36 (.tmp 82) (.tmp 87) rfl _ _ v7 W7 rfl rfl hr7) ?_
                have H7 : Hid (AnK w g gw (S3 + 1) (5000 + 1000 * i + 4) (k + 1) c6 m6 un (D2 ++ [L]) v7 (us ++ [.slice pu ul cu]) W7) := ⟨by omega, by have := HFW.out.1; rw [List.length_append]; show _ + 1 ≤ k + 1; omega, t7, s7.mono (by omega), a7, H6.out.2.2.2.1, H6.out.2.2.2.2, HFW.out.2⟩
                clear s7 a7 t7 hr7 H6
                simp only [Act.put, List.setIfInBounds_toArray, List.set_cons_succ, List.set_cons_zero]
                refine wl rfl v7 _ (run_asZ (.tmp 88) rfl v7 rfl) ?_
                simp only [Act.put, List.setIfInBounds_toArray, List.set_cons_succ, List.set_cons_zero]
                refine wpList_nil ?_
                go_wp2_with fail
                refine ⟨⟨k + 1, c6, m6, un, D2 ++ [L], us ++ [.slice pu ul cu], by go_num, H7.out⟩, ?_⟩
                simp [intOf]; omega
              · go_upto_region 24 with fail
                refine wp_region_lit ?_
                refine wl rfl (.int .i64 3) _ (run_mvZ (.tmp 17) rfl (.int .i64 3) rfl) ?_
                simp only [Act.put, List.setIfInBounds_toArray, List.set_cons_succ, List.set_cons_zero]
                refine wl rfl (.bool false) _ (run_eqZ (.tmp 80) (.const (.int .i64 0)) rfl (3) (0) rfl rfl false rfl) ?_
                simp only [Act.put, List.setIfInBounds_toArray, List.set_cons_succ, List.set_cons_zero]
                refine wpList_nil ?_
                go_upto_region 26 with fail
                refine wp_region_lit ?_
                refine wl rfl (.int .i64 3) _ (run_mvZ (.tmp 17) rfl (.int .i64 3) rfl) ?_
                simp only [Act.put, List.setIfInBounds_toArray, List.set_cons_succ, List.set_cons_zero]
                refine wl rfl (.bool false) _ (run_neZ (.tmp 89) (.const (.int .i64 3)) rfl (3) (3) rfl rfl false rfl) ?_
                simp only [Act.put, List.setIfInBounds_toArray, List.set_cons_succ, List.set_cons_zero]
                refine wl rfl (.bool false) _ (run_mvZ (.tmp 90) rfl (.bool false) rfl) ?_
                simp only [Act.put, List.setIfInBounds_toArray, List.set_cons_succ, List.set_cons_zero]
                refine wpList_skip (by kernel_rfl) ?_
                simp only [Act.put, List.setIfInBounds_toArray, List.set_cons_succ, List.set_cons_zero]
                refine wpList_skip (by kernel_rfl) ?_
                simp only [Act.put, List.setIfInBounds_toArray, List.set_cons_succ, List.set_cons_zero]
                refine wl rfl (.bool false) _ (run_pickZ (.tmp 91) (.tmp 93) (.const (.bool false)) rfl false (.bool false) rfl rfl) ?_
                simp only [Act.put, List.setIfInBounds_toArray, List.set_cons_succ, List.set_cons_zero]
                refine wpList_nil ?_
                have H7 : Hid (AnK w g gw (S3 + 1) (5000 + 1000 * i + 4) (k + 1) c6 m6 un D6 u15 us W6) := ⟨by omega, by have := HFW.out.1; omega, H6.out.1, H6.out.2.1.mono (by omega), H6.out.2.2.1, H6.out.2.2.2.1, H6.out.2.2.2.2, HFW.out.2⟩
                clear H6
                go_wp2_with fail
                refine ⟨⟨k + 1, c6, m6, un, D6, us, by go_num, H7.out⟩, ?_⟩
                simp [intOf]; omega
              · go_upto_region 24 with fail
                refine wp_region_lit ?_
                refine wl rfl (.int .i64 5) _ (run_mvZ (.tmp 17) rfl (.int .i64 5) rfl) ?_
                simp only [Act.put, List.setIfInBounds_toArray, List.set_cons_succ, List.set_cons_zero]
                refine wl rfl (.bool false) _ (run_eqZ (.tmp 80) (.const (.int .i64 0)) rfl (5) (0) rfl rfl false rfl) ?_
                simp only [Act.put, List.setIfInBounds_toArray, List.set_cons_succ, List.set_cons_zero]
                refine wpList_nil ?_
                go_upto_region 26 with fail
                refine wp_region_lit ?_
                refine wl rfl (.int .i64 5) _ (run_mvZ (.tmp 17) rfl (.int .i64 5) rfl) ?_
                simp only [Act.put, List.setIfInBounds_toArray, List.set_cons_succ, List.set_cons_zero]
                refine wl rfl (.bool true) _ (run_neZ (.tmp 89) (.const (.int .i64 3)) rfl (5) (3) rfl rfl true rfl) ?_
                simp only [Act.put, List.setIfInBounds_toArray, List.set_cons_succ, List.set_cons_zero]
                refine wl rfl (.bool true) _ (run_mvZ (.tmp 90) rfl (.bool true) rfl) ?_
                simp only [Act.put, List.setIfInBounds_toArray, List.set_cons_succ, List.set_cons_zero]
                refine wl (by kernel_rfl) (.int .i64 5) _ (run_mvZ (.tmp 17) rfl (.int .i64 5) rfl) ?_
                simp only [Act.put, List.setIfInBounds_toArray, List.set_cons_succ, List.set_cons_zero]
                refine wl (by kernel_rfl) (.bool false) _ (run_neZ (.tmp 92) (.const (.int .i64 5)) rfl (5) (5) rfl rfl false rfl) ?_
                simp only [Act.put, List.setIfInBounds_toArray, List.set_cons_succ, List.set_cons_zero]
                refine wl rfl (.bool false) _ (run_pickZ (.tmp 91) (.tmp 93) (.const (.bool false)) rfl true (.bool false) rfl rfl) ?_
                simp only [Act.put, List.setIfInBounds_toArray, List.set_cons_succ, List.set_cons_zero]
                refine wpList_nil ?_
                have H7 : Hid (AnK w g gw (S3 + 1) (5000 + 1000 * i + 4) (k + 1) c6 m6 un D6 u15 us W6) := ⟨by omega, by have := HFW.out.1; omega, H6.out.1, H6.out.2.1.mono (by omega), H6.out.2.2.1, H6.out.2.2.2.1, H6.out.2.2.2.2, HFW.out.2⟩
                clear H6
                go_wp2_with fail
                refine ⟨⟨k + 1, c6, m6, un, D6, us, by go_num, H7.out⟩, ?_⟩
                simp [intOf]; omega
            · have h1 : decide ((k : Int) < (n0 : Int)) = true := decide_eq_true (by omega)
              have h2 : decide ((k : Int) ≤ (i : Int)) = false := decide_eq_false (by omega)
              go_upto_region 21 with fail
              refine wp_region_lit ?_
              refine wl rfl (.int .i64 (k : Nat)) _ (run_mvZ (.tmp 16) rfl (.int .i64 (k : Nat)) rfl) ?_
              simp only [Act.put, List.setIfInBounds_toArray, List.set_cons_succ, List.set_cons_zero]
              refine wl rfl (.slice p0 n0 cap0) _ (run_mvZ (.tmp 0) rfl (.slice p0 n0 cap0) rfl) ?_
              simp only [Act.put, List.setIfInBounds_toArray, List.set_cons_succ, List.set_cons_zero]
              refine wl rfl (.int .i64 (n0 : Nat)) _ (run_lenZ sl36 (.tmp 64) rfl p0 n0 cap0 rfl) ?_
              simp only [Act.put, List.setIfInBounds_toArray, List.set_cons_succ, List.set_cons_zero]
              refine wl rfl (.bool true) _ (run_lssZ (.tmp 63) (.tmp 65) rfl _ _ rfl rfl true h1) ?_
              simp only [Act.put, List.setIfInBounds_toArray, List.set_cons_succ, List.set_cons_zero]
              refine wl rfl (.bool true) _ (run_mvZ (.tmp 66) rfl (.bool true) rfl) ?_
              simp only [Act.put, List.setIfInBounds_toArray, List.set_cons_succ, List.set_cons_zero]
              refine wl (by kernel_rfl) (.int .i64 (k : Nat)) _ (run_mvZ (.tmp 16) rfl (.int .i64 (k : Nat)) rfl) ?_
              simp only [Act.put, List.setIfInBounds_toArray, List.set_cons_succ, List.set_cons_zero]
              refine wl (by kernel_rfl) (.int .i64 (i : Nat)) _ (run_mvZ (.tmp 10) rfl (.int .i64 (i : Nat)) rfl) ?_
              simp only [Act.put, List.setIfInBounds_toArray, List.set_cons_succ, List.set_cons_zero]
              refine wl (by kernel_rfl) (.bool false) _ (run_leqZ (.tmp 68) (.tmp 69) rfl _ _ rfl rfl false h2) ?_
              simp only [Act.put, List.setIfInBounds_toArray, List.set_cons_succ, List.set_cons_zero]
              refine wl rfl (.bool false) _ (run_pickZ (.tmp 67) (.tmp 70) (.const (.bool false)) rfl true (.bool false) rfl rfl) ?_
              simp only [Act.put, List.setIfInBounds_toArray, List.set_cons_succ, List.set_cons_zero]
              refine wpList_nil ?_
              clear h1 h2
              clear hlt
              go_upto_region 28 with fail
              refine wp_region_lit ?_
              refine wl rfl (ptr g) _ (run_mvZ (.tmp 8) rfl (ptr g) rfl) ?_
              simp only [Act.put, List.setIfInBounds_toArray, List.set_cons_succ, List.set_cons_zero]
              refine wl rfl vk _ (run_mvZ (.tmp 2) rfl vk rfl) ?_
              simp only [Act.put, List.setIfInBounds_toArray, List.set_cons_succ, List.set_cons_zero]
              refine wpList_callW eM15 [.tmp 95, .tmp 96] _ rfl rfl [(ptr g), vk] rfl ?_
              refine (sBoot HJ.out.sw (by omega) _ ks (IntsIn.keep HK.out HJ.out.sw.below HJ.out.sw.cc)).mono ?_
              rintro e W8 ⟨rfl, c8, h_, cc_, ch_⟩
              refine ⟨_, rfl, ?_⟩
              have H8 : Hid (Sw w W8 c8 g 64 (m.boot ks) (5000 + 1000 * i + 4 + 100 * k) ∧ Jc (m.boot ks) 0 64 D2 ∧ Told w W8 c8 gw u15 D2 us ∧ D2.length ≤ k) := ⟨h_, HJ.out.jo.jc.boot ks, HJ.out.told.step cc_ (ch_.mono fun _ _ e => Or.inl e), HJ.out.few⟩
              clear h_ cc_ ch_ HJ
              simp only [Act.put, List.setIfInBounds_toArray, List.set_cons_succ, List.set_cons_zero]
              refine wpList_nil ?_
              go_upto_region 29 with fail
              refine wp_region_lit ?_
              refine wl rfl (ptr g) _ (run_mvZ (.tmp 8) rfl (ptr g) rfl) ?_
              simp only [Act.put, List.setIfInBounds_toArray, List.set_cons_succ, List.set_cons_zero]
              refine wpList_callW eM12 [.tmp 99, .const (.int .i64 0)] _ rfl rfl [(ptr g), .int .i64 0] rfl ?_
              refine (sOpen H8.out.1 (by omega) H8.out.2.1 (by show (-1 : Int) < 0; decide)).mono ?_
              rintro e W9 ⟨gx, p9, cap9, S9, E9, c9, m9, rfl, h_, _, _, j_, f_, cc_, ch_, us9, rb_⟩
              refine ⟨_, rfl, ?_⟩
              have H9 : Hid (Sw w W9 c9 g 64 m9 (5000 + 1000 * i + 4 + 100 * k + 2) ∧ Jc m9 0 64 D2 ∧ m9.fuse < 0 ∧ TxsIn W9 (.slice p9 D2.length cap9) D2 ∧ TxsIn W9 u15 D2) := ⟨h_, j_.jc, f_, rb_.now.ins, (H8.out.2.2.1.step cc_ (ch_.mono fun _ _ e => Or.inl e)).txs h_.below (by have := H8.out.2.2.2; omega)⟩
              clear h_ j_ f_ cc_ ch_ rb_ H8
              simp only [Act.put, List.setIfInBounds_toArray, List.set_cons_succ, List.set_cons_zero]
              refine wl rfl (.tuple #[(ptr gx), (.slice p9 D2.length cap9), (.int .i64 0)]) _ (run_mvZ (.tmp 100) rfl (.tuple #[(ptr gx), (.slice p9 D2.length cap9), (.int .i64 0)]) rfl) ?_
              simp only [Act.put, List.setIfInBounds_toArray, List.set_cons_succ, List.set_cons_zero]
              refine wl rfl (ptr gx) _ (run_extZ (.tmp 98) 0 rfl #[(ptr gx), (.slice p9 D2.length cap9), (.int .i64 0)] rfl (ptr gx) rfl) ?_
              simp only [Act.put, List.setIfInBounds_toArray, List.set_cons_succ, List.set_cons_zero]
              refine wl rfl (.slice p9 D2.length cap9) _ (run_extZ (.tmp 98) 1 rfl #[(ptr gx), (.slice p9 D2.length cap9), (.int .i64 0)] rfl (.slice p9 D2.length cap9) rfl) ?_
              simp only [Act.put, List.setIfInBounds_toArray, List.set_cons_succ, List.set_cons_zero]
              refine wl rfl (.int .i64 0) _ (run_extZ (.tmp 98) 2 rfl #[(ptr gx), (.slice p9 D2.length cap9), (.int .i64 0)] rfl (.int .i64 0) rfl) ?_
              simp only [Act.put, List.setIfInBounds_toArray, List.set_cons_succ, List.set_cons_zero]
              refine wl rfl (ptr gx) _ (run_asZ (.tmp 101) rfl (ptr gx) rfl) ?_
              simp only [Act.put, List.setIfInBounds_toArray, List.set_cons_succ, List.set_cons_zero]
              refine wl rfl (.slice p9 D2.length cap9) _ (run_asZ (.tmp 102) rfl (.slice p9 D2.length cap9) rfl) ?_
              simp only [Act.put, List.setIfInBounds_toArray, List.set_cons_succ, List.set_cons_zero]
              refine wl rfl (.int .i64 0) _ (run_asZ (.tmp 103) rfl (.int .i64 0) rfl) ?_
              simp only [Act.put, List.setIfInBounds_toArray, List.set_cons_succ, List.set_cons_zero]
              refine wpList_nil ?_
              go_upto_region 30 with fail
              refine wp_region_lit ?_
              refine wl rfl (.int .i64 0) _ (run_mvZ (.tmp 13) rfl (.int .i64 0) rfl) ?_
              simp only [Act.put, List.setIfInBounds_toArray, List.set_cons_succ, List.set_cons_zero]
              refine wl rfl (.bool false) _ (run_neZ (.tmp 104) (.const (.int .i64 0)) rfl (0) (0) rfl rfl false rfl) ?_
              simp only [Act.put, List.setIfInBounds_toArray, List.set_cons_succ, List.set_cons_zero]
              refine wl rfl (.bool false) _ (run_mvZ (.tmp 105) rfl (.bool false) rfl) ?_
              simp only [Act.put, List.setIfInBounds_toArray, List.set_cons_succ, List.set_cons_zero]
              refine wl (by kernel_rfl) (.slice p9 D2.length cap9) _ (run_mvZ (.tmp 19) rfl (.slice p9 D2.length cap9) rfl) ?_
              simp only [Act.put, List.setIfInBounds_toArray, List.set_cons_succ, List.set_cons_zero]
              refine wl (by kernel_rfl) u15 _ (run_mvZ (.tmp 15) rfl u15 rfl) ?_
              simp only [Act.put, List.setIfInBounds_toArray, List.set_cons_succ, List.set_cons_zero]
              refine wpList_callW eM16 [.tmp 107, .tmp 108] _ (by kernel_rfl) rfl [(.slice p9 D2.length cap9), u15] rfl ?_
              refine (same_any H9.out.2.2.2.1 H9.out.2.2.2.2).mono ?_
              rintro e W10 ⟨rfl, b_⟩
              refine ⟨_, rfl, ?_⟩
              have H10 : Hid (AnS w g (i + 1) c9 m9 D2 W10) := ⟨by omega, ((H9.out.1.bel b_).mono (by omega)), H9.out.2.1, H9.out.2.2.1, fun h => absurd h (by omega)⟩
              clear b_ H9
              simp only [Act.put, List.setIfInBounds_toArray, List.set_cons_succ, List.set_cons_zero]
              refine wl (by kernel_rfl) (.bool false) _ (run_not (.tmp 109) 4 rfl true rfl) ?_
              simp only [Act.put, List.setIfInBounds_toArray, List.set_cons_succ, List.set_cons_zero]
              refine wl rfl (.bool false) _ (run_pickZ (.tmp 106) (.const (.bool true)) (.tmp 110) rfl false (.bool false) rfl rfl) ?_
              simp only [Act.put, List.setIfInBounds_toArray, List.set_cons_succ, List.set_cons_zero]
              refine wpList_nil ?_
              go_wp2_with fail
              refine ⟨⟨i + 1, c9, m9, D2, by go_num, H10.out⟩, ?_⟩
              simp [intOf]; omega
          · have h1 : decide ((k : Int) < (n0 : Int)) = false := decide_eq_false (by omega)
            go_upto_region 21 with fail
            refine wp_region_lit ?_
            refine wl rfl (.int .i64 (k : Nat)) _ (run_mvZ (.tmp 16) rfl (.int .i64 (k : Nat)) rfl) ?_
            simp only [Act.put, List.setIfInBounds_toArray, List.set_cons_succ, List.set_cons_zero]
            refine wl rfl (.slice p0 n0 cap0) _ (run_mvZ (.tmp 0) rfl (.slice p0 n0 cap0) rfl) ?_
            simp only [Act.put, List.setIfInBounds_toArray, List.set_cons_succ, List.set_cons_zero]
            refine wl rfl (.int .i64 (n0 : Nat)) _ (run_lenZ sl36 (.tmp 64) rfl p0 n0 cap0 rfl) ?_
            simp only [Act.put, List.setIfInBounds_toArray, List.set_cons_succ, List.set_cons_zero]
            refine wl rfl (.bool false) _ (run_lssZ (.tmp 63) (.tmp 65) rfl _ _ rfl rfl false h1) ?_
            simp only [Act.put, List.setIfInBounds_toArray, List.set_cons_succ, List.set_cons_zero]
            refine wl rfl (.bool false) _ (run_mvZ (.tmp 66) rfl (.bool false) rfl) ?_
            simp only [Act.put, List.setIfInBounds_toArray, List.set_cons_succ, List.set_cons_zero]
            refine wpList_skip (by kernel_rfl) ?_
            simp only [Act.put, List.setIfInBounds_toArray, List.set_cons_succ, List.set_cons_zero]
            refine wpList_skip (by kernel_rfl) ?_
            simp only [Act.put, List.setIfInBounds_toArray, List.set_cons_succ, List.set_cons_zero]
            refine wpList_skip (by kernel_rfl) ?_
            simp only [Act.put, List.setIfInBounds_toArray, List.set_cons_succ, List.set_cons_zero]
            refine wl rfl (.bool false) _ (run_pickZ (.tmp 67) (.tmp 70) (.const (.bool false)) rfl false (.bool false) rfl rfl) ?_
            simp only [Act.put, List.setIfInBounds_toArray, List.set_cons_succ, List.set_cons_zero]
            refine wpList_nil ?_
            clear h1
            clear hlt
            go_upto_region 28 with fail
            refine wp_region_lit ?_
            refine wl rfl (ptr g) _ (run_mvZ (.tmp 8) rfl (ptr g) rfl) ?_
            simp only [Act.put, List.setIfInBounds_toArray, List.set_cons_succ, List.set_cons_zero]
            refine wl rfl vk _ (run_mvZ (.tmp 2) rfl vk rfl) ?_
            simp only [Act.put, List.setIfInBounds_toArray, List.set_cons_succ, List.set_cons_zero]
            refine wpList_callW eM15 [.tmp 95, .tmp 96] _ rfl rfl [(ptr g), vk] rfl ?_
            refine (sBoot HJ.out.sw (by omega) _ ks (IntsIn.keep HK.out HJ.out.sw.below HJ.out.sw.cc)).mono ?_
            rintro e W8 ⟨rfl, c8, h_, cc_, ch_⟩
            refine ⟨_, rfl, ?_⟩
            have H8 : Hid (Sw w W8 c8 g 64 (m.boot ks) (5000 + 1000 * i + 4 + 100 * k) ∧ Jc (m.boot ks) 0 64 D2 ∧ Told w W8 c8 gw u15 D2 us ∧ D2.length ≤ k) := ⟨h_, HJ.out.jo.jc.boot ks, HJ.out.told.step cc_ (ch_.mono fun _ _ e => Or.inl e), HJ.out.few⟩
            clear h_ cc_ ch_ HJ
            simp only [Act.put, List.setIfInBounds_toArray, List.set_cons_succ, List.set_cons_zero]
            refine wpList_nil ?_
            go_upto_region 29 with fail
            refine wp_region_lit ?_
            refine wl rfl (ptr g) _ (run_mvZ (.tmp 8) rfl (ptr g) rfl) ?_
            simp only [Act.put, List.setIfInBounds_toArray, List.set_cons_succ, List.set_cons_zero]
            refine wpList_callW eM12 [.tmp 99, .const (.int .i64 0)] _ rfl rfl [(ptr g), .int .i64 0] rfl ?_
            refine (sOpen H8.out.1 (by omega) H8.out.2.1 (by show (-1 : Int) < 0; decide)).mono ?_
            rintro e W9 ⟨gx, p9, cap9, S9, E9, c9, m9, rfl, h_, _, _, j_, f_, cc_, ch_, us9, rb_⟩
            refine ⟨_, rfl, ?_⟩
            have H9 : Hid (Sw w W9 c9 g 64 m9 (5000 + 1000 * i + 4 + 100 * k + 2) ∧ Jc m9 0 64 D2 ∧ m9.fuse < 0 ∧ TxsIn W9 (.slice p9 D2.length cap9) D2 ∧ TxsIn W9 u15 D2) := ⟨h_, j_.jc, f_, rb_.now.ins, (H8.out.2.2.1.step cc_ (ch_.mono fun _ _ e => Or.inl e)).txs h_.below (by have := H8.out.2.2.2; omega)⟩
            clear h_ j_ f_ cc_ ch_ rb_ H8
            simp only [Act.put, List.setIfInBounds_toArray, List.set_cons_succ, List.set_cons_zero]
            refine wl rfl (.tuple #[(ptr gx), (.slice p9 D2.length cap9), (.int .i64 0)]) _ (run_mvZ (.tmp 100) rfl (.tuple #[(ptr gx), (.slice p9 D2.length cap9), (.int .i64 0)]) rfl) ?_
            simp only [Act.put, List.setIfInBounds_toArray, List.set_cons_succ, List.set_cons_zero]
            refine wl rfl (ptr gx) _ (run_extZ (.tmp 98) 0 rfl #[(ptr gx), (.slice p9 D2.length cap9), (.int .i64 0)] rfl (ptr gx) rfl) ?_
            simp only [Act.put, List.setIfInBounds_toArray, List.set_cons_succ, List.set_cons_zero]
            refine wl rfl (.slice p9 D2.length cap9) _ (run_extZ (.tmp 98) 1 rfl #[(ptr gx), (.slice p9 D2.length cap9), (.int .i64 0)] rfl (.slice p9 D2.length cap9) rfl) ?_
            simp only [Act.put, List.setIfInBounds_toArray, List.set_cons_succ, List.set_cons_zero]
            refine wl rfl (.int .i64 0) _ (run_extZ (.tmp 98) 2 rfl #[(ptr gx), (.slice p9 D2.length cap9), (.int .i64 0)] rfl (.int .i64 0) rfl) ?_
            simp only [Act.put, List.setIfInBounds_toArray, List.set_cons_succ, List.set_cons_zero]
            refine wl rfl (ptr gx) _ (run_asZ (.tmp 101) rfl (ptr gx) rfl) ?_
            simp only [Act.put, List.setIfInBounds_toArray, List.set_cons_succ, List.set_cons_zero]
            refine wl rfl (.slice p9 D2.length cap9) _ (run_asZ (.tmp 102) rfl (.slice p9 D2.length cap9) rfl) ?_
            simp only [Act.put, List.setIfInBounds_toArray, List.set_cons_succ, List.set_cons_zero]
            refine wl rfl (.int .i64 0) _ (run_asZ (.tmp 103) rfl (.int .i64 0) rfl) ?_
            simp only [Act.put, List.setIfInBounds_toArray, List.set_cons_succ, List.set_cons_zero]
            refine wpList_nil ?_
            go_upto_region 30 with fail
            refine wp_region_lit ?_
            refine wl rfl (.int .i64 0) _ (run_mvZ (.tmp 13) rfl (.int .i64 0) rfl) ?_
            simp only [Act.put, List.setIfInBounds_toArray, List.set_cons_succ, List.set_cons_zero]
            refine wl rfl (.bool false) _ (run_neZ (.tmp 104) (.const (.int .i64 0)) rfl (0) (0) rfl rfl false rfl) ?_
            simp only [Act.put, List.setIfInBounds_toArray, List.set_cons_succ, List.set_cons_zero]
            refine wl rfl (.bool false) _ (run_mvZ (.tmp 105) rfl (.bool false) rfl) ?_
            simp only [Act.put, List.setIfInBounds_toArray, List.set_cons_succ, List.set_cons_zero]
            refine wl (by kernel_rfl) (.slice p9 D2.length cap9) _ (run_mvZ (.tmp 19) rfl (.slice p9 D2.length cap9) rfl) ?_
            simp only [Act.put, List.setIfInBounds_toArray, List.set_cons_succ, List.set_cons_zero]
            refine wl (by kernel_rfl) u15 _ (run_mvZ (.tmp 15) rfl u15 rfl) ?_
            simp only [Act.put, List.setIfInBounds_toArray, List.set_cons_succ, List.set_cons_zero]
            refine wpList_callW eM16 [.tmp 107, .tmp 108] _ (by kernel_rfl) rfl [(.slice p9 D2.length cap9), u15] rfl ?_
            refine (same_any H9.out.2.2.2.1 H9.out.2.2.2.2).mono ?_
            rintro e W10 ⟨rfl, b_⟩
            refine ⟨_, rfl, ?_⟩
            have H10 : Hid (AnS w g (i + 1) c9 m9 D2 W10) := ⟨by omega, ((H9.out.1.bel b_).mono (by omega)), H9.out.2.1, H9.out.2.2.1, fun h => absurd h (by omega)⟩
            clear b_ H9
            simp only [Act.put, List.setIfInBounds_toArray, List.set_cons_succ, List.set_cons_zero]
            refine wl (by kernel_rfl) (.bool false) _ (run_not (.tmp 109) 4 rfl true rfl) ?_
            simp only [Act.put, List.setIfInBounds_toArray, List.set_cons_succ, List.set_cons_zero]
            refine wl rfl (.bool false) _ (run_pickZ (.tmp 106) (.const (.bool true)) (.tmp 110) rfl false (.bool false) rfl rfl) ?_
            simp only [Act.put, List.setIfInBounds_toArray, List.set_cons_succ, List.set_cons_zero]
            refine wpList_nil ?_
            go_wp2_with fail
            refine ⟨⟨i + 1, c9, m9, D2, by go_num, H10.out⟩, ?_⟩
            simp [intOf]; omega
      · have d1 : decide ((i : Int) = 0) = false := decide_eq_false (by omega)
        go_upto_region 17 with fail
        refine wp_region_lit ?_
        refine wl rfl (.int .i64 0) _ (run_mvZ (.tmp 14) rfl (.int .i64 0) rfl) ?_
        simp only [Act.put, List.setIfInBounds_toArray, List.set_cons_succ, List.set_cons_zero]
        refine wl rfl (.bool false) _ (run_neZ (.tmp 51) (.const (.int .i64 0)) rfl (0) (0) rfl rfl false rfl) ?_
        simp only [Act.put, List.setIfInBounds_toArray, List.set_cons_succ, List.set_cons_zero]
        refine wl rfl (.bool false) _ (run_mvZ (.tmp 52) rfl (.bool false) rfl) ?_
        simp only [Act.put, List.setIfInBounds_toArray, List.set_cons_succ, List.set_cons_zero]
        refine wl (by kernel_rfl) (.int .i64 (i : Nat)) _ (run_mvZ (.tmp 10) rfl (.int .i64 (i : Nat)) rfl) ?_
        simp only [Act.put, List.setIfInBounds_toArray, List.set_cons_succ, List.set_cons_zero]
        refine wl (by kernel_rfl) (.bool false) _ (run_eqZ (.tmp 54) (.const (.int .i64 0)) rfl _ _ rfl rfl false d1) ?_
        simp only [Act.put, List.setIfInBounds_toArray, List.set_cons_succ, List.set_cons_zero]
        refine wl (by kernel_rfl) (.bool false) _ (run_mvZ (.tmp 55) rfl (.bool false) rfl) ?_
        simp only [Act.put, List.setIfInBounds_toArray, List.set_cons_succ, List.set_cons_zero]
        refine wpList_skip (by kernel_rfl) ?_
        simp only [Act.put, List.setIfInBounds_toArray, List.set_cons_succ, List.set_cons_zero]
        refine wpList_skip (by kernel_rfl) ?_
        simp only [Act.put, List.setIfInBounds_toArray, List.set_cons_succ, List.set_cons_zero]
        refine wpList_skip (by kernel_rfl) ?_
        simp only [Act.put, List.setIfInBounds_toArray, List.set_cons_succ, List.set_cons_zero]
        refine wl (by kernel_rfl) (.bool false) _ (run_pickZ (.tmp 56) (.tmp 59) (.const (.bool false)) rfl false (.bool false) rfl rfl) ?_
        simp only [Act.put, List.setIfInBounds_toArray, List.set_cons_succ, List.set_cons_zero]
        refine wl rfl (.bool false) _ (run_pickZ (.tmp 53) (.const (.bool true)) (.tmp 60) rfl false (.bool false) rfl rfl) ?_
        simp only [Act.put, List.setIfInBounds_toArray, List.set_cons_succ, List.set_cons_zero]
        refine wpList_nil ?_
        clear d1
        go_upto_region 19 with fail
        refine wp_region_lit ?_
        refine wl rfl (.slice (some ⟨W4.heap.size, 0, none⟩) 0 0) _ (run_lit36n rfl) ?_
        have H5 : Hid (AnK w g gw (S3 + 1) (5000 + 1000 * i + 4) 0 c4 m4 0 [] (.slice (some ⟨W4.heap.size, 0, none⟩) 0 0) [] (W4.alloc (.cells #[] 28))) := ⟨by decide, Nat.le_refl _, Told.nil H4.out.1 H4.out.2.1, H4.out.1.bel (below_alloc W4 _), H4.out.2.1.below (below_alloc W4 _), H4.out.2.2.1, H4.out.2.2.2.1, H4.out.2.2.2.2⟩
        obtain ⟨W5, hW_⟩ : ∃ W, W = W4.alloc (.cells #[] 28) := ⟨_, rfl⟩
        obtain ⟨va, hv_⟩ : ∃ v, v = Value.slice (some ⟨W4.heap.size, 0, none⟩) 0 0 := ⟨_, rfl⟩
        rw [← hW_, ← hv_] at H5
        rw [← hW_, ← hv_]
        clear hW_ hv_ H4
        simp only [Act.put, List.setIfInBounds_toArray, List.set_cons_succ, List.set_cons_zero]
        refine wl rfl va _ (run_asZ (.tmp 62) rfl va rfl) ?_
        simp only [Act.put, List.setIfInBounds_toArray, List.set_cons_succ, List.set_cons_zero]
        refine wpList_nil ?_
        go_upto_region 20 with fail
        refine wp_region_lit ?_
        refine wl rfl (.int .i64 0) _ (run_asZ (.const (.int .i64 0)) rfl (.int .i64 0) rfl) ?_
        simp only [Act.put, List.setIfInBounds_toArray, List.set_cons_succ, List.set_cons_zero]
        refine wpList_nil ?_
        go_wp2_with fail
        go_loopw [15, 16] (fun va vk W => ∃ (k : Nat) (c : Nat → Colour) (m : Pl) (E : Nat) (D : List (List (List Nat))) (us : List Value), vk = .int .i64 (k : Nat) ∧ AnK w g gw (S3 + 1) (5000 + 1000 * i + 4) k c m E D va us W) (fun _ vk _ => 8 - (intOf vk).toNat)
        case atStart => exact ⟨0, c4, m4, 0, [], [], rfl, H5.out⟩
        case round =>
          obtain ⟨k, c, m, E, D2, us, rfl, hst⟩ := hrel
          have HJ : Hid (AnK w g gw (S3 + 1) (5000 + 1000 * i + 4) k c m E D2 u15 us wr) := hst
          clear hst H5
          have hk7 := HJ.out.le
          by_cases hlt : k < n0
          · by_cases hki : k ≤ i
            · have h1 : decide ((k : Int) < (n0 : Int)) = true := decide_eq_true (by omega)
              have h2 : decide ((k : Int) ≤ (i : Int)) = true := decide_eq_true (by omega)
              go_upto_region 21 with fail
              refine wp_region_lit ?_
              refine wl rfl (.int .i64 (k : Nat)) _ (run_mvZ (.tmp 16) rfl (.int .i64 (k : Nat)) rfl) ?_
              simp only [Act.put, List.setIfInBounds_toArray, List.set_cons_succ, List.set_cons_zero]
              refine wl rfl (.slice p0 n0 cap0) _ (run_mvZ (.tmp 0) rfl (.slice p0 n0 cap0) rfl) ?_
              simp only [Act.put, List.setIfInBounds_toArray, List.set_cons_succ, List.set_cons_zero]
              refine wl rfl (.int .i64 (n0 : Nat)) _ (run_lenZ sl36 (.tmp 64) rfl p0 n0 cap0 rfl) ?_
              simp only [Act.put, List.setIfInBounds_toArray, List.set_cons_succ, List.set_cons_zero]
              refine wl rfl (.bool true) _ (run_lssZ (.tmp 63) (.tmp 65) rfl _ _ rfl rfl true h1) ?_
              simp only [Act.put, List.setIfInBounds_toArray, List.set_cons_succ, List.set_cons_zero]
              refine wl rfl (.bool true) _ (run_mvZ (.tmp 66) rfl (.bool true) rfl) ?_
              simp only [Act.put, List.setIfInBounds_toArray, List.set_cons_succ, List.set_cons_zero]
              refine wl (by kernel_rfl) (.int .i64 (k : Nat)) _ (run_mvZ (.tmp 16) rfl (.int .i64 (k : Nat)) rfl) ?_
              simp only [Act.put, List.setIfInBounds_toArray, List.set_cons_succ, List.set_cons_zero]
              refine wl (by kernel_rfl) (.int .i64 (i : Nat)) _ (run_mvZ (.tmp 10) rfl (.int .i64 (i : Nat)) rfl) ?_
              simp only [Act.put, List.setIfInBounds_toArray, List.set_cons_succ, List.set_cons_zero]
              refine wl (by kernel_rfl) (.bool true) _ (run_leqZ (.tmp 68) (.tmp 69) rfl _ _ rfl rfl true h2) ?_
              simp only [Act.put, List.setIfInBounds_toArray, List.set_cons_succ, List.set_cons_zero]
              refine wl rfl (.bool true) _ (run_pickZ (.tmp 67) (.tmp 70) (.const (.bool false)) rfl true (.bool true) rfl rfl) ?_
              simp only [Act.put, List.setIfInBounds_toArray, List.set_cons_succ, List.set_cons_zero]
              refine wpList_nil ?_
              clear h1 h2
              obtain ⟨fb, fo, pu, cu, hp0, hrow, hu⟩ := HL.out.arg k (by rw [← HN.out.1]; exact hlt)
              subst hp0
              obtain ⟨L, hLe⟩ : ∃ L, L = l.getD k [] := ⟨_, rfl⟩
              have hLsz : txSize L ≤ 100000000 := by rw [hLe]; exact HSZ.out k (by rw [← HN.out.1]; exact hlt)
              rw [← hLe] at hrow hu
              obtain ⟨ul, hul⟩ : ∃ ul, ul = L.length := ⟨_, rfl⟩
              rw [← hul] at hrow hu
              have HU : Hid (RowsIn w (.slice pu ul cu) L ∧ ∀ W, Below w.heap.size w W → W.cell? ⟨fb, fo + k, none⟩ = some (.slice pu ul cu)) := ⟨hrow, hu⟩
              clear hrow hu hLe hul
              go_upto_region 23 with fail
              refine wp_region_lit ?_
              refine wl rfl (ptr gw) _ (run_mvZ (.tmp 11) rfl (ptr gw) rfl) ?_
              simp only [Act.put, List.setIfInBounds_toArray, List.set_cons_succ, List.set_cons_zero]
              refine wl rfl (.slice (some ⟨fb, fo, none⟩) n0 cap0) _ (run_mvZ (.tmp 0) rfl (.slice (some ⟨fb, fo, none⟩) n0 cap0) rfl) ?_
              simp only [Act.put, List.setIfInBounds_toArray, List.set_cons_succ, List.set_cons_zero]
              refine wl rfl (.int .i64 (k : Nat)) _ (run_mvZ (.tmp 16) rfl (.int .i64 (k : Nat)) rfl) ?_
              simp only [Act.put, List.setIfInBounds_toArray, List.set_cons_succ, List.set_cons_zero]
              refine wl rfl (.pointer (some ⟨fb, fo + k, none⟩)) _ (run_ix36 (.tmp 75) (.tmp 76) rfl fb fo n0 cap0 k rfl rfl hlt) ?_
              simp only [Act.put, List.setIfInBounds_toArray, List.set_cons_succ, List.set_cons_zero]
              refine wl rfl (.slice pu ul cu) _ (run_load1 o28' (.tmp 77) rfl fb (fo + k) rfl (.slice pu ul cu) (HU.out.2 _ HJ.out.sw.below)) ?_
              simp only [Act.put, List.setIfInBounds_toArray, List.set_cons_succ, List.set_cons_zero]
              refine wpList_callW eM14 [.tmp 74, .tmp 78] _ rfl rfl [(ptr gw), (.slice pu ul cu)] rfl ?_
              refine (sApp HJ.out.sw (by omega) HJ.out.wal HJ.out.gwn HJ.out.jo HJ.out.calm _ L (RowsIn.later HU.out.1 HJ.out.sw.below) hLsz).mono ?_
              rintro e W6 ⟨er, c6, m6, un, D6, rfl, al_, h_, a_, j_, f_, cc_, ch_⟩
              refine ⟨_, rfl, ?_⟩
              have H6 : Hid (Told w W6 c6 gw u15 D2 us ∧ Sw w W6 c6 g 64 m6 (5000 + 1000 * i + 4 + 100 * k + 100) ∧ WalAt W6 c6 2 gw g (0 : Nat) (S3 + 1) un ∧ Jo m6 0 64 (S3 + 1) un D6 ∧ m6.fuse < 0) := ⟨HJ.out.told.step cc_ ch_, h_, a_, j_, f_⟩
              have HFW : Hid (D2.length ≤ k ∧ w.heap.size ≤ gw) := ⟨HJ.out.few, HJ.out.gwn⟩
              clear h_ a_ j_ f_ cc_ ch_ HJ
              simp only [Act.put, List.setIfInBounds_toArray, List.set_cons_succ, List.set_cons_zero]
              refine wl rfl (.int .i64 er) _ (run_asZ (.tmp 79) rfl (.int .i64 er) rfl) ?_
              simp only [Act.put, List.setIfInBounds_toArray, List.set_cons_succ, List.set_cons_zero]
              refine wpList_nil ?_
              rcases al_ with ⟨rfl, rfl⟩ | ⟨rfl, rfl⟩ | ⟨rfl, rfl⟩
              · go_upto_region 24 with fail
                refine wp_region_lit ?_
                refine wl rfl (.int .i64 0) _ (run_mvZ (.tmp 17) rfl (.int .i64 0) rfl) ?_
                simp only [Act.put, List.setIfInBounds_toArray, List.set_cons_succ, List.set_cons_zero]
                refine wl rfl (.bool true) _ (run_eqZ (.tmp 80) (.const (.int .i64 0)) rfl (0) (0) rfl rfl true rfl) ?_
                simp only [Act.put, List.setIfInBounds_toArray, List.set_cons_succ, List.set_cons_zero]
                refine wpList_nil ?_
                go_upto_region 25 with fail
                refine wp_region_lit ?_
                refine wl rfl u15 _ (run_mvZ (.tmp 15) rfl u15 rfl) ?_
                simp only [Act.put, List.setIfInBounds_toArray, List.set_cons_succ, List.set_cons_zero]
                refine wl rfl (.slice (some ⟨fb, fo, none⟩) n0 cap0) _ (run_mvZ (.tmp 0) rfl (.slice (some ⟨fb, fo, none⟩) n0 cap0) rfl) ?_
                simp only [Act.put, List.setIfInBounds_toArray, List.set_cons_succ, List.set_cons_zero]
                refine wl rfl (.int .i64 (k : Nat)) _ (run_mvZ (.tmp 16) rfl (.int .i64 (k : Nat)) rfl) ?_
                simp only [Act.put, List.setIfInBounds_toArray, List.set_cons_succ, List.set_cons_zero]
                refine wl rfl (.pointer (some ⟨fb, fo + k, none⟩)) _ (run_ix36 (.tmp 83) (.tmp 84) rfl fb fo n0 cap0 k rfl rfl hlt) ?_
                simp only [Act.put, List.setIfInBounds_toArray, List.set_cons_succ, List.set_cons_zero]
                refine wl rfl (.slice pu ul cu) _ (run_load1 o28' (.tmp 85) rfl fb (fo + k) rfl (.slice pu ul cu) (HU.out.2 _ H6.out.2.1.below)) ?_
                simp only [Act.put, List.setIfInBounds_toArray, List.set_cons_succ, List.set_cons_zero]
                refine wl rfl (.slice (some ⟨W6.heap.size, 0, none⟩) 1 1) _ (run_lit36a (.tmp 86) rfl _ _ _ rfl) ?_
                simp only [Act.put, List.setIfInBounds_toArray, List.set_cons_succ, List.set_cons_zero]
                obtain ⟨v7, W7, hr7, s7, a7, t7⟩ := H6.out.1.push H6.out.2.1 H6.out.2.2.1 (by have := HFW.out.1; omega) pu ul cu L HU.out.1 _
                refine wl rfl v7 W7 (run_app36 (.tmp 82) (.tmp 87) rfl _ _ v7 W7 rfl rfl hr7) ?_
                have H7 : Hid (AnK w g gw (S3 + 1) (5000 + 1000 * i + 4) (k + 1) c6 m6 un (D2 ++ [L]) v7 (us ++ [.slice pu ul cu]) W7) := ⟨by omega, by have := HFW.out.1; rw [List.length_append]; show _ + 1 ≤ k + 1; omega, t7, s7.mono (by omega), a7, H6.out.2.2.2.1, H6.out.2.2.2.2, HFW.out.2⟩
                clear s7 a7 t7 hr7 H6
                simp only [Act.put, List.setIfInBounds_toArray, List.set_cons_succ, List.set_cons_zero]
                refine wl rfl v7 _ (run_asZ (.tmp 88) rfl v7 rfl) ?_
                simp only [Act.put, List.setIfInBounds_toArray, List.set_cons_succ, List.set_cons_zero]
                refine wpList_nil ?_
                go_wp2_with fail
                refine ⟨⟨k + 1, c6, m6, un, D2 ++ [L], us ++ [.slice pu ul cu], by go_num, H7.out⟩, ?_⟩
                simp [intOf]; omega
              · go_upto_region 24 with fail
                refine wp_region_lit ?_
                refine wl rfl (.int .i64 3) _ (run_mvZ (.tmp 17) rfl (.int .i64 3) rfl) ?_
                simp only [Act.put, List.setIfInBounds_toArray, List.set_cons_succ, List.set_cons_zero]
                refine wl rfl (.bool false) _ (run_eqZ (.tmp 80) (.const (.int .i64 0)) rfl (3) (0) rfl rfl false rfl) ?_
                simp only [Act.put, List.setIfInBounds_toArray, List.set_cons_succ, List.set_cons_zero]
                refine wpList_nil ?_
                go_upto_region 26 with fail
                refine wp_region_lit ?_
                refine wl rfl (.int .i64 3) _ (run_mvZ (.tmp 17) rfl (.int .i64 3) rfl) ?_
                simp only [Act.put, List.setIfInBounds_toArray, List.set_cons_succ, List.set_cons_zero]
                refine wl rfl (.bool false) _ (run_neZ (.tmp 89) (.const (.int .i64 3)) rfl (3) (3) rfl rfl false rfl) ?_
                simp only [Act.put, List.setIfInBounds_toArray, List.set_cons_succ, List.set_cons_zero]
                refine wl rfl (.bool false) _ (run_mvZ (.tmp 90) rfl (.bool false) rfl) ?_
                simp only [Act.put, List.setIfInBounds_toArray, List.set_cons_succ, List.set_cons_zero]
                refine wpList_skip (by kernel_rfl) ?_
                simp only [Act.put, List.setIfInBounds_toArray, List.set_cons_succ, List.set_cons_zero]
                refine wpList_skip (by kernel_rfl) ?_
                simp only [Act.put, List.setIfInBounds_toArray, List.set_cons_succ, List.set_cons_zero]
                refine wl rfl (.bool false) _ (run_pickZ (.tmp 91) (.tmp 93) (.const (.bool false)) rfl false (.bool false) rfl rfl) ?_
                simp only [Act.put, List.setIfInBounds_toArray, List.set_cons_succ, List.set_cons_zero]
                refine wpList_nil ?_
                have H7 : Hid (AnK w g gw (S3 + 1) (5000 + 1000 * i + 4) (k + 1) c6 m6 un D6 u15 us W6) := ⟨by omega, by have := HFW.out.1; omega, H6.out.1, H6.out.2.1.mono (by omega), H6.out.2.2.1, H6.out.2.2.2.1, H6.out.2.2.2.2, HFW.out.2⟩
                clear H6
                go_wp2_with fail
                refine ⟨⟨k + 1, c6, m6, un, D6, us, by go_num, H7.out⟩, ?_⟩
                simp [intOf]; omega
              · go_upto_region 24 with fail
                refine wp_region_lit ?_
                refine wl rfl (.int .i64 5) _ (run_mvZ (.tmp 17) rfl (.int .i64 5) rfl) ?_
                simp only [Act.put, List.setIfInBounds_toArray, List.set_cons_succ, List.set_cons_zero]
                refine wl rfl (.bool false) _ (run_eqZ (.tmp 80) (.const (.int .i64 0)) rfl (5) (0) rfl rfl false rfl) ?_
                simp only [Act.put, List.setIfInBounds_toArray, List.set_cons_succ, List.set_cons_zero]
                refine wpList_nil ?_
                go_upto_region 26 with fail
                refine wp_region_lit ?_
                refine wl rfl (.int .i64 5) _ (run_mvZ (.tmp 17) rfl (.int .i64 5) rfl) ?_
                simp only [Act.put, List.setIfInBounds_toArray, List.set_cons_succ, List.set_cons_zero]
                refine wl rfl (.bool true) _ (run_neZ (.tmp 89) (.const (.int .i64 3)) rfl (5) (3) rfl rfl true rfl) ?_
                simp only [Act.put, List.setIfInBounds_toArray, List.set_cons_succ, List.set_cons_zero]
                refine wl rfl (.bool true) _ (run_mvZ (.tmp 90) rfl (.bool true) rfl) ?_
                simp only [Act.put, List.setIfInBounds_toArray, List.set_cons_succ, List.set_cons_zero]
                refine wl (by kernel_rfl) (.int .i64 5) _ (run_mvZ (.tmp 17) rfl (.int .i64 5) rfl) ?_
                simp only [Act.put, List.setIfInBounds_toArray, List.set_cons_succ, List.set_cons_zero]
                refine wl (by kernel_rfl) (.bool false) _ (run_neZ (.tmp 92) (.const (.int .i64 5)) rfl (5) (5) rfl rfl false rfl) ?_
                simp only [Act.put, List.setIfInBounds_toArray, List.set_cons_succ, List.set_cons_zero]
                refine wl rfl (.bool false) _ (run_pickZ (.tmp 91) (.tmp 93) (.const (.bool false)) rfl true (.bool false) rfl rfl) ?_
                simp only [Act.put, List.setIfInBounds_toArray, List.set_cons_succ, List.set_cons_zero]
                refine wpList_nil ?_
                have H7 : Hid (AnK w g gw (S3 + 1) (5000 + 1000 * i + 4) (k + 1) c6 m6 un D6 u15 us W6) := ⟨by omega, by have := HFW.out.1; omega, H6.out.1, H6.out.2.1.mono (by omega), H6.out.2.2.1, H6.out.2.2.2.1, H6.out.2.2.2.2, HFW.out.2⟩
                clear H6
                go_wp2_with fail
                refine ⟨⟨k + 1, c6, m6, un, D6, us, by go_num, H7.out⟩, ?_⟩
                simp [intOf]; omega
            · have h1 : decide ((k : Int) < (n0 : Int)) = true := decide_eq_true (by omega)
              have h2 : decide ((k : Int) ≤ (i : Int)) = false := decide_eq_false (by omega)
              go_upto_region 21 with fail
              refine wp_region_lit ?_
              refine wl rfl (.int .i64 (k : Nat)) _ (run_mvZ (.tmp 16) rfl (.int .i64 (k : Nat)) rfl) ?_
              simp only [Act.put, List.setIfInBounds_toArray, List.set_cons_succ, List.set_cons_zero]
              refine wl rfl (.slice p0 n0 cap0) _ (run_mvZ (.tmp 0) rfl (.slice p0 n0 cap0) rfl) ?_
              simp only [Act.put, List.setIfInBounds_toArray, List.set_cons_succ, List.set_cons_zero]
              refine wl rfl (.int .i64 (n0 : Nat)) _ (run_lenZ sl36 (.tmp 64) rfl p0 n0 cap0 rfl) ?_
              simp only [Act.put, List.setIfInBounds_toArray, List.set_cons_succ, List.set_cons_zero]
              refine wl rfl (.bool true) _ (run_lssZ (.tmp 63) (.tmp 65) rfl _ _ rfl rfl true h1) ?_
              simp only [Act.put, List.setIfInBounds_toArray, List.set_cons_succ, List.set_cons_zero]
              refine wl rfl (.bool true) _ (run_mvZ (.tmp 66) rfl (.bool true) rfl) ?_
              simp only [Act.put, List.setIfInBounds_toArray, List.set_cons_succ, List.set_cons_zero]
              refine wl (by kernel_rfl) (.int .i64 (k : Nat)) _ (run_mvZ (.tmp 16) rfl (.int .i64 (k : Nat)) rfl) ?_
              simp only [Act.put, List.setIfInBounds_toArray, List.set_cons_succ, List.set_cons_zero]
              refine wl (by kernel_rfl) (.int .i64 (i : Nat)) _ (run_mvZ (.tmp 10) rfl (.int .i64 (i : Nat)) rfl) ?_
              simp only [Act.put, List.setIfInBounds_toArray, List.set_cons_succ, List.set_cons_zero]
              refine wl (by kernel_rfl) (.bool false) _ (run_leqZ (.tmp 68) (.tmp 69) rfl _ _ rfl rfl false h2) ?_
              simp only [Act.put, List.setIfInBounds_toArray, List.set_cons_succ, List.set_cons_zero]
              refine wl rfl (.bool false) _ (run_pickZ (.tmp 67) (.tmp 70) (.const (.bool false)) rfl true (.bool false) rfl rfl) ?_
              simp only [Act.put, List.setIfInBounds_toArray, List.set_cons_succ, List.set_cons_zero]
              refine wpList_nil ?_
              clear h1 h2
              clear hlt
              go_upto_region 28 with fail
              refine wp_region_lit ?_
              refine wl rfl (ptr g) _ (run_mvZ (.tmp 8) rfl (ptr g) rfl) ?_
              simp only [Act.put, List.setIfInBounds_toArray, List.set_cons_succ, List.set_cons_zero]
              refine wl rfl vk _ (run_mvZ (.tmp 2) rfl vk rfl) ?_
              simp only [Act.put, List.setIfInBounds_toArray, List.set_cons_succ, List.set_cons_zero]
              refine wpList_callW eM15 [.tmp 95, .tmp 96] _ rfl rfl [(ptr g), vk] rfl ?_
              refine (sBoot HJ.out.sw (by omega) _ ks (IntsIn.keep HK.out HJ.out.sw.below HJ.out.sw.cc)).mono ?_
              rintro e W8 ⟨rfl, c8, h_, cc_, ch_⟩
              refine ⟨_, rfl, ?_⟩
              have H8 : Hid (Sw w W8 c8 g 64 (m.boot ks) (5000 + 1000 * i + 4 + 100 * k) ∧ Jc (m.boot ks) 0 64 D2 ∧ Told w W8 c8 gw u15 D2 us ∧ D2.length ≤ k) := ⟨h_, HJ.out.jo.jc.boot ks, HJ.out.told.step cc_ (ch_.mono fun _ _ e => Or.inl e), HJ.out.few⟩
              clear h_ cc_ ch_ HJ
              simp only [Act.put, List.setIfInBounds_toArray, List.set_cons_succ, List.set_cons_zero]
              refine wpList_nil ?_
              go_upto_region 29 with fail
              refine wp_region_lit ?_
              refine wl rfl (ptr g) _ (run_mvZ (.tmp 8) rfl (ptr g) rfl) ?_
              simp only [Act.put, List.setIfInBounds_toArray, List.set_cons_succ, List.set_cons_zero]
              refine wpList_callW eM12 [.tmp 99, .const (.int .i64 0)] _ rfl rfl [(ptr g), .int .i64 0] rfl ?_
              refine (sOpen H8.out.1 (by omega) H8.out.2.1 (by show (-1 : Int) < 0; decide)).mono ?_
              rintro e W9 ⟨gx, p9, cap9, S9, E9, c9, m9, rfl, h_, _, _, j_, f_, cc_, ch_, us9, rb_⟩
              refine ⟨_, rfl, ?_⟩
              have H9 : Hid (Sw w W9 c9 g 64 m9 (5000 + 1000 * i + 4 + 100 * k + 2) ∧ Jc m9 0 64 D2 ∧ m9.fuse < 0 ∧ TxsIn W9 (.slice p9 D2.length cap9) D2 ∧ TxsIn W9 u15 D2) := ⟨h_, j_.jc, f_, rb_.now.ins, (H8.out.2.2.1.step cc_ (ch_.mono fun _ _ e => Or.inl e)).txs h_.below (by have := H8.out.2.2.2; omega)⟩
              clear h_ j_ f_ cc_ ch_ rb_ H8
              simp only [Act.put, List.setIfInBounds_toArray, List.set_cons_succ, List.set_cons_zero]
              refine wl rfl (.tuple #[(ptr gx), (.slice p9 D2.length cap9), (.int .i64 0)]) _ (run_mvZ (.tmp 100) rfl (.tuple #[(ptr gx), (.slice p9 D2.length cap9), (.int .i64 0)]) rfl) ?_
              simp only [Act.put, List.setIfInBounds_toArray, List.set_cons_succ, List.set_cons_zero]
              refine wl rfl (ptr gx) _ (run_extZ (.tmp 98) 0 rfl #[(ptr gx), (.slice p9 D2.length cap9), (.int .i64 0)] rfl (ptr gx) rfl) ?_
              simp only [Act.put, List.setIfInBounds_toArray, List.set_cons_succ, List.set_cons_zero]
              refine wl rfl (.slice p9 D2.length cap9) _ (run_extZ (.tmp 98) 1 rfl #[(ptr gx), (.slice p9 D2.length cap9), (.int .i64 0)] rfl (.slice p9 D2.length cap9) rfl) ?_
              simp only [Act.put, List.setIfInBounds_toArray, List.set_cons_succ, List.set_cons_zero]
              refine wl rfl (.int .i64 0) _ (run_extZ (.tmp 98) 2 rfl #[(ptr gx), (.slice p9 D2.length cap9), (.int .i64 0)] rfl (.int .i64 0) rfl) ?_
              simp only [Act.put, List.setIfInBounds_toArray, List.set_cons_succ, List.set_cons_zero]
              refine wl rfl (ptr gx) _ (run_asZ (.tmp 101) rfl (ptr gx) rfl) ?_
              simp only [Act.put, List.setIfInBounds_toArray, List.set_cons_succ, List.set_cons_zero]
              refine wl rfl (.slice p9 D2.length cap9) _ (run_asZ (.tmp 102) rfl (.slice p9 D2.length cap9) rfl) ?_
              simp only [Act.put, List.setIfInBounds_toArray, List.set_cons_succ, List.set_cons_zero]
              refine wl rfl (.int .i64 0) _ (run_asZ (.tmp 103) rfl (.int .i64 0) rfl) ?_
              simp only [Act.put, List.setIfInBounds_toArray, List.set_cons_succ, List.set_cons_zero]
              refine wpList_nil ?_
              go_upto_region 30 with fail
              refine wp_region_lit ?_
              refine wl rfl (.int .i64 0) _ (run_mvZ (.tmp 13) rfl (.int .i64 0) rfl) ?_
              simp only [Act.put, List.setIfInBounds_toArray, List.set_cons_succ, List.set_cons_zero]
              refine wl rfl (.bool false) _ (run_neZ (.tmp 104) (.const (.int .i64 0)) rfl (0) (0) rfl rfl false rfl) ?_
              simp only [Act.put, List.setIfInBounds_toArray, List.set_cons_succ, List.set_cons_zero]
              refine wl rfl (.bool false) _ (run_mvZ (.tmp 105) rfl (.bool false) rfl) ?_
              simp only [Act.put, List.setIfInBounds_toArray, List.set_cons_succ, List.set_cons_zero]
              refine wl (by kernel_rfl) (.slice p9 D2.length cap9) _ (run_mvZ (.tmp 19) rfl (.slice p9 D2.length cap9) rfl) ?_
              simp only [Act.put, List.setIfInBounds_toArray, List.set_cons_succ, List.set_cons_zero]
              refine wl (by kernel_rfl) u15 _ (run_mvZ (.tmp 15) rfl u15 rfl) ?_
              simp only [Act.put, List.setIfInBounds_toArray, List.set_cons_succ, List.set_cons_zero]
              refine wpList_callW eM16 [.tmp 107, .tmp 108] _ (by kernel_rfl) rfl [(.slice p9 D2.length cap9), u15] rfl ?_
              refine (same_any H9.out.2.2.2.1 H9.out.2.2.2.2).mono ?_
              rintro e W10 ⟨rfl, b_⟩
              refine ⟨_, rfl, ?_⟩
              have H10 : Hid (AnS w g (i + 1) c9 m9 D2 W10) := ⟨by omega, ((H9.out.1.bel b_).mono (by omega)), H9.out.2.1, H9.out.2.2.1, fun h => absurd h (by omega)⟩
              clear b_ H9
              simp only [Act.put, List.setIfInBounds_toArray, List.set_cons_succ, List.set_cons_zero]
              refine wl (by kernel_rfl) (.bool false) _ (run_not (.tmp 109) 4 rfl true rfl) ?_
              simp only [Act.put, List.setIfInBounds_toArray, List.set_cons_succ, List.set_cons_zero]
              refine wl rfl (.bool false) _ (run_pickZ (.tmp 106) (.const (.bool true)) (.tmp 110) rfl false (.bool false) rfl rfl) ?_
              simp only [Act.put, List.setIfInBounds_toArray, List.set_cons_succ, List.set_cons_zero]
              refine wpList_nil ?_
              go_wp2_with fail
              refine ⟨⟨i + 1, c9, m9, D2, by go_num, H10.out⟩, ?_⟩
              simp [intOf]; omega
          · have h1 : decide ((k : Int) < (n0 : Int)) = false := decide_eq_false (by omega)
            go_upto_region 21 with fail
            refine wp_region_lit ?_
            refine wl rfl (.int .i64 (k : Nat)) _ (run_mvZ (.tmp 16) rfl (.int .i64 (k : Nat)) rfl) ?_
            simp only [Act.put, List.setIfInBounds_toArray, List.set_cons_succ, List.set_cons_zero]
            refine wl rfl (.slice p0 n0 cap0) _ (run_mvZ (.tmp 0) rfl (.slice p0 n0 cap0) rfl) ?_
            simp only [Act.put, List.setIfInBounds_toArray, List.set_cons_succ, List.set_cons_zero]
            refine wl rfl (.int .i64 (n0 : Nat)) _ (run_lenZ sl36 (.tmp 64) rfl p0 n0 cap0 rfl) ?_
            simp only [Act.put, List.setIfInBounds_toArray, List.set_cons_succ, List.set_cons_zero]
            refine wl rfl (.bool false) _ (run_lssZ (.tmp 63) (.tmp 65) rfl _ _ rfl rfl false h1) ?_
            simp only [Act.put, List.setIfInBounds_toArray, List.set_cons_succ, List.set_cons_zero]
            refine wl rfl (.bool false) _ (run_mvZ (.tmp 66) rfl (.bool false) rfl) ?_
            simp only [Act.put, List.setIfInBounds_toArray, List.set_cons_succ, List.set_cons_zero]
            refine wpList_skip (by kernel_rfl) ?_
            simp only [Act.put, List.setIfInBounds_toArray, List.set_cons_succ, List.set_cons_zero]
            refine wpList_skip (by kernel_rfl) ?_
            simp only [Act.put, List.setIfInBounds_toArray, List.set_cons_succ, List.set_cons_zero]
            refine wpList_skip (by kernel_rfl) ?_
            simp only [Act.put, List.setIfInBounds_toArray, List.set_cons_succ, List.set_cons_zero]
            refine wl rfl (.bool false) _ (run_pickZ (.tmp 67) (.tmp 70) (.const (.bool false)) rfl false (.bool false) rfl rfl) ?_
            simp only [Act.put, List.setIfInBounds_toArray, List.set_cons_succ, List.set_cons_zero]
            refine wpList_nil ?_
            clear h1
            clear hlt
            go_upto_region 28 with fail
            refine wp_region_lit ?_
            refine wl rfl (ptr g) _ (run_mvZ (.tmp 8) rfl (ptr g) rfl) ?_
            simp only [Act.put, List.setIfInBounds_toArray, List.set_cons_succ, List.set_cons_zero]
            refine wl rfl vk _ (run_mvZ (.tmp 2) rfl vk rfl) ?_
            simp only [Act.put, List.setIfInBounds_toArray, List.set_cons_succ, List.set_cons_zero]
            refine wpList_callW eM15 [.tmp 95, .tmp 96] _ rfl rfl [(ptr g), vk] rfl ?_
            refine (sBoot HJ.out.sw (by omega) _ ks (IntsIn.keep HK.out HJ.out.sw.below HJ.out.sw.cc)).mono ?_
            rintro e W8 ⟨rfl, c8, h_, cc_, ch_⟩
            refine ⟨_, rfl, ?_⟩
            have H8 : Hid (Sw w W8 c8 g 64 (m.boot ks) (5000 + 1000 * i + 4 + 100 * k) ∧ Jc (m.boot ks) 0 64 D2 ∧ Told w W8 c8 gw u15 D2 us ∧ D2.length ≤ k) := ⟨h_, HJ.out.jo.jc.boot ks, HJ.out.told.step cc_ (ch_.mono fun _ _ e => Or.inl e), HJ.out.few⟩
            clear h_ cc_ ch_ HJ
            simp only [Act.put, List.setIfInBounds_toArray, List.set_cons_succ, List.set_cons_zero]
            refine wpList_nil ?_
            go_upto_region 29 with fail
            refine wp_region_lit ?_
            refine wl rfl (ptr g) _ (run_mvZ (.tmp 8) rfl (ptr g) rfl) ?_
            simp only [Act.put, List.setIfInBounds_toArray, List.set_cons_succ, List.set_cons_zero]
            refine wpList_callW eM12 [.tmp 99, .const (.int .i64 0)] _ rfl rfl [(ptr g), .int .i64 0] rfl ?_
            refine (sOpen H8.out.1 (by omega) H8.out.2.1 (by show (-1 : Int) < 0; decide)).mono ?_
            rintro e W9 ⟨gx, p9, cap9, S9, E9, c9, m9, rfl, h_, _, _, j_, f_, cc_, ch_, us9, rb_⟩
            refine ⟨_, rfl, ?_⟩
            have H9 : Hid (Sw w W9 c9 g 64 m9 (5000 + 1000 * i + 4 + 100 * k + 2) ∧ Jc m9 0 64 D2 ∧ m9.fuse < 0 ∧ TxsIn W9 (.slice p9 D2.length cap9) D2 ∧ TxsIn W9 u15 D2) := ⟨h_, j_.jc, f_, rb_.now.ins, (H8.out.2.2.1.step cc_ (ch_.mono fun _ _ e => Or.inl e)).txs h_.below (by have := H8.out.2.2.2; omega)⟩
            clear h_ j_ f_ cc_ ch_ rb_ H8
            simp only [Act.put, List.setIfInBounds_toArray, List.set_cons_succ, List.set_cons_zero]
            refine wl rfl (.tuple #[(ptr gx), (.slice p9 D2.length cap9), (.int .i64 0)]) _ (run_mvZ (.tmp 100) rfl (.tuple #[(ptr gx), (.slice p9 D2.length cap9), (.int .i64 0)]) rfl) ?_
            simp only [Act.put, List.setIfInBounds_toArray, List.set_cons_succ, List.set_cons_zero]
            refine wl rfl (ptr gx) _ (run_extZ (.tmp 98) 0 rfl #[(ptr gx), (.slice p9 D2.length cap9), (.int .i64 0)] rfl (ptr gx) rfl) ?_
            simp only [Act.put, List.setIfInBounds_toArray, List.set_cons_succ, List.set_cons_zero]
            refine wl rfl (.slice p9 D2.length cap9) _ (run_extZ (.tmp 98) 1 rfl #[(ptr gx), (.slice p9 D2.length cap9), (.int .i64 0)] rfl (.slice p9 D2.length cap9) rfl) ?_
            simp only [Act.put, List.setIfInBounds_toArray, List.set_cons_succ, List.set_cons_zero]
            refine wl rfl (.int .i64 0) _ (run_extZ (.tmp 98) 2 rfl #[(ptr gx), (.slice p9 D2.length cap9), (.int .i64 0)] rfl (.int .i64 0) rfl) ?_
            simp only [Act.put, List.setIfInBounds_toArray, List.set_cons_succ, List.set_cons_zero]
            refine wl rfl (ptr gx) _ (run_asZ (.tmp 101) rfl (ptr gx) rfl) ?_
            simp only [Act.put, List.setIfInBounds_toArray, List.set_cons_succ, List.set_cons_zero]
            refine wl rfl (.slice p9 D2.length cap9) _ (run_asZ (.tmp 102) rfl (.slice p9 D2.length cap9) rfl) ?_
            simp only [Act.put, List.setIfInBounds_toArray, List.set_cons_succ, List.set_cons_zero]
            refine wl rfl (.int .i64 0) _ (run_asZ (.tmp 103) rfl (.int .i64 0) rfl) ?_
            simp only [Act.put, List.setIfInBounds_toArray, List.set_cons_succ, List.set_cons_zero]
            refine wpList_nil ?_
            go_upto_region 30 with fail
            refine wp_region_lit ?_
            refine wl rfl (.int .i64 0) _ (run_mvZ (.tmp 13) rfl (.int .i64 0) rfl) ?_
            simp only [Act.put, List.setIfInBounds_toArray, List.set_cons_succ, List.set_cons_zero]
            refine wl rfl (.bool false) _ (run_neZ (.tmp 104) (.const (.int .i64 0)) rfl (0) (0) rfl rfl false rfl) ?_
            simp only [Act.put, List.setIfInBounds_toArray, List.set_cons_succ, List.set_cons_zero]
            refine wl rfl (.bool false) _ (run_mvZ (.tmp 105) rfl (.bool false) rfl) ?_
            simp only [Act.put, List.setIfInBounds_toArray, List.set_cons_succ, List.set_cons_zero]
            refine wl (by kernel_rfl) (.slice p9 D2.length cap9) _ (run_mvZ (.tmp 19) rfl (.slice p9 D2.length cap9) rfl) ?_
            simp only [Act.put, List.setIfInBounds_toArray, List.set_cons_succ, List.set_cons_zero]
            refine wl (by kernel_rfl) u15 _ (run_mvZ (.tmp 15) rfl u15 rfl) ?_
            simp only [Act.put, List.setIfInBounds_toArray, List.set_cons_succ, List.set_cons_zero]
            refine wpList_callW eM16 [.tmp 107, .tmp 108] _ (by kernel_rfl) rfl [(.slice p9 D2.length cap9), u15] rfl ?_
            refine (same_any H9.out.2.2.2.1 H9.out.2.2.2.2).mono ?_
            rintro e W10 ⟨rfl, b_⟩
            refine ⟨_, rfl, ?_⟩
            have H10 : Hid (AnS w g (i + 1) c9 m9 D2 W10) := ⟨by omega, ((H9.out.1.bel b_).mono (by omega)), H9.out.2.1, H9.out.2.2.1, fun h => absurd h (by omega)⟩
            clear b_ H9
            simp only [Act.put, List.setIfInBounds_toArray, List.set_cons_succ, List.set_cons_zero]
            refine wl (by kernel_rfl) (.bool false) _ (run_not (.tmp 109) 4 rfl true rfl) ?_
            simp only [Act.put, List.setIfInBounds_toArray, List.set_cons_succ, List.set_cons_zero]
            refine wl rfl (.bool false) _ (run_pickZ (.tmp 106) (.const (.bool true)) (.tmp 110) rfl false (.bool false) rfl rfl) ?_
            simp only [Act.put, List.setIfInBounds_toArray, List.set_cons_succ, List.set_cons_zero]
            refine wpList_nil ?_
            go_wp2_with fail
            refine ⟨⟨i + 1, c9, m9, D2, by go_num, H10.out⟩, ?_⟩
            simp [intOf]; omega
    · have h1 : decide ((i : Int) < ((1 + wh : Nat) : Int)) = false := decide_eq_false (by omega)
      go_upto_region 11 with fail
      refine wp_region_lit ?_
      refine wl rfl (.int .i64 (i : Nat)) _ (run_mvZ (.tmp 10) rfl (.int .i64 (i : Nat)) rfl) ?_
      simp only [Act.put, List.setIfInBounds_toArray, List.set_cons_succ, List.set_cons_zero]
      refine wl rfl (.int .i64 tm) _ (run_mvZ (.tmp 1) rfl (.int .i64 tm) rfl) ?_
      simp only [Act.put, List.setIfInBounds_toArray, List.set_cons_succ, List.set_cons_zero]
      refine wpList_callW eM8 [.tmp 31, .const (.int .i64 6)] _ rfl rfl [(.int .i64 tm), .int .i64 6] rfl ?_
      refine (HWH.out WK).mono ?_
      rintro e W_ ⟨rfl, rfl⟩
      refine ⟨_, rfl, ?_⟩
      simp only [Act.put, List.setIfInBounds_toArray, List.set_cons_succ, List.set_cons_zero]
      refine wl rfl (.int .i64 ((1 + wh : Nat) : Int)) _ (run_addI (.const (.int .i64 1)) (.tmp 32) rfl _ _ ((1 + wh : Nat) : Int) (by omega) (by omega) (by omega) rfl rfl) ?_
      simp only [Act.put, List.setIfInBounds_toArray, List.set_cons_succ, List.set_cons_zero]
      refine wl rfl (.bool false) _ (run_lssZ (.tmp 30) (.tmp 33) rfl _ _ rfl rfl false h1) ?_
      simp only [Act.put, List.setIfInBounds_toArray, List.set_cons_succ, List.set_cons_zero]
      refine wpList_nil ?_
      clear h1
      go_upto_region 32 with fail
      refine wp_region_lit ?_
      refine wl rfl (.bool true) _ (run_mvZ (.tmp 7) rfl (.bool true) rfl) ?_
      simp only [Act.put, List.setIfInBounds_toArray, List.set_cons_succ, List.set_cons_zero]
      refine wl rfl (.bool true) _ (run_asZ (.tmp 112) rfl (.bool true) rfl) ?_
      simp only [Act.put, List.setIfInBounds_toArray, List.set_cons_succ, List.set_cons_zero]
      refine wpList_nil ?_
      go_wp2_with fail
      rw [HPQ.out]
      exact ⟨rfl, HS.out.sw.below⟩
end Go.Proofs.YtomfdnjbipgmcaaDoor

namespace Go.Proofs.YtomfdnjbipgmcaaDoor
open Go.ChangeShapes Go.WideShapes Go.ChangeAt Go.RowKit Go.Deep

theorem own : ownKnob Tryd.prog.godebug = none := by kernel_rfl
theorem laidOut : laidOutB Tryd.prog = true := by kernel_rfl
theorem gTab : Tryd.prog.globalNamed "muniment/crc.halves" = some 0 := by kernel_rfl
theorem gTabType : (Tryd.prog.globals[0]?).map (·.type) = some 163 := by kernel_rfl
theorem cells177 : Tryd.prog.cellsOf 163 = 16 := by kernel_rfl
theorem cells160 : Tryd.prog.cellsOf 140 = 1 := by kernel_rfl
theorem cells5 : Tryd.prog.cellsOf 5 = 1 := by kernel_rfl
theorem cells3 : Tryd.prog.cellsOf 3 = 1 := by kernel_rfl
theorem cells51 : Tryd.prog.cellsOf 50 = 1 := by kernel_rfl
theorem cells30 : Tryd.prog.cellsOf 28 = 1 := by kernel_rfl
/-- the table as the rows list it -/
def tabInts : List Int := [0, 498536548, 997073096, 651767980, 1994146192, 1802195444, 1303535960, 1342533948, 3988292384, 4027552580, 3604390888, 3412177804, 2607071920, 2262029012, 2685067896, 3183342108]
theorem tabInts_at : ∀ k : Fin 16, tabInts.getD k.val 0 = Fr.Crc.U (BitVec.ofNat 32 (Fr.Crc.tab.getD k.val 0)) := by decide +kernel

/-- WHAT A ROW's LIST GIVES: the table lies in its place. -/
theorem tabIn_of {W : World} (h : laidMetH Tryd.prog [("muniment/crc.halves", Rows.laid_muniment_crc_halves)] W) : Fr.TabIn W := by
  have ht : Lib.TabIs Tryd.prog W "muniment/crc.halves" .u32 tabInts :=
    Lib.tabIs_of_head (rest := []) gTab gTabType Tryd.underlying163 Tryd.underlying140 cells160 cells177 h
  intro r
  have hl := Fr.Crc.low_lt' r
  have := ht.cell gTab (Fr.Crc.low r) (by simpa [tabInts] using hl)
  rw [tabInts_at ⟨Fr.Crc.low r, hl⟩] at this
  exact this

theorem bulk_length {H : Type} (l : List (DataW H)) : l.length ≤ Rows.uptoBulkAll l := by
  induction l with
  | nil => simp [Rows.uptoBulkAll]
  | cons x r ih =>
    have h1 : 1 ≤ Rows.uptoBulk x := by
      cases x with
      | lit l => cases l <;> simp [Rows.uptoBulk]
      | nil => simp [Rows.uptoBulk]
      | ptr d => simp [Rows.uptoBulk]
      | slice elems spare => simp [Rows.uptoBulk]
      | agg parts => simp [Rows.uptoBulk]
      | iface t d => simp [Rows.uptoBulk]
      | map entries => simp [Rows.uptoBulk]
      | held h => simp [Rows.uptoBulk]
    simp only [Rows.uptoBulkAll, List.length_cons]
    omega
/-- A WORLD FOR THE WITNESS: the settled one, the table (block 0) holding what its initialiser lays. -/
def laidOn (W : World) : World :=
  { W with heap := W.heap.modify 0 fun
      | .cells _ t frozen => .cells (tabInts.map fun z => Value.int .u32 z).toArray t frozen
      | o => o }
theorem bulk_rows {H : Type} (f : Nat → DataW H) (g : Nat → List Nat) (rs : List Nat) (h : ∀ r ∈ rs, (g r).length + 1 ≤ Rows.uptoBulk (f r)) : (rs.map g).flatten.length + rs.length ≤ Rows.uptoBulkAll (rs.map f) := by
  induction rs with
  | nil => simp [Rows.uptoBulkAll]
  | cons r rs ih =>
    have h1 := h r (by simp)
    have h2 := ih (fun x hx => h x (by simp [hx]))
    simp only [List.map_cons, List.flatten_cons, List.length_append, List.length_cons, Rows.uptoBulkAll]
    omega
set_option maxRecDepth 100000 in
/-- A SLICE OF SLICES OF BYTES, INSIDE ANOTHER OR BY ITSELF -/
theorem rows_field {H : Type} {enc : TypeId × Value → H} {W : World} {v : Value} {y : DataW H × List MemPlace} {n : Nat} (hf : DataW.trod enc Tryd.prog W 0 (fun _ => true) true n 28 [v] = some y) : ∃ L, (L.length ≤ 1099511627776 → RowsIn W v L) ∧ L.flatten.length + L.length ≤ Rows.uptoBulk y.1 := by
  rcases open_int_rows Tryd.underlying28 Tryd.underlying50 Tryd.underlying5 cells51 cells5 hf with ⟨hcs, _⟩ | ⟨a, len, cap, A, Ls, C, Z, hcs, _, hl, hm, hx, hrow⟩
  · simp at hcs
    subst hcs
    exact ⟨[], fun _ => ⟨none, 0, rfl, by decide, Or.inl rfl⟩, by simp⟩
  · simp at hcs
    subst hcs
    unfold maxLen at hm
    have hbd : ∀ r, r < cap → ∀ z ∈ Z r, 0 ≤ z ∧ z ≤ 255 := fun r hr z hz => by
      have := (hrow r hr).2.2.2.2.1 z hz
      simpa [Lit.wf, IntKind.min, IntKind.max, IntKind.signed, IntKind.bits] using this
    have hgl : ∀ r, r < cap → (((Z r).take (Ls r)).map Int.toNat).length = Ls r := fun r hr => by
      have h1 := (hrow r hr).2.1
      have h2 := (hrow r hr).2.2.2.1
      rw [List.length_map, List.length_take]
      omega
    refine ⟨(List.range len).map fun r => ((Z r).take (Ls r)).map Int.toNat, fun hle => ⟨some a, cap, by simp, hle, ?_⟩, ?_⟩
    · by_cases h0 : len = 0
      · subst h0
        exact Or.inl (by simp)
      · right
        have hplain : ∃ b off, a = ⟨b, off, none⟩ := by
          have h1 := (hrow 0 (by omega)).1
          obtain ⟨ab, ao, sp⟩ := a
          have hsp : sp = none := by simpa [Addr.add] using World.cell?_spot h1
          subst hsp
          exact ⟨ab, ao, rfl⟩
        obtain ⟨b, off, rfl⟩ := hplain
        refine ⟨b, off, rfl, fun i hi => ?_⟩
        have hi' : i < len := by simpa using hi
        have hic : i < cap := by omega
        obtain ⟨hcell, hlc, hcm, hzl, hwz, hnone, hsome⟩ := hrow i hic
        rw [add_none] at hcell
        refine ⟨_, hcell, ?_⟩
        have hget : ((List.range len).map fun r => ((Z r).take (Ls r)).map Int.toNat).getD i [] = ((Z i).take (Ls i)).map Int.toNat := by simp [hi']
        rw [hget]
        refine ⟨A i, C i, by rw [hgl i hic], ⟨by rw [hgl i hic]; exact hlc, by rw [hgl i hic]; unfold maxLen at hcm; omega⟩, ?_⟩
        by_cases hz0 : Ls i = 0
        · exact Or.inl (by rw [hz0]; simp)
        · right
          cases hA : A i with
          | none => have := hnone hA; omega
          | some a' =>
            obtain ⟨_, hc'⟩ := hsome a' hA
            obtain ⟨b', off', rfl, hc⟩ := ints_at (zs := Z i) (fun c hc2 => hc' c (by omega)) (by omega)
            refine ⟨b', off', rfl, fun j hj => ?_, fun j => ?_⟩
            · rw [hgl i hic] at hj
              have hj' : j < (Z i).length := by omega
              rw [hc j hj']
              have h2 := hbd i hic (Z i)[j] (List.getElem_mem hj')
              simp [hj, hj', Int.toNat_of_nonneg h2.1]
            · by_cases hj : j < (((Z i).take (Ls i)).map Int.toNat).length
              · have hz := List.getElem_mem hj
                obtain ⟨y, hy, e⟩ := List.mem_map.1 hz
                have := hbd i hic y (List.mem_of_mem_take hy)
                have e2 : (((Z i).take (Ls i)).map Int.toNat).getD j 0 = (((Z i).take (Ls i)).map Int.toNat)[j] := by rw [List.getD_eq_getElem?_getD, List.getElem?_eq_getElem hj]; rfl
                rw [e2, ← e]
                omega
              · rw [List.getD_eq_getElem?_getD, List.getElem?_eq_none (by omega)]
                decide
    · have hd := congrArg Prod.fst hx
      simp only at hd
      rw [hd]
      simp only [Rows.uptoBulk]
      have hb := bulk_rows (fun r => (intRow .u8 (A r) (Ls r) (Z r) : DataW H)) (fun r => ((Z r).take (Ls r)).map Int.toNat) (List.range len) (fun r hr => by
        have hrl := List.mem_range.1 hr
        rw [hgl r (by omega)]
        obtain ⟨hcell, hlc, hcm, hzl, hwz, hnone, hsome⟩ := hrow r (by omega)
        cases hA : A r with
        | none =>
          have := hnone hA
          simp only [intRow, Rows.uptoBulk]
          omega
        | some a' =>
          simp only [intRow, Rows.uptoBulk]
          have h1 := bulk_length (H := H) (lits .u8 ((Z r).take (Ls r)))
          have h2 : (lits (H := H) .u8 ((Z r).take (Ls r))).length = Ls r := by simp [lits]; omega
          omega)
      simp only [List.length_map]
      omega
theorem bytes_flat (L : List (List Nat)) : bytesOf L = L.flatten.length := by
  unfold bytesOf
  rw [List.length_flatten]
theorem bulk_mem {H : Type} {l : List (DataW H)} {d : DataW H} (h : d ∈ l) : Rows.uptoBulk d ≤ Rows.uptoBulkAll l := by
  induction l with
  | nil => cases h
  | cons x r ih =>
    simp only [Rows.uptoBulkAll]
    rcases List.mem_cons.1 h with rfl | h
    · omega
    · have := ih h
      omega
set_option maxRecDepth 100000 in
/-- A SLICE OF NUMBERS THAT CAME IN -/
theorem open_nums {H : Type} {enc : TypeId × Value → H} {W : World} {v : Value} {d : DataW H} {p : List MemPlace} {base : Nat}
    (hv : Value.okWide Tryd.prog W .any base 29 v) (h : DataW.Trod enc Tryd.prog W 0 (fun _ => true) true 29 v d p) : ∃ l : List Int, (l.length < 4611686018427387904 → IntsIn W v l) ∧ (l = [] ∨ ∃ elems spare, d = .slice elems spare ∧ elems.length = l.length) ∧ ∀ z ∈ l, -9223372036854775808 ≤ z ∧ z ≤ 9223372036854775807 := by
  obtain ⟨a0, len0, cap0, rfl⟩ := okWide_slice Tryd.underlying29 hv
  obtain ⟨fuel, hf⟩ := h
  rcases open_ints Tryd.underlying29 Tryd.underlying3 cells3 hf with ⟨hcs, _⟩ | ⟨x, l, c, zs, hcs, _, hl, hm, hz, hx, hcell, hwz⟩
  · simp [Value.cells] at hcs
    obtain ⟨rfl, rfl, rfl⟩ := hcs
    exact ⟨[], fun _ => ⟨none, 0, rfl, by decide, by decide, Or.inl rfl⟩, Or.inl rfl, fun z hz => by cases hz⟩
  · simp [Value.cells] at hcs
    obtain ⟨rfl, rfl, rfl⟩ := hcs
    have hz' : zs.length = cap0 := by simpa using hz
    have hlen : (zs.take len0).length = len0 := by simp; omega
    have hbd : ∀ z ∈ zs.take len0, -9223372036854775808 ≤ z ∧ z ≤ 9223372036854775807 := fun z hz => by
      have := hwz z (List.mem_of_mem_take hz)
      simpa [Lit.wf, IntKind.min, IntKind.max, IntKind.signed, IntKind.bits] using this
    by_cases h0 : len0 = 0
    · subst h0
      exact ⟨[], fun _ => ⟨some x, cap0, rfl, by simp, by decide, Or.inl rfl⟩, Or.inl rfl, fun z hz => by cases hz⟩
    · obtain ⟨b, off, rfl, hc⟩ := ints_at hcell (by omega)
      refine ⟨zs.take len0, fun h62 => ⟨some ⟨b, off, none⟩, cap0, by rw [hlen], by omega, h62, Or.inr ⟨b, off, rfl, fun j hj => ?_⟩⟩, Or.inr ⟨_, _, congrArg Prod.fst hx, by simp [lits]⟩, hbd⟩
      rw [hlen] at hj
      have h1 := hc j (by omega)
      rw [h1]
      have hj' : j < zs.length := by omega
      simp [hj, hj']
theorem open_len {H : Type} {d : DataW H} {l : List Int} (hd : l = [] ∨ ∃ elems spare, d = .slice elems spare ∧ elems.length = l.length) (hb : Rows.uptoBulk d ≤ 1048576) : l.length < 4611686018427387904 := by
  rcases hd with rfl | ⟨elems, spare, e, he⟩
  · simp
  · rw [e] at hb
    simp only [Rows.uptoBulk] at hb
    have := bulk_length elems
    omega
set_option maxRecDepth 100000 in
/-- A SLICE OF TRANSACTIONS THAT CAME IN -/
theorem open_txs {H : Type} {enc : TypeId × Value → H} {W : World} {v : Value} {d : DataW H} {p : List MemPlace} {base : Nat}
    (hv : Value.okWide Tryd.prog W .any base 36 v) (h : DataW.Trod enc Tryd.prog W 0 (fun _ => true) true 36 v d p) (hk : Rows.uptoBulk d ≤ 1048576) : ∃ L, ArgIn W v L ∧ ∀ k, k < L.length → txSize (L.getD k []) ≤ 100000000 := by
  obtain ⟨a0, len0, cap0, rfl⟩ := okWide_slice Tryd.underlying36 hv
  obtain ⟨fuel, hf⟩ := h
  rcases open_slice Tryd.underlying36 hf with ⟨hcs, _⟩ | ⟨a, len, cap, m, n, D, Pl, hcs, _, hl, hm, hmm, hx, hrow⟩
  · simp [Value.cells] at hcs
    obtain ⟨rfl, rfl, rfl⟩ := hcs
    exact ⟨[], ⟨none, 0, rfl, by simp, Or.inl rfl⟩, fun k hk => absurd hk (Nat.not_lt_zero _)⟩
  · simp [Value.cells] at hcs
    obtain ⟨rfl, rfl, rfl⟩ := hcs
    have hd := congrArg Prod.fst hx
    simp only at hd
    rw [hd] at hk
    simp only [Rows.uptoBulk] at hk
    have hlm : len0 ≤ m := by rw [hmm]; split <;> omega
    have hb := bulk_length ((List.range len0).map D)
    rw [List.length_map, List.length_range] at hb
    obtain ⟨F, hF⟩ := choose_lt (α := Value × List (List Nat)) (n := len0) (p := fun i o => W.cells? 0 (a.add (i * 1)) 1 = some [o.1] ∧ RowsIn W o.1 o.2 ∧ txSize o.2 ≤ 100000000) (fun i hi => by
      obtain ⟨cs', h1, h2⟩ := hrow i (by omega)
      rw [cells30] at h1
      have hmem : D i ∈ (List.range len0).map D := List.mem_map.2 ⟨i, List.mem_range.2 hi, rfl⟩
      have hbm := bulk_mem hmem
      have hl1 : cs'.length = 1 := by
        obtain ⟨k1, k2, _⟩ := World.cells?_some h1
        first | exact k1 | exact k2
      match cs', hl1 with
      | [u], _ =>
        obtain ⟨L, hL, hLb⟩ := rows_field h2
        have hLb : L.flatten.length + L.length ≤ Rows.uptoBulk (D i) := hLb
        refine ⟨(u, L), h1, hL (by omega), ?_⟩
        show txSize L ≤ _
        unfold txSize
        rw [bytes_flat]
        omega)
    refine ⟨(List.range len0).map fun i => (F i).2, ⟨some a, cap0, by simp, by simp; omega, ?_⟩, fun k hk => ?_⟩
    · by_cases h0 : len0 = 0
      · subst h0
        exact Or.inl (by simp)
      · right
        obtain ⟨_, _, hcell0⟩ := World.cells?_some (hF 0 (by omega)).1
        have hplain : ∃ b off, a = ⟨b, off, none⟩ := by
          have h1 := hcell0 0 (by omega)
          obtain ⟨ab, ao, sp⟩ := a
          have h1' : W.cell? ⟨ab, ao, sp⟩ = some (F 0).1 := by
            simpa [Addr.add] using h1
          have hsp : sp = none := by simpa [Addr.add] using World.cell?_spot h1'
          subst hsp
          exact ⟨ab, ao, rfl⟩
        obtain ⟨b, off, rfl⟩ := hplain
        refine ⟨b, off, rfl, fun i hi => ?_⟩
        rw [List.length_map, List.length_range] at hi
        obtain ⟨_, _, hcell⟩ := World.cells?_some (hF i hi).1
        have h1 := hcell 0 (by omega)
        rw [add_none, add_none] at h1
        have e : ((List.range len0).map fun i => (F i).2).getD i [] = (F i).2 := by simp [hi]
        rw [e]
        refine ⟨(F i).1, ?_, (hF i hi).2.1⟩
        simpa using h1
    · rw [List.length_map, List.length_range] at hk
      have e : ((List.range len0).map fun i => (F i).2).getD k [] = (F k).2 := by simp [hk]
      rw [e]
      exact (hF k hk).2.2
end Go.Proofs.YtomfdnjbipgmcaaDoor

namespace Go.Proofs.YtomfdnjbipgmcaaDoor.walAnewUpto
open Go.ChangeShapes Go.WideShapes Go.ChangeAt Go.RowKit

set_option maxRecDepth 100000 in
/-- WHAT THE WALK GIVES, FOR EVERY ARGUMENT AND EVERY WORLD THAT HOLDS THE TABLE -/
theorem contract (H : Type) (enc : TypeId × Value → H) (W : World) (base : Nat) (args : Array Value) (ds gs : List (DataW H)) (before : List MemPlace)
    (hval : ∀ (j : Nat) t v, Tryd.f4.params[j]? = some t → args[j]? = some v → Value.okWide Tryd.prog W .any base t v)
    (hW : DataW.Whole enc Tryd.prog Tryd.f4.params.toList Rows.walAnewSpec.vars false W args.toList ds gs before)
    (hk : Rows.uptoSmall H (ds ++ gs) = true)
    (hL : laidMetH Tryd.prog Rows.walAnewUptoRow.laid W) :
    Calls Tryd.prog 4 args W fun e W' => ∃ v, e = .returned v ∧ Rows.walAnewSpec.post enc Tryd.prog Tryd.f4 false true false false W args v W' := by
  have hW' := hW
  obtain ⟨p, q, hA0, hV, rfl, hfz, hnd⟩ := hW
  have hA : DataW.TrodAll enc Tryd.prog W 0 (fun _ => true) true Tryd.f4.params.toList args.toList ds p := hA0
  rw [Tryd.params4] at hA hval
  obtain ⟨v0, vs0, d0, ds0, p0, q0, hargs, rfl, rfl, h0, r0⟩ := trodAll_cons hA
  obtain ⟨v1, vs1, d1, ds1, p1, q1, rfl, rfl, rfl, h1, r1⟩ := trodAll_cons r0
  obtain ⟨v2, vs2, d2, ds2, p2, q2, rfl, rfl, rfl, h2, r2⟩ := trodAll_cons r1
  obtain ⟨rfl, rfl, rfl⟩ := trodAll_nil r2
  obtain rfl : args = #[v0, v1, v2] := by cases args; simp_all
  obtain ⟨rfl, rfl⟩ := trodVars_none hV
  have lt0 : ∀ x ∈ p0, x.block < W.heap.size := by obtain ⟨m, hm⟩ := h0; exact DataW.trod_lt m _ _ _ hm
  obtain ⟨a1, rfl, rfl, rfl, w1⟩ := open_int Tryd.underlying3 (hval 1 3 v1 rfl rfl) h1
  have b1 : -9223372036854775808 ≤ a1 ∧ a1 ≤ 9223372036854775807 := by
    simpa [Lit.wf, IntKind.min, IntKind.max, IntKind.signed, IntKind.bits] using w1
  have lt2 : ∀ x ∈ p2, x.block < W.heap.size := by obtain ⟨m, hm⟩ := h2; exact DataW.trod_lt m _ _ _ hm
  obtain ⟨ks2, hs2, hd2, hb2⟩ := open_nums (hval 2 29 v2 rfl rfl) h2
  clear hA0
  have hbk : Rows.uptoBulkAll [d0, (.lit (.int .i64 a1) : DataW H), d2] ≤ 1048576 := of_decide_eq_true hk
  simp only [Rows.uptoBulkAll] at hbk
  obtain ⟨L0, hL0, hZ0⟩ := open_txs (hval 0 36 v0 rfl rfl) h0 (by omega)
  obtain ⟨p0', cap0', hv0, _, _⟩ := id hL0
  subst hv0
  have walk := walAnew_any W (tabIn_of hL) p0' L0.length cap0' L0 hL0 hZ0 a1 b1 v2 ks2 (hs2 (open_len hd2 (by omega)))
  refine walk.mono fun e W' ⟨he, bel⟩ => ?_
  subst he
  exact ⟨_, rfl, _, _, _, [], _, [], hW', trodAll_mk1 (shut_bool Tryd.underlying4 _), (trodAll_cons_mk (Below.trod laidOut (by kernel_rfl) (of_decide_eq_true (by kernel_rfl)) h0 bel lt0) (trodAll_cons_mk (shut_int Tryd.underlying3 w1) (trodAll_cons_mk (Below.trod laidOut (by kernel_rfl) (of_decide_eq_true (by kernel_rfl)) h2 bel lt2) trodAll_mk0))), rfl, bel.frame _, fun h => by cases h⟩

theorem laid_met (os : Os) : laidMet Tryd.prog Rows.walAnewUptoRow.laid ((laidOn (World.holding Tryd.prog os ⟨#[], #[], []⟩)).forCall (fun _ _ => 0) ⟨#[], #[.slice none 0 0, .int .i64 0, .slice none 0 0], []⟩).memory :=
  laidMet_of_run' 8 (by kernel_rfl) (by kernel_rfl)
theorem reads (os : Os) {H : Type} (enc : TypeId × Value → H) : ∃ places, DataW.whole enc Tryd.prog ((laidOn (World.holding Tryd.prog os ⟨#[], #[], []⟩)).forCall (fun _ _ => 0) ⟨#[], #[.slice none 0 0, .int .i64 0, .slice none 0 0], []⟩).memory Tryd.f4.params.toList Rows.walAnewSpec.vars false #[Value.slice none 0 0, .int .i64 0, .slice none 0 0].toList 8 = some ([.nil, .lit (.int .i64 0), .nil], [], places) :=
  ⟨[], by kernel_rfl⟩

set_option maxRecDepth 100000 in
theorem lifted (os : Os) (started : os.Started) (H : Type) (enc : TypeId × Value → H) (F : Stop.Interp) :
    ReturnsInHanded {} Tryd.checked os 4 .any ((Rows.OpenSpec.upto Rows.walAnewSpec).preRow enc Tryd.prog Tryd.f4 Rows.walAnewUptoRow.domain false Rows.walAnewUptoRow.laid) (((Rows.OpenSpec.upto Rows.walAnewSpec).at F).post enc Tryd.prog Tryd.f4 false true false false) := by
  obtain ⟨places, hx⟩ := reads os enc
  refine returnsInHanded_of_row (C := Tryd.checked) (s := Rows.OpenSpec.upto Rows.walAnewSpec) own started (by kernel_rfl) Tryd.func4
    (witness_row_at (enc := enc) (C := Tryd.checked) false (laidOn (World.holding Tryd.prog os ⟨#[], #[], []⟩)) #[.slice none 0 0, .int .i64 0, .slice none 0 0] rfl (by kernel_rfl) (by kernel_rfl) (by kernel_rfl)
      (OpenSpec.preRow_of_cond 8 hx (by kernel_rfl) (fun k hk => by cases hk; kernel_rfl) (by kernel_rfl) (laid_met os))) ?_
  intro W base args ds gs before hval hW _ hcond _ hL _ _
  exact contract H enc W base args ds gs before hval hW (hcond _ rfl) hL

theorem said : Rows.WalAnewUptoSaid :=
  OpenClaim.holds_of_cond 4 Tryd.f4 rfl rfl rfl rfl rfl rfl rfl ⟨rfl, rfl, rfl, rfl, rfl⟩ rfl rfl rfl rfl rfl (by kernel_rfl) Tryd.func4 (by kernel_rfl)
    (of_decide_eq_true (by kernel_rfl)) (by unfold Func.isWrapper; first | (rw [if_pos (by decide +kernel)]; kernel_rfl) | (rw [if_neg (by decide +kernel)]; exact ⟨rfl, rfl⟩))
    (fun os started H enc _ F => by rw [OpenClaim.pre_eq_preRow]; exact lifted os started H enc F)

theorem plain (f : FuncId) (fn : Func) (hf : Tryd.pinned.checked.prog.funcNamed "muniment/munimentlaw08.WalAnew" = some f) (hfn : Tryd.pinned.checked.prog.funcs[f]? = some fn) :
    false = Tryd.pinned.checked.prog.looks [] ∧ ∀ (j : Nat) t, fn.params[j]? = some t → Tryd.pinned.checked.prog.wantsStandIn t = false := by
  obtain rfl : f = 4 := Option.some.inj ((show Tryd.prog.funcNamed "muniment/munimentlaw08.WalAnew" = some 4 by kernel_rfl).symm.trans hf) |>.symm
  obtain rfl : fn = Tryd.f4 := (Option.some.inj (Tryd.func4.symm.trans hfn)).symm
  refine ⟨by kernel_rfl, fun j t ht => ?_⟩
  rw [Tryd.params4] at ht
  have hm := Array.mem_of_getElem? ht
  have : t = 36 ∨ t = 3 ∨ t = 29 := by simpa using hm
  rcases this with rfl | rfl | rfl
  · exact (show Tryd.prog.wantsStandIn 36 = false by kernel_rfl)
  · exact (show Tryd.prog.wantsStandIn 3 = false by kernel_rfl)
  · exact (show Tryd.prog.wantsStandIn 29 = false by kernel_rfl)

end Go.Proofs.YtomfdnjbipgmcaaDoor.walAnewUpto
namespace Go.Proofs.YtomfdnjbipgmcaaDoor
/-- THE CARD -/
theorem walAnewUpto_card : Rows.WalAnewUptoCardSaid :=
  Claim7.holds_tied_plain_at .later [] _ _ _ _ walAnewUpto.said (fun _ h => by cases h) (by kernel_rfl) (fun _ h => by cases h) walAnewUpto_row_tie rfl ⟨rfl, rfl⟩ (by kernel_rfl) rfl walAnewUpto.plain (by kernel_rfl)
end Go.Proofs.YtomfdnjbipgmcaaDoor

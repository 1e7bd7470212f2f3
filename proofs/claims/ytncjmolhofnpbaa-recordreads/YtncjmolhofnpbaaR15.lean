/- Bytes that grow. -/
import Derived.Test.YtncjmolhofnpbaaR14
import Derived.Lib.AppendStr
import Derived.Lib.ConvBytes
namespace Go.Proofs.Ytncjmolhofnpbaa
open Go.RowKit

theorem BOwn.hasBlock {w : World} {base : Nat} {v : Value} {cs : List Nat} (h : BOwn w base v cs) (hne : cs ≠ []) : v.ownBlock ≠ none := by
  rcases h.2 with ⟨rfl, h0⟩ | ⟨g, cap, cur, rfl, _⟩
  · exact absurd (List.length_eq_zero_iff.1 h0) hne
  · exact fun e => by cases e
theorem BOwn.neRow {w : World} {base : Nat} {v : Value} {cs : List Nat} (h : BOwn w base v cs) {q T : Nat} {rs : List Value} (hr : Row w q T rs) (hT : T ≠ 5) : v.ownBlock ≠ some q := by
  intro e
  rcases h.2 with ⟨rfl, _⟩ | ⟨g, cap, cur, rfl, _, hg, _⟩
  · cases e
  · have e2 : g = q := Option.some.inj e
    subst e2
    unfold Row at hr
    rw [hg] at hr
    injection hr with hr
    injection hr with _ h2
    exact hT h2.symm
theorem BOwn.laterB {w w' : World} {base : Nat} {v : Value} {cs : List Nat} (h : BOwn w base v cs) (hb : Below w.heap.size w w') : BOwn w' base v cs := ownK h fun b e => hb.block b (h.lt b e).2
theorem BOwn.weakenB {w : World} {base base' : Nat} {v : Value} {cs : List Nat} (h : BOwn w base v cs) (hb : base' ≤ base) : BOwn w base' v cs := by
  refine ⟨h.1, ?_⟩
  rcases h.2 with h0 | ⟨g, cap, cur, e, h1, h2⟩
  · exact Or.inl h0
  · exact Or.inr ⟨g, cap, cur, e, Nat.le_trans hb h1, h2⟩
/-- bytes that grow, and rows that stay -/
structure Bt (w W : World) (l : List (Nat × TypeId × List Value)) (vb : Value) (cs : List Nat) : Prop where
  loc : Loc w W l
  own : BOwn W w.heap.size vb cs
  ty : ∀ (i g : Nat) (T : TypeId) (c : List Value), l[i]? = some (g, T, c) → T ≠ 5
section
variable {w W W' : World} {l : List (Nat × TypeId × List Value)} {vb vb' : Value} {cs cs' : List Nat}
theorem Bt.size (h : Bt w W l vb cs) : w.heap.size ≤ W.heap.size := h.loc.below.size
theorem Bt.grow (h : Bt w W l vb cs) (hg : W.grownBy W' vb.ownBlock) (ho : BOwn W' w.heap.size vb' cs') : Bt w W' l vb' cs' :=
  ⟨h.loc.keep ((Below.refl _ W).grown hg h.size fun k hk => (h.own.lt k hk).1) fun i g T c e => hg.block g (h.loc.at i e).lt fun e2 => h.own.neRow (h.loc.at i e) (h.ty i g T c e) e2.symm, ho, h.ty⟩
theorem Bt.anew (h : Bt w W l vb cs) (hb : Below W.heap.size W W') (ho : BOwn W' W.heap.size vb' cs') : Bt w W' l vb' cs' := ⟨h.loc.later hb, ho.weakenB h.size, h.ty⟩
theorem Bt.later (h : Bt w W l vb cs) (hb : Below W.heap.size W W') : Bt w W' l vb cs := ⟨h.loc.later hb, h.own.laterB hb, h.ty⟩
theorem Bt.drop (h : Bt w W l vb cs) (n : Nat) : Bt w W (l.take n) vb cs := ⟨h.loc.take n, h.own, fun i g T c e => h.ty i g T c (by
  rw [List.getElem?_take] at e
  split at e
  · exact e
  · cases e)⟩
theorem Bt.box (h : Bt w W l vb cs) (T : TypeId) (c : List Value) (hT : T ≠ 5) : Bt w (W.alloc (.cells c.toArray T)) (l ++ [(W.heap.size, T, c)]) vb cs :=
  ⟨h.loc.box T c, h.own.laterB (below_alloc W _), fun i g T' c' e => by
    by_cases hi : i < l.length
    · rw [List.getElem?_append_left hi] at e
      exact h.ty i g T' c' e
    · rw [List.getElem?_append_right (by omega)] at e
      by_cases h0 : i - l.length = 0
      · rw [h0] at e
        simp at e
        rw [← e.2.1]
        exact hT
      · rw [List.getElem?_eq_none (by simp; omega)] at e
        cases e⟩
theorem Bt.set (h : Bt w W l vb cs) (i : Nat) {g : Nat} {T : TypeId} {c c' : List Value} (e : l[i]? = some (g, T, c)) (hr : Row W' g T c') (hc : Ch (· = g) W W') : Bt w W' (l.set i (g, T, c')) vb cs :=
  ⟨h.loc.set i e hr hc, ownK h.own fun b hb => hc.one b (h.own.lt b hb).2 fun e2 => h.own.neRow (h.loc.at i e) (h.ty i g T c e) (e2 ▸ hb), fun j g' T' c2 e2 => by
    by_cases hj : i = j
    · subst hj
      rw [List.getElem?_set_self (List.getElem?_eq_some_iff.1 e).1] at e2
      injection e2 with e2
      injection e2 with e3 e4
      injection e4 with e4 e5
      rw [← e4]
      exact h.ty i g T c e
    · rw [List.getElem?_set_ne hj] at e2
      exact h.ty j g' T' c2 e2⟩
end
theorem run_litB1 {w : World} {a : Act} {o : Oper} (x : Operand) (ho : o.op = .buildSlice 28 1 #[(0, x)]) (c : Nat) (hx : a.eval x = .int .u8 (c : Nat)) : (execOp a.eval o).run Try.prog w = .ok (.value (whole w.heap.size 1)) (w.alloc (.cells (bcells [c]).toArray 5)) := by
  have hr : (Instr.buildSlice 28 1 #[(0, .int .u8 (c : Nat))]).run Try.prog w = .ok (.slice (some ⟨w.heap.size, 0, none⟩) 1 1) (w.alloc (.cells (bcells [c]).toArray 5)) := by kernel_rfl
  simp only [execOp, ho, List.map_toArray, List.map_cons, List.map_nil, hx, hr, Sem.run_bind, Sem.run_pure, Result.andThen_ok]
  rfl
theorem run_litB2 {w : World} {a : Act} {o : Oper} (x y : Operand) (ho : o.op = .buildSlice 28 2 #[(0, x), (1, y)]) (c d : Nat) (hx : a.eval x = .int .u8 (c : Nat)) (hy : a.eval y = .int .u8 (d : Nat)) : (execOp a.eval o).run Try.prog w = .ok (.value (whole w.heap.size 2)) (w.alloc (.cells (bcells [c, d]).toArray 5)) := by
  have hr : (Instr.buildSlice 28 2 #[(0, .int .u8 (c : Nat)), (1, .int .u8 (d : Nat))]).run Try.prog w = .ok (.slice (some ⟨w.heap.size, 0, none⟩) 2 2) (w.alloc (.cells (bcells [c, d]).toArray 5)) := by kernel_rfl
  simp only [execOp, ho, List.map_toArray, List.map_cons, List.map_nil, hx, hy, hr, Sem.run_bind, Sem.run_pure, Result.andThen_ok]
  rfl
theorem run_toU8 {w : World} {a : Act} {o : Oper} (x : Operand) (ho : o.op = .convert 3 5 x) (z : Int) (h0 : 0 ≤ z ∧ z ≤ 255) (hx : a.eval x = .int .i64 z) : (execOp a.eval o).run Try.prog w = .ok (.value (.int .u8 (z.toNat : Nat))) w := by
  have hr : (convert 3 5 (.int .i64 z)).run Try.prog w = .ok (.int .u8 (IntKind.u8.wrap z)) w := by kernel_rfl
  have e : IntKind.u8.wrap z = ((z.toNat : Nat) : Int) := by
    simp [IntKind.wrap, IntKind.signed, IntKind.bits]
    omega
  simp only [execOp, ho, hx, hr, e, Sem.run_bind, Sem.run_pure, Result.andThen_ok]
theorem run_toU64 {w : World} {a : Act} {o : Oper} (x : Operand) (ho : o.op = .convert 3 45 x) (z : Int) (h0 : 0 ≤ z ∧ z ≤ 1099511627776) (hx : a.eval x = .int .i64 z) : (execOp a.eval o).run Try.prog w = .ok (.value (.int .u64 (z.toNat : Nat))) w := by
  have hr : (convert 3 45 (.int .i64 z)).run Try.prog w = .ok (.int .u64 (IntKind.u64.wrap z)) w := by kernel_rfl
  have e : IntKind.u64.wrap z = ((z.toNat : Nat) : Int) := by
    simp [IntKind.wrap, IntKind.signed, IntKind.bits]
    omega
  simp only [execOp, ho, hx, hr, e, Sem.run_bind, Sem.run_pure, Result.andThen_ok]
theorem strCells_str (cs : List Nat) (hb : ∀ c ∈ cs, c < 256) : Lib.strCells (strOfNums (cs.map Int.ofNat)) = bcells cs := by
  unfold Lib.strCells strOfNums bcells
  simp
  intro c hc
  have := hb c hc
  omega
theorem run_appS {w : World} {a : Act} {o : Oper} (sv x : Operand) (ho : o.op = .call { callee := .builtin .append, args := #[sv, x], argTypes := #[28, 9] }) (base : Nat) (v : Value) (cs id : List Nat) (hb : ∀ c ∈ id, c < 256) (hs : a.eval sv = v) (hx : a.eval x = str id) (hown : BOwn w base v cs) (hsz : cs.length + id.length ≤ 1000) (hbase : base ≤ w.heap.size) :
    ∃ v' w', (execOp a.eval o).run Try.prog w = .ok (.value v') w' ∧ BOwn w' base v' (cs ++ id) ∧ w.grownBy w' v.ownBlock := by
  obtain ⟨i, hi, hz0, hz1, hz2⟩ := info_parts info5z
  have hl := str_size id
  obtain ⟨v', w', hr, h2, h3, _⟩ := Lib.run_append_own_string (P := Try.prog) w base 28 9 o.type 5 i Try.underlying28 Try.underlying9 hi hz0 hz1 hz2 v cs.length (bcells cs) hown (strOfNums (id.map Int.ofNat)) (by unfold maxLen; omega) (by omega) hbase
  refine ⟨v', w', ?_, ?_, h3⟩
  · simp only [execOp, ho, resolve, invoke, builtin, Sem.run_bind, Sem.run_pure, Result.andThen_ok, List.map_toArray, List.map_cons, List.map_nil, hs, hx, str, hr]
  · unfold BOwn
    rw [bcells_append, List.length_append]
    rw [strCells_str id hb, hl] at h2
    exact h2
theorem run_strBs {w : World} {a : Act} {o : Oper} (x : Operand) (ho : o.op = .convert 9 28 x) (id : List Nat) (hb : ∀ c ∈ id, c < 256) (hl : id.length ≤ 1000) (hx : a.eval x = str id) : ∃ v' w', (execOp a.eval o).run Try.prog w = .ok (.value v') w' ∧ SliceIn w' v' id ∧ Below w.heap.size w w' := by
  have hs := str_size id
  have hr := Lib.run_convert_string_bytes (P := Try.prog) w 9 28 5 (strOfNums (id.map Int.ofNat)) Try.underlying9 Try.underlying28 Try.underlying5
  refine ⟨_, _, by simp only [execOp, ho, hx, str, hr, Sem.run_bind, Sem.run_pure, Result.andThen_ok]; rfl, ?_, ?_⟩
  · refine ⟨some ⟨w.heap.size, 0, none⟩, _, by rw [hs], ⟨by rw [← hs]; exact grownCap_ge _ _ _ _, by omega⟩, Or.inr ⟨w.heap.size, 0, rfl, fun j hj => ?_, lt256 id hb⟩⟩
    rw [Nat.zero_add, Lib.bytesWorld_cell _ _ _ _ (by omega)]
    congr 2
    have h2 := hb id[j] (List.getElem_mem hj)
    simp [strOfNums, hj]
    omega
  · exact ⟨rfl, rfl, rfl, by rw [Lib.bytesWorld_size]; omega, fun k hk => Lib.bytesWorld_at_old w 5 _ k hk⟩
end Go.Proofs.Ytncjmolhofnpbaa
namespace Go.Proofs.Ytncjmolhofnpbaa.Fr
open Go.RowKit
/-- what has grown since -/
def Grew (w W : World) (v x : Value) : Prop := w.grownBy W v.ownBlock ∧ x.ownBlock ≠ none ∧ (x.ownBlock = v.ownBlock ∨ ∃ k, x.ownBlock = some k ∧ w.heap.size ≤ k)
set_option maxHeartbeats 400000 in
theorem put_grow (v : Value) (cs : List Nat) (n size base : Nat) (w : World) (h : BOwn w base v cs) (hbase : base ≤ w.heap.size) (hs : size ≤ 8) (hsz : cs.length + size ≤ 140737488355328) (hsome : v.ownBlock ≠ none) :
    Calls Try.prog 24 #[v, .int .i64 (n : Nat), .int .i64 (size : Nat)] w fun e w' => ∃ v', e = .returned v' ∧ BOwn w' base v' (cs ++ Frame.be size n) ∧ w.grownBy w' v.ownBlock := by
  have HO : Hid (BOwn w base v cs) := h
  have HB : Hid (base ≤ w.heap.size) := hbase
  have HG0 : Hid (Grew w w v v) := ⟨World.grownBy.refl w _, hsome, Or.inl rfl⟩
  clear h hbase hsome
  go_enter Try.func24, Try.ntmps24
  go_wp2
  go_loopw [0, 7] (fun x i W => ∃ s : Nat, ∃ done : List Nat, s ≤ size ∧ i = .int .i64 ((s : Int) - 1) ∧ BOwn W base x (cs ++ done) ∧ done ++ Frame.be s n = Frame.be size n ∧ Grew w W v x) (fun _ i _ => (intOf i + 1).toNat)
  case atStart => exact ⟨size, [], Nat.le_refl _, rfl, by rw [List.append_nil]; exact HO.out, rfl, HG0.out⟩
  case round =>
    obtain ⟨s, done, hss, rfl, hx, hd, hbl⟩ := hrel
    have HX : Hid (BOwn wr base u0 (cs ++ done)) := hx
    have HD : Hid (done ++ Frame.be s n = Frame.be size n) := hd
    have HBL : Hid (Grew w wr v u0) := hbl
    clear hx hd hbl
    by_cases h0 : s = 0
    · subst h0
      have HE : Hid (cs ++ done = cs ++ Frame.be size n) := by
        have := HD.out
        rw [Frame.be, List.append_nil] at this
        show _ = _
        rw [this]
      go_wp2
      go_ret
      exact ⟨u0, rfl, by rw [← HE.out]; exact HX.out, HBL.out.1⟩
    · obtain ⟨t, rfl⟩ : ∃ t, s = t + 1 := ⟨s - 1, by omega⟩
      have HL : Hid (done.length + 1 ≤ size) := by
        have := congrArg List.length HD.out
        rw [List.length_append, Frame.be_length, Frame.be_length] at this
        show _ ≤ _
        omega
      rw [show ((t + 1 : Nat) : Int) - 1 = (t : Int) by omega]
      go_wp2_with (first
        | (refine wpList_lit1 (.tmp 19) rfl rfl (n / 256 ^ t % 256) (Nat.mod_lt _ (by decide)) _ rfl (byte_at n t) ?_; intro v1 w1 s1 b1; have B1 : Hid (Below wr.heap.size wr w1) := b1; clear b1)
        | (refine wpList_append_apart (.tmp 14) (.tmp 20) rfl rfl base u0 v1 (cs ++ done) [n / 256 ^ t % 256] rfl (HX.out.later B1.out (Nat.le_refl _)) HBL.out.2.1 rfl s1 (by have := HL.out; rw [List.length_append]; simp; omega) (Nat.le_trans HB.out (Nat.le_trans HBL.out.1.size B1.out.size)) ?_; intro v2 w2 o2 g2 e2; have O2 : Hid (BOwn w2 base v2 (cs ++ (done ++ [n / 256 ^ t % 256]))) := (by rw [← List.append_assoc]; exact o2); have B2 : Hid (Grew w w2 v v2) := (by
            have hg := HBL.out
            have h1 : w.grownBy w1 v.ownBlock := grown_last hg.1 (grown_below (r := v.ownBlock) B1.out) (Or.inl rfl)
            have h2 : w.grownBy w2 v.ownBlock := grown_last h1 g2 hg.2.2
            refine ⟨h2, ?_, ?_⟩
            · rcases e2 with e2 | e2
              · rw [e2]; exact hg.2.1
              · rw [e2]; exact fun e => by cases e
            · rcases e2 with e2 | e2
              · rw [e2]; exact hg.2.2
              · exact Or.inr ⟨_, e2, h1.size⟩); clear o2 g2 e2))
      refine ⟨⟨t, done ++ [n / 256 ^ t % 256], by omega, by go_num, O2.out, append_snoc_be done t n size HD.out, B2.out⟩, ?_⟩
      simp [intOf]
end Go.Proofs.Ytncjmolhofnpbaa.Fr
namespace Go.Proofs.Ytncjmolhofnpbaa

end Go.Proofs.Ytncjmolhofnpbaa

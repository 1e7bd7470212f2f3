/- Rows of bytes: what a slice of slices of bytes holds, and the leaves of it. -/
import Derived.Test.YtjdmpanemdhbbaaDoorVars
namespace Go.Proofs.YtjdmpanemdhbbaaDoor
open Go.RowKit

/-- a slice of slices of bytes that holds these -/
def ListIn (w : World) (v : Value) (L : List (List Nat)) : Prop :=
  ∃ p cap, v = .slice p L.length cap ∧ L.length ≤ 9223372036854775807 ∧ (L = [] ∨ ∃ b off, p = some ⟨b, off, none⟩ ∧ ∀ i, i < L.length → ∃ vi, w.cell? ⟨b, off + i, none⟩ = some vi ∧ SliceIn w vi (L.getD i []))
theorem ListIn.max {w : World} {v : Value} {L : List (List Nat)} (h : ListIn w v L) : L.length ≤ 9223372036854775807 := by
  obtain ⟨p, cap, rfl, hl, _⟩ := h
  exact hl
theorem ListIn.later {w wx : World} {v : Value} {L : List (List Nat)} (hb : Below w.heap.size w wx) (h : ListIn w v L) : ListIn wx v L := by
  obtain ⟨p, cap, rfl, hl, h⟩ := h
  refine ⟨p, cap, rfl, hl, ?_⟩
  rcases h with h | ⟨b, off, rfl, h⟩
  · exact Or.inl h
  · refine Or.inr ⟨b, off, rfl, fun i hi => ?_⟩
    obtain ⟨vi, h1, h2⟩ := h i hi
    exact ⟨vi, cell_later hb h1, h2.later hb⟩
theorem one57 : OneT 57 := fun w g o v h => by simp [loadVar, isAgg, run_underlying Tryd.underlying57, h]
theorem size57 : (Tryd.prog.info? 57).map (·.size) = some 1 := by kernel_rfl
theorem elem32 : Tryd.prog.elem 32 = 57 := by kernel_rfl
theorem under32 : Tryd.prog.underlying 32 = some (.slice (Tryd.prog.elem 32)) := by rw [elem32]; exact Tryd.underlying32
section
variable {w w0 : World} {ops : Array Oper} {rest : List Oper} {o : Oper} {a : Act} {Q : Exit → Act → World → Prop}
theorem wl_rlen (x : Operand) (hgd : Region.wanted o (yielded ops a.tmps) = true) (ho : o.op = .call { callee := .builtin .len, args := #[x], argTypes := #[32] }) (v : Value) (L : List (List Nat)) (hx : a.eval x = v) (hin : ListIn w0 v L) (N : Nat) (hN : L.length = N)
    (h : wpList Tryd.prog ops Q rest (a.put o.dst (.int .i64 (N : Nat))) w) : wpList Tryd.prog ops Q (o :: rest) a w := by
  subst hN
  obtain ⟨p, cap, rfl, hl, _⟩ := hin
  have hr : (Builtin.len_ #[32] o.type #[.slice p L.length cap]).run Tryd.prog w = .ok (goInt L.length) w := run_len_slice w _ _ _ _ _ under32
  refine wl hgd _ w ?_ h
  simp only [execOp, ho, resolve, invoke, builtin, Sem.run_bind, Sem.run_pure, Result.andThen_ok, List.map_toArray, List.map_cons, List.map_nil, hx, hr]
  rfl
theorem wl_rindex (x i : Operand) (hgd : Region.wanted o (yielded ops a.tmps) = true) (ho : o.op = .indexAddr 32 x i) (v : Value) (L : List (List Nat)) (hx : a.eval x = v) (hin : ListIn w v L) (k : Nat) (hi : a.eval i = .int .i64 (k : Nat)) (hk : k < L.length)
    (h : ∀ b j vi, w.cell? ⟨b, j, none⟩ = some vi → SliceIn w vi (L.getD k []) → wpList Tryd.prog ops Q rest (a.put o.dst (.pointer (some ⟨b, j, none⟩))) w) : wpList Tryd.prog ops Q (o :: rest) a w := by
  obtain ⟨p, cap, rfl, hl, hin⟩ := hin
  rcases hin with rfl | ⟨b, off, rfl, hc⟩
  · simp at hk
  obtain ⟨i5, hi5, hsz⟩ := Option.map_eq_some_iff.1 size57
  obtain ⟨vi, h1, h2⟩ := hc k hk
  have hr : (Instr.indexAt 32 (.slice (some ⟨b, off, none⟩) L.length cap) (.int .i64 (k : Nat))).run Tryd.prog w = .ok (.pointer (some ⟨b, off + k, none⟩)) w := by
    simp [Instr.indexAt, asIntOf, run_underlying Tryd.underlying32, hk, sizeOf, typeInfo, hi5, hsz, add_none]
  refine wl hgd _ w ?_ (h b (off + k) vi h1 h2)
  simp only [execOp, ho, hx, hi, hr, Sem.run_bind, Sem.run_pure, Result.andThen_ok]
theorem wl_load1' {t : Nat} (ht : OneT t) (x : Operand) (hgd : Region.wanted o (yielded ops a.tmps) = true) (ho : o.op = .load t x) (g i : Nat) (hx : a.eval x = .pointer (some ⟨g, i, none⟩)) (v : Value) (hc : w.cell? ⟨g, i, none⟩ = some v)
    (h : wpList Tryd.prog ops Q rest (a.put o.dst v) w) : wpList Tryd.prog ops Q (o :: rest) a w := wl hgd _ _ (rx_load1 ht x ho g i hx v hc) h
end
/-- the leaves of the first k -/
def lvs (L : List (List Nat)) (k : Nat) : List (List Nat) := (L.take k).map Tree.leaf
theorem lvs_length (L : List (List Nat)) (k : Nat) (h : k ≤ L.length) : (lvs L k).length = k := by simp [lvs]; omega
theorem lvs_succ (L : List (List Nat)) (k : Nat) (h : k < L.length) : lvs L (k + 1) = lvs L k ++ [Tree.leaf (L.getD k [])] := by
  unfold lvs
  rw [List.take_succ_eq_append_getElem h, List.map_append]
  simp [h]
theorem lvs_all (L : List (List Nat)) : lvs L L.length = L.map Tree.leaf := by simp [lvs]
def LvsIn (w W : World) (x : Value) (L : List (List Nat)) (k : Nat) : Prop := HOwn W w.heap.size x (lvs L k) ∧ Below w.heap.size w W

set_option maxHeartbeats 2000000 in
set_option maxRecDepth 100000 in
theorem leaves_any (v : Value) (L : List (List Nat)) (w : World) (h : ListIn w v L) (hsz : L.length * 32 ≤ 140737488355328) (hL : ∀ c ∈ L, c.length + 1024 ≤ 140737488355328) :
    Calls Tryd.prog 15 #[v] w fun e w' => ∃ v', e = .returned v' ∧ HOwn w' w.heap.size v' (L.map Tree.leaf) ∧ Below w.heap.size w w' := by
  obtain ⟨N, hN⟩ : ∃ N, L.length = N := ⟨_, rfl⟩
  have HN : Hid (L.length = N) := hN
  have hNm : N * 32 ≤ 140737488355328 := by omega
  have HL : Hid (∀ k, k < N → (L.getD k []).length + 1024 ≤ 140737488355328) := fun k hk => by
    have : k < L.length := by omega
    rw [List.getD_eq_getElem?_getD, List.getElem?_eq_getElem this]
    exact hL _ (List.getElem_mem this)
  clear hN hsz hL
  go_enter Tryd.func15, Tryd.ntmps15
  go_wp2_with (refine wl_lit0 rfl rfl w.heap.size (Nat.le_refl _) ?_; intro v1 w1 o1 b1; have R1 : Hid (LvsIn w w1 v1 L 0) := ⟨o1, b1⟩; clear o1 b1)
  go_loopw [3, 4] (fun x i W => ∃ k : Nat, k ≤ N ∧ i = .int .i64 (k : Nat) ∧ LvsIn w W x L k) (fun _ i _ => N - (intOf i).toNat)
  case atStart => exact ⟨0, Nat.zero_le _, rfl, R1.out⟩
  case round =>
    clear R1
    obtain ⟨k, hk, rfl, hlv⟩ := hrel
    have HV : Hid (LvsIn w wr u3 L k) := hlv
    clear hlv
    by_cases hlt : k < N
    · have hlt' : (k : Int) < (N : Int) := by omega
      have HC : Hid ((L.getD k []).length + 1024 ≤ 140737488355328) := HL.out k hlt
      have HE : Hid (lvs L (k + 1) = lvs L k ++ [Tree.leaf (L.getD k [])]) := lvs_succ L k (by have := HN.out; omega)
      have HK : Hid (k < L.length) := by have := HN.out; show _ < _; omega
      have HVL : Hid ((lvs L k).length = k) := lvs_length L k (by have := HN.out; omega)
      generalize hc : L.getD k [] = c at HC HE
      have HCE : Hid (L.getD k [] = c) := hc
      clear hc
      go_wp2_with (first
        | (refine wl_rlen (.tmp 7) rfl rfl v L rfl h N HN.out ?_)
        | (refine wl_rindex (.tmp 13) (.tmp 14) rfl rfl v L rfl (h.later HV.out.2) k rfl HK.out ?_; intro b j vi hc hs; rw [HCE.out] at hs; have S1 : Hid (wr.cell? ⟨b, j, none⟩ = some vi ∧ SliceIn wr vi c) := ⟨hc, hs⟩; clear hc hs)
        | (refine wl_load1' one57 (.tmp 15) rfl rfl b j rfl vi S1.out.1 ?_)
        | (go_at_call 29; refine (refLeaf_any vi c wr S1.out.2 HC.out).mono ?_; rintro e w3 ⟨rfl, b3⟩; have R3 : Hid (Below wr.heap.size wr w3) := b3; clear b3)
        | (refine wl_lit1 (.tmp 17) rfl rfl (Tree.leaf c) (leaf_isH _) rfl ?_; intro v4 w4 s4 b4; have R4 : Hid (HIn w4 v4 [Tree.leaf c] ∧ Below wr.heap.size wr w4) := ⟨s4, below_append R3.out b4⟩; clear s4 b4)
        | (refine wl_append (.tmp 12) (.tmp 18) rfl rfl w.heap.size u3 v4 (lvs L k) [Tree.leaf c] rfl (HV.out.1.later R4.out.2 (Nat.le_refl _)) rfl R4.out.1 (by rw [HVL.out]; simp; omega) (Nat.le_trans HV.out.2.size R4.out.2.size) ?_; intro v5 w5 o5 b5; have R5 : Hid (LvsIn w w5 v5 L (k + 1)) := ⟨by rw [HE.out]; exact o5, (below_append HV.out.2 R4.out.2).trans b5⟩; clear o5 b5))
      exact ⟨⟨k + 1, by omega, by go_num, R5.out⟩, by simp [intOf]; omega⟩
    · have hlt' : ¬ (k : Int) < (N : Int) := by omega
      have HE : Hid (k = L.length) := by have := HN.out; show _ = _; omega
      go_wp2_with (first
        | (refine wl_rlen (.tmp 7) rfl rfl v L rfl h N HN.out ?_))
      go_ret
      exact ⟨u3, rfl, by rw [← lvs_all, ← HE.out]; exact HV.out.1, HV.out.2⟩
end Go.Proofs.YtjdmpanemdhbbaaDoor

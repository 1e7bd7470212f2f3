/- chunk's Split: the chunks in blocks of their own, side by side. -/
import Derived.Test.YtfnncccioipjcaaDoorCBase
import Derived.Test.YtfnncccioipjcaaDoorRows6
namespace Go.Proofs.YtfnncccioipjcaaDoor
open Go.RowKit

theorem splice_one {α : Type} (cur : List α) (k : Nat) (v : α) (h : k < cur.length) : splice cur k [v] = cur.set k v := by
  rw [List.set_eq_take_append_cons_drop, if_pos h]
  unfold splice
  simp
section
variable {w w0 : World} {ops : Array Oper} {rest : List Oper} {o : Oper} {a : Act} {Q : Exit → Act → World → Prop}
theorem run_wlen (g n : Nat) (ty : TypeId) (w : World) : (Builtin.len_ #[22] ty #[whole g n]).run Tryd.prog w = .ok (goInt n) w := run_len_slice w _ _ _ _ _ under22'
theorem wl_wlen (x : Operand) (hgd : Region.wanted o (yielded ops a.tmps) = true) (ho : o.op = .call { callee := .builtin .len, args := #[x], argTypes := #[22] }) (g n : Nat) (hx : a.eval x = whole g n)
    (h : wpList Tryd.prog ops Q rest (a.put o.dst (.int .i64 (n : Nat))) w) : wpList Tryd.prog ops Q (o :: rest) a w := by
  have hr := run_wlen g n o.type w
  refine wl hgd _ w ?_ h
  simp only [execOp, ho, resolve, invoke, builtin, Sem.run_bind, Sem.run_pure, Result.andThen_ok, List.map_toArray, List.map_cons, List.map_nil, hx, hr]
  rfl
theorem run_wslot (g n k : Nat) (hk : k < n) (w : World) : (Instr.indexAt 22 (whole g n) (.int .i64 (k : Nat))).run Tryd.prog w = .ok (.pointer (some ⟨g, k, none⟩)) w := by
  obtain ⟨i5, hi5, hsz⟩ := Option.map_eq_some_iff.1 size39
  simp [whole, Instr.indexAt, asIntOf, run_underlying Tryd.underlying22, hk, sizeOf, typeInfo, hi5, hsz, add_none]
theorem wl_wslot (x i : Operand) (hgd : Region.wanted o (yielded ops a.tmps) = true) (ho : o.op = .indexAddr 22 x i) (g n k : Nat) (hx : a.eval x = whole g n) (I : Int) (hi : a.eval i = .int .i64 I) (hI : I = (k : Int)) (hk : k < n)
    (h : wpList Tryd.prog ops Q rest (a.put o.dst (.pointer (some ⟨g, k, none⟩))) w) : wpList Tryd.prog ops Q (o :: rest) a w := by
  subst hI
  refine wl hgd _ w ?_ h
  simp only [execOp, ho, hx, hi, run_wslot g n k hk w, Sem.run_bind, Sem.run_pure, Result.andThen_ok]
theorem wl_put1 {t : Nat} (hs : OneS t) (x y : Operand) (hgd : Region.wanted o (yielded ops a.tmps) = true) (hdst : o.dst = none) (ho : o.op = .store t x y) (g k T : Nat) (cur : List Value) (v : Value) (hx : a.eval x = .pointer (some ⟨g, k, none⟩)) (hy : a.eval y = v) (hv : OneV v) (hr : Row w g T cur) (hk : k < cur.length)
    (h : ∀ w', Row w' g T (cur.set k v) → Only g w w' → w'.heap.size = w.heap.size → wpList Tryd.prog ops Q rest a w') : wpList Tryd.prog ops Q (o :: rest) a w := by
  have hst := rx_store1 hs x y ho g k T cur hx v hy hv hr hk
  rw [splice_one _ _ _ hk] at hst
  exact wlSkip hgd hdst _ hst (h _ (hr.setRow _) ((Only.refl g w).setRow _) (by simp [World.setRow]))
end
/-- the headers of the first k chunks, and none for the others -/
def hdrs (B : Nat) (b : List Nat) (n k : Nat) : List Value := (List.range k).map (fun i => whole (B + 1 + i) (Cut.piece b i).length) ++ List.replicate (n - k) (.slice none 0 0)
theorem hdrs_length (B : Nat) (b : List Nat) (n k : Nat) (h : k ≤ n) : (hdrs B b n k).length = n := by simp [hdrs]; omega
theorem hdrs_next (B : Nat) (b : List Nat) (n k : Nat) (h : k < n) : (hdrs B b n k).set k (whole (B + 1 + k) (Cut.piece b k).length) = hdrs B b n (k + 1) := by
  unfold hdrs
  rw [List.set_append_right _ _ (by simp), List.length_map, List.length_range, Nat.sub_self, List.range_succ, List.map_append, show n - k = (n - (k + 1)) + 1 by omega, List.replicate_succ, List.set_cons_zero, List.append_assoc]
  rfl
theorem hdrs_at (B : Nat) (b : List Nat) (n i : Nat) (h : i < n) : (hdrs B b n n)[i]? = some (whole (B + 1 + i) (Cut.piece b i).length) := by
  simp [hdrs, h]
/-- the first k chunks of b, each in a block of its own behind block B, which holds their headers -/
def SpTo (w W : World) (B : Nat) (b : List Nat) (n k : Nat) : Prop :=
  Row W B 39 (hdrs B b n k) ∧ (∀ i, i < k → Row W (B + 1 + i) 5 (bcells (Cut.piece b i))) ∧ W.heap.size = B + 1 + k ∧ Below B w W
/-- all of them -/
def SpIn (W : World) (B : Nat) (b : List Nat) : Prop :=
  Row W B 39 (hdrs B b (Cut.count b.length) (Cut.count b.length)) ∧ ∀ i, i < Cut.count b.length → Row W (B + 1 + i) 5 (bcells (Cut.piece b i))
theorem SpIn.later {w W : World} {B : Nat} {b : List Nat} (h : SpIn w B b) (hb : Below w.heap.size w W) : SpIn W B b :=
  ⟨h.1.later hb h.1.lt, fun i hi => (h.2 i hi).later hb (h.2 i hi).lt⟩
theorem SpIn.cell {w : World} {B : Nat} {b : List Nat} (h : SpIn w B b) (i : Nat) (hi : i < Cut.count b.length) : w.cell? ⟨B, i, none⟩ = some (whole (B + 1 + i) (Cut.piece b i).length) := h.1.at i _ (hdrs_at B b _ i hi)
theorem SpIn.slice {w : World} {B : Nat} {b : List Nat} (h : SpIn w B b) (hb : ∀ c ∈ b, c < 256) (i : Nat) (hi : i < Cut.count b.length) : SliceIn w (whole (B + 1 + i) (Cut.piece b i).length) (Cut.piece b i) :=
  whole_slice (h.2 i hi) (fun c hc => hb c (Cut.piece_mem b i c hc)) (by have := Cut.piece_le b i; omega)
theorem SpIn.list {w : World} {B : Nat} {b : List Nat} (h : SpIn w B b) (hb : ∀ c ∈ b, c < 256) (hm : b.length ≤ 9223372036854775807) : ListIn w (whole B (Cut.count b.length)) (Cut.cut b) := by
  have hcl := Cut.cut_length b
  have hcm := Cut.count_le b.length
  refine ⟨some ⟨B, 0, none⟩, Cut.count b.length, by rw [hcl]; rfl, by omega, Or.inr ⟨B, 0, rfl, fun i hi => ?_⟩⟩
  rw [hcl] at hi
  rw [Nat.zero_add, Cut.cut_getD b i hi]
  exact ⟨_, h.cell i hi, h.slice hb i hi⟩

set_option maxHeartbeats 2000000 in
set_option maxRecDepth 100000 in
theorem split_at (v : Value) (cs : List Nat) (w : World) (h : SliceIn w v cs) (hlen : cs.length ≤ 140737488355328) :
    Calls Tryd.prog 19 #[v] w fun e w' => e = .returned (whole w.heap.size (Cut.count cs.length)) ∧ SpIn w' w.heap.size cs ∧ w'.heap.size = w.heap.size + 1 + Cut.count cs.length ∧ Below w.heap.size w w' := by
  obtain ⟨N, hN⟩ : ∃ N, cs.length = N := ⟨_, rfl⟩
  have HN : Hid (cs.length = N) := hN
  obtain ⟨n, hn⟩ : ∃ n, Cut.count cs.length = n := ⟨_, rfl⟩
  have Hn : Hid (Cut.count cs.length = n) := hn
  have HC : Hid (Calls Tryd.prog 37 #[.int .i64 (N : Nat)] w fun e w' => e = .returned (.int .i64 (n : Nat)) ∧ w = w') := by
    have := count_any (N : Nat) (by omega) (by omega) w
    rw [Int.toNat_natCast, ← hN, hn] at this
    rw [← hN]
    exact this
  have hcm : n * 64 < 140737488355328 + 64 := by rw [← hn]; unfold Cut.count; omega
  obtain ⟨B, hB⟩ : ∃ B, B = w.heap.size := ⟨_, rfl⟩
  have HB : Hid (B = w.heap.size) := hB
  have HLT : Hid (∀ W, Below B w W → SliceIn W v cs) := fun W hb => h.later (hB ▸ hb)
  unfold SpIn
  rw [hn]
  clear hN hn hlen
  go_enter Tryd.func19, Tryd.ntmps19
  go_wp2_with (first
    | (refine wl_blenN (.tmp 5) rfl rfl v cs rfl h N HN.out ?_)
    | (go_at_call 37; refine HC.out.mono ?_; rintro e w' ⟨rfl, rfl⟩)
    | (refine wl_make (.tmp 7) (.tmp 7) 22 39 (.slice none 0 0) 1 24 rfl rfl Tryd.underlying22 info39 n rfl rfl (by omega) (by omega) ?_; rw [← hB]; intro w1 r1 s1 b1; rw [made39] at r1; have R1 : Hid (SpTo w w1 B cs n 0) := ⟨r1, fun i hi => absurd hi (Nat.not_lt_zero _), s1, b1⟩; clear r1 s1 b1 hB)
    | (refine wl_wlen (.tmp 9) rfl rfl B n rfl ?_))
  go_loopw [4, 11] (fun _ i W => ∃ k : Nat, k ≤ n ∧ i = .int .i64 (k : Nat) ∧ SpTo w W B cs n k) (fun _ i _ => n - (intOf i).toNat)
  case atStart => exact ⟨0, Nat.zero_le _, rfl, R1.out⟩
  case round =>
    clear R1
    obtain ⟨k, hk, rfl, hlv⟩ := hrel
    have HV : Hid (SpTo w wr B cs n k) := hlv
    clear hlv
    by_cases hlt : k < n
    · have hlt' : (k : Int) < (n : Int) := by omega
      have HP : Hid (k < Cut.count cs.length) := by rw [Hn.out]; exact hlt
      have HX : Hid (1 ≤ (Cut.piece cs k).length ∧ (Cut.piece cs k).length ≤ 64) := ⟨Cut.piece_pos cs k HP.out, Cut.piece_le cs k⟩
      have HS : Hid (wr.heap.size = B + 1 + k) := HV.out.2.2.1
      have HE : Hid ((hdrs B cs n k).set k (whole (B + 1 + k) (Cut.piece cs k).length) = hdrs B cs n (k + 1)) := hdrs_next B cs n k hlt
      have HR : Hid (∀ W, (∀ i, i < k → Row W (B + 1 + i) 5 (bcells (Cut.piece cs i))) → Row W (B + 1 + k) 5 (bcells (Cut.piece cs k)) → ∀ i, i < k + 1 → Row W (B + 1 + i) 5 (bcells (Cut.piece cs i))) := fun W h1 h2 i hi => by
        rcases Nat.lt_or_ge i k with h | h
        · exact h1 i h
        · obtain rfl : i = k := by omega
          exact h2
      generalize hc : Cut.piece cs k = c at HX HE HR
      have HCE : Hid (Cut.piece cs k = c) := hc
      clear hc
      obtain ⟨m, hm⟩ : ∃ m, c.length = m := ⟨_, rfl⟩
      have HM : Hid (c.length = m) := hm
      rw [hm] at HE
      clear hm
      go_wp2_with (first
        | (go_at_call 39; refine (piece_any' v cs wr (HLT.out wr HV.out.2.2.2) k HP.out).mono ?_; rintro e w' ⟨⟨v2, rfl, s2⟩, rfl⟩; rw [HCE.out] at s2; have S2 : Hid (SliceIn wr v2 c) := s2; clear s2)
        | (go_at_call 38; refine (told_any v2 c wr S2.out HX.out.1 HX.out.2).mono ?_; rw [HS.out, HM.out]; rintro e w3 ⟨rfl, r3, s3, b3⟩; have R3 : Hid (Row w3 B 39 (hdrs B cs n k) ∧ (∀ i, i < k → Row w3 (B + 1 + i) 5 (bcells (Cut.piece cs i))) ∧ Row w3 (B + 1 + k) 5 (bcells c) ∧ w3.heap.size = B + 1 + (k + 1) ∧ Below B w w3) := ⟨HV.out.1.later b3 (by omega), fun i hi => (HV.out.2.1 i hi).later b3 (by omega), r3, s3, HV.out.2.2.2.trans (b3.mono (by omega))⟩; clear r3 s3 b3)
        | (refine wl_wslot (.tmp 14) (.tmp 15) rfl rfl B n k rfl _ rfl rfl hlt ?_)
        | (refine wl_put1 sizeS39 (.tmp 20) (.tmp 19) rfl rfl rfl B k 39 (hdrs B cs n k) (whole (B + 1 + k) m) rfl rfl (whole_one _ _) R3.out.1 (by rw [hdrs_length B cs n k (by omega)]; exact hlt) ?_; intro w4 r4 o4 s4; rw [HE.out] at r4; have R4 : Hid (SpTo w w4 B cs n (k + 1)) := ⟨r4, HR.out w4 (fun i hi => o4.row (by omega) (R3.out.2.1 i hi)) (o4.row (by omega) R3.out.2.2.1), by rw [s4]; exact R3.out.2.2.2.1, R3.out.2.2.2.2.trans (o4.below (Nat.le_refl _) (by have := R3.out.2.2.2.1; omega))⟩; clear r4 o4 s4))
      exact ⟨⟨k + 1, by omega, by go_num, R4.out⟩, by simp [intOf]; omega⟩
    · have hlt' : ¬ (k : Int) < (n : Int) := by omega
      have HE : Hid (k = n) := by show _ = _; omega
      go_wp2_with fail
      go_ret
      refine ⟨by rw [HB.out]; rfl, ?_⟩
      rw [← HB.out]
      have hv := HV.out
      rw [HE.out] at hv
      exact ⟨⟨hv.1, hv.2.1⟩, hv.2.2⟩
end Go.Proofs.YtfnncccioipjcaaDoor

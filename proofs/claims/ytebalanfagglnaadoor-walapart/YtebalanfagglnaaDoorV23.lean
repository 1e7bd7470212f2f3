/- Layer 8: parts opened. Layer 8: a transaction as bytes; sectors of nothing. Layer 8: rows of sectors. Layer 8: the sectors of a row. -/
import Derived.Test.YtebalanfagglnaaDoorV22
namespace Go.Proofs.YtebalanfagglnaaDoor
open Go.RowKit Go.Maps

theorem zero126 : (Tryd.prog.info? 104).map (·.zero) = some (some (.agg (partCells 0 0 0 (.slice none 0 0)).toArray)) := by kernel_rfl
theorem en69 : EntersF 55 := Go.Proofs.enters_of Tryd.func55 (by kernel_rfl) rfl
theorem run_build126 (w : World) : (Instr.build 104 #[]).run Tryd.prog w = .ok (.agg (partCells 0 0 0 (.slice none 0 0)).toArray) w := by kernel_rfl
theorem run_build126Op {w : World} {a : Act} {o : Oper} (ho : o.op = .build 104 #[]) : (execOp a.eval o).run Tryd.prog w = .ok (.value (.agg (partCells 0 0 0 (.slice none 0 0)).toArray)) w := by
  simp [execOp, ho, run_build126]
theorem run_build126x (w : World) (s i n : Nat) (p : Option Addr) (l c : Nat) : (Instr.build 104 #[(0, .int .u64 (s : Nat)), (1, .int .i64 (i : Nat)), (2, .int .i64 (n : Nat)), (3, .slice p l c)]).run Tryd.prog w = .ok (.agg (partCells s i n (.slice p l c)).toArray) w := by kernel_rfl
theorem run_build126xOp {w : World} {a : Act} {o : Oper} (x0 x1 x2 x3 : Operand) (ho : o.op = .build 104 #[(0, x0), (1, x1), (2, x2), (3, x3)]) (s i n : Nat) (pv : Value) (hp : ∃ p l c, pv = .slice p l c) (h0 : a.eval x0 = .int .u64 (s : Nat)) (h1 : a.eval x1 = .int .i64 (i : Nat)) (h2 : a.eval x2 = .int .i64 (n : Nat)) (h3 : a.eval x3 = pv) : (execOp a.eval o).run Tryd.prog w = .ok (.value (.agg (partCells s i n pv).toArray)) w := by
  obtain ⟨p, l, c, rfl⟩ := hp
  simp only [execOp, ho, List.map_toArray, List.map_cons, List.map_nil, h0, h1, h2, h3, run_build126x, Sem.run_bind, Sem.run_pure, Result.andThen_ok]
theorem run_conv993 (w : World) (n : Nat) (h : n < 9223372036854775808) : (convert 61 3 (.int .u64 (n : Int))).run Tryd.prog w = .ok (.int .i64 (n : Int)) w := by
  have e : IntKind.i64.wrap (n : Int) = (n : Int) := by
    simp [IntKind.wrap, IntKind.signed, IntKind.bits]
    omega
  simp [convert, go_sem, run_underlying Tryd.underlying3, run_underlying Tryd.underlying61, e]
theorem wl_cv993 {w : World} {ops : Array Oper} {rest : List Oper} {o : Oper} {a : Act} {Q : Exit → Act → World → Prop} (x : Operand) (hgd : Region.wanted o (yielded ops a.tmps) = true) (ho : o.op = .convert 61 3 x) (n : Nat) (hn : n < 9223372036854775808) (hx : a.eval x = .int .u64 (n : Nat)) (h : wpList Tryd.prog ops Q rest (a.put o.dst (.int .i64 (n : Nat))) w) : wpList Tryd.prog ops Q (o :: rest) a w := wl hgd _ w (by simp [execOp, ho, hx, run_conv993 w n hn]) h
def pS (b : List Nat) : Nat := Fr.Frame.val ((Fr.Frame.payOf b).take 8)
def pI (b : List Nat) : Nat := Fr.Frame.val (((Fr.Frame.payOf b).drop 8).take 1)
def pL (b : List Nat) : Nat := Fr.Frame.val ((((Fr.Frame.payOf b).drop 8).drop 1).take 2)
def pP (b : List Nat) : List Nat := (((Fr.Frame.payOf b).drop 8).drop 1).drop 2
def partOk (b : List Nat) : Bool := payB 84 b && decide (pI b < secsOf (pL b))
theorem partCells_one (s i n : Nat) (pv : Value) (hp : ∃ p l c, pv = .slice p l c) : ∀ v ∈ partCells s i n pv, v.oneCell' = true := by
  obtain ⟨p, l, c, rfl⟩ := hp
  intro v hv
  simp only [partCells, List.mem_cons, List.not_mem_nil, or_false] at hv
  rcases hv with rfl | rfl | rfl | rfl <;> rfl
theorem SliceIn.isSl {w : World} {v : Value} {cs : List Nat} (h : SliceIn w v cs) : ∃ p l c, v = .slice p l c := by
  obtain ⟨p, cap, rfl, _⟩ := h
  exact ⟨_, _, _, rfl⟩
end Go.Proofs.YtebalanfagglnaaDoor

namespace Go.Proofs.YtebalanfagglnaaDoor.Fr
open Go.RowKit
set_option maxHeartbeats 400000 in
theorem told98 (v : Value) (cs : List Nat) (w : World) (h : SliceIn w v cs) (hsz : cs.length ≤ 281474976710656) :
    Calls Tryd.prog 82 #[v] w fun e w' => ∃ v', e = .returned v' ∧ BOwn w' w.heap.size v' cs ∧ Below w.heap.size w w' := by
  go_enter Tryd.func82, Tryd.ntmps82
  go_wp2_with (first
    | (refine wpList_len (.tmp 4) rfl rfl v cs rfl h ?_)
    | (refine wpList_makeN (.tmp 5) (.tmp 5) rfl rfl w.heap.size cs.length _ _ rfl rfl rfl rfl hsz (Nat.le_refl _) ?_; intro v1 w1 o1 b1; have O1 : Hid (BOwn w1 w.heap.size v1 (List.replicate cs.length 0)) := o1; have B1 : Hid (Below w.heap.size w w1) := b1; clear o1 b1)
    | (refine wpList_copyFull (.tmp 7) (.tmp 8) rfl rfl w.heap.size v1 v (List.replicate cs.length 0) cs rfl O1.out rfl (h.later B1.out) (by simp) ?_; intro w2 r o2 g2; have O2 : Hid (BOwn w2 w.heap.size v1 cs) := o2; have B2 : Hid (Below w.heap.size w w2) := B1.out.trans (O1.out.below g2 B1.out.size); clear o2 g2))
  go_ret
  exact ⟨_, rfl, O2.out, B2.out⟩


end Go.Proofs.YtebalanfagglnaaDoor.Fr
namespace Go.Proofs.YtebalanfagglnaaDoor
open Go.RowKit Go.Maps

/-- a transaction as bytes -/
def bodyOf (L : List (List Nat)) : List Nat := L.flatMap fun r => Fr.Frame.be 2 r.length ++ r
theorem bodyOf_length (L : List (List Nat)) : (bodyOf L).length = txSize L := by
  unfold txSize
  induction L with
  | nil => rfl
  | cons r L ih =>
    unfold bodyOf bytesOf at *
    simp only [List.flatMap_cons, List.length_append, Fr.Frame.be_length, List.map_cons, List.sum_cons, List.length_cons]
    omega
theorem bodyOf_step (L : List (List Nat)) (k : Nat) (hk : k < L.length) : bodyOf (L.take (k + 1)) = bodyOf (L.take k) ++ Fr.Frame.be 2 (L.getD k []).length ++ L.getD k [] := by
  have e : L.take (k + 1) = L.take k ++ [L[k]] := by rw [List.take_succ_eq_append_getElem hk]
  have e2 : L.getD k [] = L[k] := by rw [List.getD_eq_getElem?_getD, List.getElem?_eq_getElem hk]; rfl
  unfold bodyOf
  rw [e, List.flatMap_append, e2]
  simp
theorem RowsIn.later {w w' : World} {v : Value} {L : List (List Nat)} (h : RowsIn w v L) (hb : Below w.heap.size w w') : RowsIn w' v L := by
  obtain ⟨p, cap, rfl, hl, h⟩ := h
  refine ⟨p, cap, rfl, hl, ?_⟩
  rcases h with h | ⟨b, off, rfl, h⟩
  · exact Or.inl h
  · refine Or.inr ⟨b, off, rfl, fun i hi => ?_⟩
    obtain ⟨u, h1, h2⟩ := h i hi
    exact ⟨u, by rw [hb.cell (by exact block_lt_of_cell h1)]; exact h1, h2.later hb⟩
theorem RowsIn.mem {w : World} {v : Value} {L : List (List Nat)} (h : RowsIn w v L) : ∀ r ∈ L, ∀ c ∈ r, c < 256 := by
  obtain ⟨p, cap, rfl, hl, h⟩ := h
  intro r hr
  obtain ⟨i, hi, rfl⟩ := List.getElem_of_mem hr
  rcases h with rfl | ⟨b, off, rfl, h⟩
  · cases hr
  · obtain ⟨u, h1, h2⟩ := h i hi
    have := h2.lt256
    rw [List.getD_eq_getElem?_getD, List.getElem?_eq_getElem hi] at this
    exact this
theorem bodyOf_lt (L : List (List Nat)) (h : ∀ r ∈ L, ∀ c ∈ r, c < 256) : ∀ c ∈ bodyOf L, c < 256 := by
  intro c hc
  obtain ⟨r, hr, hc⟩ := List.mem_flatMap.1 hc
  rcases List.mem_append.1 hc with hc | hc
  · exact Fr.Frame.be_lt _ _ c hc
  · exact h r hr c hc
theorem eN62 : EntersF 47 := Go.Proofs.enters_of Tryd.func47 (by kernel_rfl) rfl
set_option maxHeartbeats 1000000 in
set_option maxRecDepth 100000 in
theorem body_any (w : World) (v : Value) (L : List (List Nat)) (h : RowsIn w v L) (hsz : txSize L ≤ 1000000) : Calls Tryd.prog 35 #[v] w fun e w' => ∃ v', e = .returned v' ∧ BOwn w' w.heap.size v' (bodyOf L) ∧ Below w.heap.size w w' := by
  have hh := h
  obtain ⟨p, cap, rfl, hl, _⟩ := h
  have HR : Hid (RowsIn w (.slice p L.length cap) L) := hh
  obtain ⟨n, hn⟩ : ∃ n, n = L.length := ⟨_, rfl⟩
  have HN : Hid (n = L.length) := hn
  have HB0 : Hid (bytesOf L + 2 * n ≤ 1000000) := by show _ ≤ _; rw [hn]; exact hsz
  have HM : Hid (∀ k, ∀ c ∈ bodyOf (L.take k), c < 256) := fun k => bodyOf_lt _ fun r hr => hh.mem r (List.mem_of_mem_take hr)
  have HLN : Hid (∀ k, k ≤ n → (bodyOf (L.take k)).length ≤ 1000000) := fun k hk => by
    rw [bodyOf_length]
    have h1 := bytes_le L k
    have h2 := HB0.out
    unfold txSize
    rw [List.length_take]
    omega
  rw [← hn] at hl ⊢
  clear hh hn hsz
  go_enter Tryd.func35, Tryd.ntmps35
  go_upto_region 3 with (refine wl_sl sl30 (.tmp 6) rfl rfl p n cap rfl ?_)
  go_loopw [3, 8] (fun s i W => ∃ k : Nat, k ≤ n ∧ i = .int .i64 k ∧ BOwn W w.heap.size s (bodyOf (L.take k)) ∧ Below w.heap.size w W) (fun _ i _ => n - (intOf i).toNat)
  case atStart => exact ⟨0, Nat.zero_le _, rfl, World.ownsRow_nil _ _ _ _, Below.refl _ _⟩
  case round =>
    obtain ⟨k, hk, rfl, ho, hb⟩ := hrel
    have HO : Hid (BOwn wr w.heap.size u3 (bodyOf (L.take k)) ∧ Below w.heap.size w wr) := ⟨ho, hb⟩
    clear ho hb
    by_cases hlt : k < n
    · have t1 : decide ((k : Int) < (n : Int)) = true := decide_eq_true (by omega)
      obtain ⟨b, off, u, rfl, hc, hu⟩ := (HR.out.later HO.out.2).at k (by rw [← HN.out]; exact hlt)
      have HC : Hid (wr.cell? ⟨b, off + k, none⟩ = some u ∧ SliceIn wr u (L.getD k [])) := ⟨hc, hu⟩
      have HST : Hid (bodyOf (L.take (k + 1)) = bodyOf (L.take k) ++ Fr.Frame.be 2 (L.getD k []).length ++ L.getD k []) := bodyOf_step L k (by rw [← HN.out]; exact hlt)
      have hlen := HLN.out (k + 1) (by omega)
      rw [HST.out, List.length_append, List.length_append, Fr.Frame.be_length] at hlen
      obtain ⟨r, hr⟩ : ∃ r, r = L.getD k [] := ⟨_, rfl⟩
      rw [← hr] at HC HST hlen
      clear hc hu hr
      have kc := HC.out.1
      go_upto_region 5 with (refine wl_ix (.tmp 6) (.tmp 8) rfl rfl _ _ _ rfl rfl (idx30 b off n cap k hlt) ?_)
      clear kc
      have HS3 : Hid (SliceIn wr u3 (bodyOf (L.take k))) := BOwn.slice HO.out.1 (HM.out k) (by omega)
      refine wp_region_lit ?_
      refine wl_mv (.tmp 3) rfl rfl u3 rfl ?_
      simp only [Act.put, aS, aC, aZ]
      refine wl_mv (.tmp 5) rfl rfl u rfl ?_
      simp only [Act.put, aS, aC, aZ]
      refine wl_slS (.tmp 13) rfl rfl u r HC.out.2 rfl ?_
      simp only [Act.put, aS, aC, aZ]
      refine wl_cv39 (.tmp 14) rfl rfl r.length (by omega) rfl ?_
      simp only [Act.put, aS, aC, aZ]
      refine wpList_callF eN62 [.tmp 12, .tmp 15, .const (.int .i64 2)] _ rfl rfl [u3, .int .u64 (r.length : Nat), .int .i64 ((2 : Nat) : Int)] rfl ?_
      refine (Fr.number_yes u3 (bodyOf (L.take k)) r.length 2 wr HS3.out (by decide) (by decide) (by omega)).mono ?_
      rintro e w2 ⟨v2, rfl, o2, b2⟩
      refine ⟨_, rfl, ?_⟩
      have R2 : Hid (BOwn w2 w.heap.size v2 (bodyOf (L.take k) ++ Fr.Frame.be 2 r.length) ∧ Below w.heap.size w w2 ∧ SliceIn w2 u r) := ⟨BOwn.mono o2 HO.out.2.size, HO.out.2.trans (b2.mono HO.out.2.size), HC.out.2.later b2⟩
      clear o2 b2
      simp only [Act.put, aS, aC, aZ]
      refine wl_mv (.tmp 5) rfl rfl u rfl ?_
      simp only [Act.put, aS, aC, aZ]
      refine wl_bgrow (.tmp 16) (.tmp 17) rfl rfl w.heap.size v2 u _ r rfl R2.out.1 rfl R2.out.2.2 (by rw [List.length_append, Fr.Frame.be_length]; omega) R2.out.2.1.size ?_
      intro v3 w3 o3 g3
      have R3 : Hid (BOwn w3 w.heap.size v3 (bodyOf (L.take (k + 1))) ∧ Below w.heap.size w w3) := ⟨by rw [HST.out]; exact o3, R2.out.2.1.trans (BOwn.belowG R2.out.1 g3 R2.out.2.1.size)⟩
      clear o3 g3
      simp only [Act.put, aS, aC, aZ]
      refine wl_as (.tmp 18) rfl rfl v3 rfl ?_
      simp only [Act.put, aS, aC, aZ]
      refine wpList_nil ?_
      go_wp2_with fail
      refine ⟨⟨k + 1, by omega, by go_num, R3.out.1, R3.out.2⟩, ?_⟩
      simp [intOf]; omega
    · obtain rfl : n = k := by omega
      have t1 : decide ((n : Int) < (n : Int)) = false := decide_eq_false (by omega)
      have HT : Hid (L.take n = L) := by show _ = _; rw [HN.out]; exact List.take_length
      go_wp2_with fail
      go_ret
      refine ⟨u3, rfl, ?_, HO.out.2⟩
      have := HO.out.1
      rw [HT.out] at this
      exact this
end Go.Proofs.YtebalanfagglnaaDoor

namespace Go.Proofs.YtebalanfagglnaaDoor
open Go.RowKit Go.Maps

theorem info51 : (Tryd.prog.info? 50).map (fun i => (i.zero, i.size, i.bytes)) = some (some (.slice none 0 0), 1, 24) := by kernel_rfl
/-- rows that are being filled -/
def FillTo (W : World) (R n : Nat) (Ls : List (List Nat)) (k : Nat) : Prop :=
  ∃ us : List Value, us.length = k ∧ Row W R 50 (us ++ List.replicate (n - k) (.slice none 0 0)) ∧ ∀ i, i < k → SliceIn W (us.getD i undef) (Ls.getD i []) ∧ ∀ b, (us.getD i undef).ownBlock = some b → R < b
theorem FillTo.start {W : World} {R n : Nat} {Ls : List (List Nat)} (h : Row W R 50 (List.replicate n (.slice none 0 0))) : FillTo W R n Ls 0 := ⟨[], rfl, by simpa using h, fun i hi => absurd hi (Nat.not_lt_zero _)⟩
theorem FillTo.step {W W2 : World} {R n k : Nat} {Ls : List (List Nat)} (h : FillTo W R n Ls k) (hk : k < n) (hb : Below W.heap.size W W2) (u : Value) (hu : SliceIn W2 u (Ls.getD k [])) (hub : ∀ b, u.ownBlock = some b → R < b) :
    (∃ cur, Row W2 R 50 cur ∧ cur.length = n) ∧ FillTo (W2.setCell ⟨R, k, none⟩ u) R n Ls (k + 1) := by
  obtain ⟨us, hl, hr, hs⟩ := h
  have hr2 := hr.later hb hr.lt
  refine ⟨⟨_, hr2, by simp [hl]; omega⟩, us ++ [u], by simp [hl], ?_, fun i hi => ?_⟩
  · have h1 := row_cell' (i := k) hr2 u
    have e : (us ++ List.replicate (n - k) (Value.slice none 0 0)).set k u = us ++ [u] ++ List.replicate (n - (k + 1)) (.slice none 0 0) := by
      rw [List.set_append_right k u (by omega), hl, Nat.sub_self, show n - k = (n - (k + 1)) + 1 by omega, List.replicate_succ, List.set_cons_zero]
      simp
    rw [e] at h1
    exact h1
  · have keep : ∀ v cs, SliceIn W2 v cs → (∀ b, v.ownBlock = some b → R < b) → SliceIn (W2.setCell ⟨R, k, none⟩ u) v cs := fun v cs h1 h2 => sliceK h1 fun b hb' _ => Below.heap_setCell W2 ⟨R, k, none⟩ u b (by have := h2 b hb'; show b ≠ R; omega)
    by_cases e : i = k
    · subst e
      have e1 : (us ++ [u]).getD i undef = u := by rw [List.getD_eq_getElem?_getD, List.getElem?_append_right (by omega), hl, Nat.sub_self]; rfl
      rw [e1]
      exact ⟨keep u _ hu hub, hub⟩
    · have e1 : (us ++ [u]).getD i undef = us.getD i undef := by rw [List.getD_eq_getElem?_getD, List.getElem?_append_left (by omega), ← List.getD_eq_getElem?_getD]
      rw [e1]
      have h1 := hs i (by omega)
      exact ⟨keep _ _ (h1.1.later hb) h1.2, h1.2⟩
/-- rows in blocks from base on -/
def RowsFrom (w : World) (base : Nat) (v : Value) (L : List (List Nat)) : Prop :=
  ∃ p cap, v = .slice p L.length cap ∧ L.length ≤ 1099511627776 ∧ (L = [] ∨ ∃ b off, p = some ⟨b, off, none⟩ ∧ base ≤ b ∧ ∀ i, i < L.length → ∃ u, w.cell? ⟨b, off + i, none⟩ = some u ∧ SliceIn w u (L.getD i []) ∧ ∀ b', u.ownBlock = some b' → base ≤ b')
theorem RowsFrom.rows {w : World} {base : Nat} {v : Value} {L : List (List Nat)} (h : RowsFrom w base v L) : RowsIn w v L := by
  obtain ⟨p, cap, rfl, hl, h⟩ := h
  refine ⟨p, cap, rfl, hl, ?_⟩
  rcases h with h | ⟨b, off, rfl, _, h⟩
  · exact Or.inl h
  · refine Or.inr ⟨b, off, rfl, fun i hi => ?_⟩
    obtain ⟨u, h1, h2, _⟩ := h i hi
    exact ⟨u, h1, h2⟩
theorem FillTo.done {W : World} {R n : Nat} {Ls : List (List Nat)} (h : FillTo W R n Ls n) (hl : Ls.length = n) (hn : n ≤ 1099511627776) : RowsFrom W R (whole R n) Ls := by
  obtain ⟨us, hul, hr, hs⟩ := h
  refine ⟨_, n, by rw [hl]; rfl, by omega, Or.inr ⟨R, 0, rfl, Nat.le_refl _, fun i hi => ⟨us.getD i undef, ?_, (hs i (by omega)).1, fun b hb => Nat.le_of_lt ((hs i (by omega)).2 b hb)⟩⟩⟩
  have h1 := hr.at i (us.getD i undef) (by
    rw [List.getElem?_append_left (by omega), List.getD_eq_getElem?_getD, List.getElem?_eq_getElem (by omega)]
    rfl)
  rw [Nat.zero_add]
  exact h1
set_option maxHeartbeats 1000000 in
set_option maxRecDepth 100000 in
theorem blank_any (w : World) (n : Nat) (hn : n ≤ 10000) : Calls Tryd.prog 26 #[.int .i64 (n : Nat)] w fun e w' => ∃ v, e = .returned v ∧ RowsFrom w' w.heap.size v (List.replicate n zeros) ∧ Below w.heap.size w w' ∧ v = whole w.heap.size n := by
  obtain ⟨R, hR⟩ : ∃ R, R = w.heap.size := ⟨_, rfl⟩
  have HR : Hid (R = w.heap.size) := hR
  rw [← hR]
  clear hR
  go_enter Tryd.func26, Tryd.ntmps26
  go_upto_region 1 with fail
  refine wp_region_lit ?_
  refine wl_mv (.tmp 0) rfl rfl (.int .i64 (n : Nat)) rfl ?_
  simp only [Act.put, aS, aC, aZ]
  refine wl_make (.tmp 5) (.tmp 5) 28 50 _ 1 24 rfl rfl Tryd.underlying28 info51 n rfl rfl (by omega) (by omega) ?_
  intro w1 r1 s1 b1
  rw [made51, ← HR.out] at r1
  rw [← HR.out] at s1 b1 ⊢
  simp only [Act.put, aS, aC, aZ]
  refine wl_as (.tmp 6) rfl rfl (whole R n) rfl ?_
  simp only [Act.put, aS, aC, aZ]
  refine wpList_nil ?_
  have R1 : Hid (FillTo w1 R n (List.replicate n zeros) 0 ∧ Below R w w1) := ⟨FillTo.start r1, b1⟩
  clear r1 s1 b1
  go_upto_region 3 with (refine wl_sl sl30 (.tmp 7) rfl rfl _ n n rfl ?_)
  go_loopw [9] (fun i W => ∃ k : Nat, k ≤ n ∧ i = .int .i64 k ∧ FillTo W R n (List.replicate n zeros) k ∧ Below R w W) (fun i _ => n - (intOf i).toNat)
  case atStart => exact ⟨0, Nat.zero_le _, rfl, R1.out⟩
  case round =>
    obtain ⟨k, hk, rfl, hf, hb⟩ := hrel
    have HF : Hid (FillTo wr R n (List.replicate n zeros) k ∧ Below R w wr) := ⟨hf, hb⟩
    clear hf hb
    by_cases hlt : k < n
    · have t1 : decide ((k : Int) < (n : Int)) = true := decide_eq_true (by omega)
      have HZ : Hid ((List.replicate n zeros).getD k [] = zeros) := by show _ = _; rw [List.getD_eq_getElem?_getD, List.getElem?_replicate, if_pos hlt]; rfl
      have HRlt : Hid (R < wr.heap.size) := by obtain ⟨_, _, hr, _⟩ := HF.out.1; exact hr.lt
      go_upto_region 5 with fail
      refine wp_region_lit ?_
      refine wl_mv (.tmp 3) rfl rfl (whole R n) rfl ?_
      simp only [Act.put, aS, aC, aZ]
      refine wl_mv (.tmp 4) rfl rfl (.int .i64 (k : Nat)) rfl ?_
      simp only [Act.put, aS, aC, aZ]
      refine wpList_make64 (.const (.int .i64 64)) (.const (.int .i64 64)) rfl rfl rfl rfl ?_
      intro w2 r2 s2 b2
      have hs2 : SliceIn w2 (.slice (some ⟨wr.heap.size, 0, none⟩) 64 64) zeros := Row.slice (s := zeros) (by rw [show bcells zeros = zerosU8 64 by rfl]; exact r2) (fun c hc => by rw [List.eq_of_mem_replicate (show c ∈ List.replicate 64 0 from hc)]; decide) (by decide)
      obtain ⟨⟨cur, hcur, hcl⟩, hfs⟩ := HF.out.1.step hlt b2 (.slice (some ⟨wr.heap.size, 0, none⟩) 64 64) (by rw [HZ.out]; exact hs2) (fun b hb => by have e : wr.heap.size = b := (by injection hb); have := HRlt.out; omega)
      have HCU : Hid (Row w2 R 50 cur ∧ cur.length = n) := ⟨hcur, hcl⟩
      have HFS : Hid (FillTo (w2.setCell ⟨R, k, none⟩ (.slice (some ⟨wr.heap.size, 0, none⟩) 64 64)) R n (List.replicate n zeros) (k + 1) ∧ Below R w (w2.setCell ⟨R, k, none⟩ (.slice (some ⟨wr.heap.size, 0, none⟩) 64 64))) := ⟨hfs, (HF.out.2.trans (b2.mono (by have := HRlt.out; omega))).setCell (Nat.le_refl _) _⟩
      clear r2 s2 b2 hs2 hcur hcl hfs
      simp only [Act.put, aS, aC, aZ]
      refine wl_ix (.tmp 12) (.tmp 13) rfl rfl (whole R n) (.pointer (some ⟨R, 0 + k, none⟩)) _ rfl rfl (idx30 R 0 n n k hlt) ?_
      simp only [Act.put, aS, aC, aZ]
      rw [Nat.zero_add]
      refine wl_put size51 (.tmp 15) (.tmp 14) rfl rfl rfl R k 50 _ rfl (.slice (some ⟨wr.heap.size, 0, none⟩) 64 64) rfl ⟨rfl, rfl⟩ HCU.out.1 (by rw [HCU.out.2]; exact hlt) ?_
      refine wpList_nil ?_
      generalize w2.setCell ⟨R, k, none⟩ (.slice (some ⟨wr.heap.size, 0, none⟩) 64 64) = w3 at HFS ⊢
      go_wp2_with fail
      refine ⟨⟨k + 1, by omega, by go_num, HFS.out⟩, ?_⟩
      simp [intOf]; omega
    · obtain rfl : n = k := by omega
      have t1 : decide ((n : Int) < (n : Int)) = false := decide_eq_false (by omega)
      go_wp2_with fail
      go_ret
      exact ⟨whole R n, rfl, HF.out.1.done (by simp) (by omega), HF.out.2, rfl⟩
theorem eN42 : EntersF 26 := Go.Proofs.enters_of Tryd.func26 (by kernel_rfl) rfl
set_option maxRecDepth 100000 in
theorem isBlank_any (w : World) (v : Value) (b : List Nat) (h : SliceIn w v b) : Calls Tryd.prog 72 #[v] w fun e w' => e = .returned (.bool (decide (b = zeros))) ∧ Below w.heap.size w w' := by
  have HV : Hid (SliceIn w v b) := h
  clear h
  go_enter Tryd.func72, Tryd.ntmps72
  go_upto_region 1 with fail
  refine wp_region_lit ?_
  refine wl_mv (.tmp 0) rfl rfl v rfl ?_
  simp only [Act.put, aS, aC, aZ]
  refine wpList_callF eN42 [.const (.int .i64 1)] _ rfl rfl [.int .i64 ((1 : Nat) : Int)] rfl ?_
  refine (blank_any w 1 (by decide)).mono ?_
  rintro e w1 ⟨v1, rfl, hr, hb, rfl⟩
  refine ⟨_, rfl, ?_⟩
  obtain ⟨b0, off, u, hp, hc, hu⟩ := hr.rows.at 0 (by decide)
  have R1 : Hid (w1.cell? ⟨w.heap.size, 0, none⟩ = some u ∧ SliceIn w1 u zeros ∧ Below w.heap.size w w1) := by
    injection hp with hp
    injection hp with h1 h2
    subst h1 h2
    exact ⟨hc, hu, hb⟩
  clear hr hb hp hc hu
  simp only [Act.put, aS, aC, aZ]
  refine wl_ix (.tmp 4) (.const (.int .i64 0)) rfl rfl (whole w.heap.size 1) (.pointer (some ⟨w.heap.size, 0 + 0, none⟩)) (.int .i64 ((0 : Nat) : Int)) rfl rfl (idx30 w.heap.size 0 1 1 0 (by decide)) ?_
  simp only [Act.put, aS, aC, aZ]
  refine wl_ld o51 (.tmp 5) rfl rfl w.heap.size (0 + 0) rfl u R1.out.1 ?_
  simp only [Act.put, aS, aC, aZ]
  refine wpList_callF en79 [.tmp 3, .tmp 6] _ rfl rfl [v, u] rfl ?_
  refine (equal_any w1 v u b zeros (HV.out.later R1.out.2.2) R1.out.2.1).mono ?_
  rintro e w2 ⟨rfl, rfl⟩
  refine ⟨_, rfl, ?_⟩
  go_wp2_with fail
  go_ret
  exact ⟨rfl, R1.out.2.2⟩
end Go.Proofs.YtebalanfagglnaaDoor

namespace Go.Proofs.YtebalanfagglnaaDoor
open Go.RowKit Go.Maps

/-- a piece of a row's bytes, and the row's sectors -/
def pieceAt (b : List Nat) (i : Nat) : List Nat := (b.take (min (i * 44 + 44) b.length)).drop (i * 44)
def rowSecs (s : Nat) (b : List Nat) : List (List Nat) := (List.range (secsOf b.length)).map fun i => partSec s i b.length (pieceAt b i)
theorem rowSecs_length (s : Nat) (b : List Nat) : (rowSecs s b).length = secsOf b.length := by simp [rowSecs]
theorem rowSecs_at (s : Nat) (b : List Nat) (i : Nat) (h : i < secsOf b.length) : (rowSecs s b).getD i [] = partSec s i b.length (pieceAt b i) := by simp [rowSecs, h]
theorem secsOf_lt (n i : Nat) (h : i < secsOf n) : i * 44 ≤ n := by unfold secsOf at h; omega
theorem pieceAt_length (b : List Nat) (i : Nat) : (pieceAt b i).length ≤ 44 := by unfold pieceAt; simp; omega
theorem eN69 : EntersF 55 := Go.Proofs.enters_of Tryd.func55 (by kernel_rfl) rfl
theorem eN70 : EntersF 56 := Go.Proofs.enters_of Tryd.func56 (by kernel_rfl) rfl
theorem part_lt (s i n : Nat) (ps : List Nat) (h : ∀ c ∈ ps, c < 256) : ∀ c ∈ partSec s i n ps, c < 256 := wsec_lt 84 _ (by decide) fun c hc => by
  rcases List.mem_append.1 hc with hc | hc
  · rcases List.mem_append.1 hc with hc | hc
    · rcases List.mem_append.1 hc with hc | hc
      · exact Fr.Frame.be_lt _ _ c hc
      · exact Fr.Frame.be_lt _ _ c hc
    · exact Fr.Frame.be_lt _ _ c hc
  · exact h c hc
theorem part_length (s i n : Nat) (ps : List Nat) (h : ps.length ≤ 44) : (partSec s i n ps).length = 64 := wsec_length 84 _ (by simp only [List.length_append, Fr.Frame.be_length]; omega)
set_option maxHeartbeats 2000000 in
set_option maxRecDepth 100000 in
theorem rowOf_any (w : World) (s : Nat) (v : Value) (b : List Nat) (h : SliceIn w v b) (hl : b.length ≤ 10000) (ht : Fr.TabIn w) : Calls Tryd.prog 34 #[.int .u64 (s : Nat), v] w fun e w' => ∃ v', e = .returned v' ∧ RowsFrom w' w.heap.size v' (rowSecs s b) ∧ Below w.heap.size w w' := by
  obtain ⟨R, hR⟩ : ∃ R, R = w.heap.size := ⟨_, rfl⟩
  have HR : Hid (R = w.heap.size) := hR
  have HT : Hid (Fr.TabIn w) := ht
  have HV : Hid (SliceIn w v b) := h
  obtain ⟨N, hN⟩ : ∃ N, N = b.length := ⟨_, rfl⟩
  have HN : Hid (N = b.length) := hN
  obtain ⟨n, hn⟩ : ∃ n, n = secsOf N := ⟨_, rfl⟩
  have HSN : Hid (n = secsOf N) := hn
  have hn1 : n ≤ 1000 := by rw [hn]; unfold secsOf; omega
  have HSC : Hid (∀ W, Calls Tryd.prog 55 #[.int .i64 (N : Nat)] W fun e w' => e = .returned (.int .i64 (n : Nat)) ∧ W = w') := fun W => by rw [hn]; exact sectors_any W N (by omega)
  rw [← hR]
  rw [← hN] at hl
  clear hR ht h hN hn
  go_enter Tryd.func34, Tryd.ntmps34
  go_upto_region 1 with fail
  refine wp_region_lit ?_
  refine wl_mv (.tmp 1) rfl rfl v rfl ?_
  simp only [Act.put, aS, aC, aZ]
  refine wl_slS (.tmp 9) rfl rfl v b HV.out rfl ?_
  rw [← HN.out]
  simp only [Act.put, aS, aC, aZ]
  refine wpList_callF eN69 [.tmp 10] _ rfl rfl [.int .i64 (N : Nat)] rfl ?_
  refine (HSC.out w).mono ?_
  rintro e w0 ⟨rfl, rfl⟩
  refine ⟨_, rfl, ?_⟩
  simp only [Act.put, aS, aC, aZ]
  refine wl_make (.tmp 11) (.tmp 11) 28 50 _ 1 24 rfl rfl Tryd.underlying28 info51 n rfl rfl (by omega) (by omega) ?_
  intro w1 r1 s1 b1
  rw [made51, ← HR.out] at r1
  rw [← HR.out] at s1 b1 ⊢
  simp only [Act.put, aS, aC, aZ]
  refine wl_as (.tmp 12) rfl rfl (whole R n) rfl ?_
  simp only [Act.put, aS, aC, aZ]
  refine wpList_nil ?_
  have R1 : Hid (FillTo w1 R n (rowSecs s b) 0 ∧ Below R w w1) := ⟨FillTo.start r1, b1⟩
  clear r1 s1 b1
  go_upto_region 3 with (refine wl_sl sl30 (.tmp 13) rfl rfl _ n n rfl ?_)
  go_loopw [15] (fun i W => ∃ k : Nat, k ≤ n ∧ i = .int .i64 k ∧ FillTo W R n (rowSecs s b) k ∧ Below R w W) (fun i _ => n - (intOf i).toNat)
  case atStart => exact ⟨0, Nat.zero_le _, rfl, R1.out⟩
  case round =>
    obtain ⟨k, hk, rfl, hf, hb⟩ := hrel
    have HF : Hid (FillTo wr R n (rowSecs s b) k ∧ Below R w wr) := ⟨hf, hb⟩
    clear hf hb
    by_cases hlt : k < n
    · have t1 : decide ((k : Int) < (n : Int)) = true := decide_eq_true (by omega)
      have hk44 : k * 44 ≤ N := secsOf_lt N k (by rw [← HSN.out]; exact hlt)
      have HZ : Hid ((rowSecs s b).getD k [] = partSec s k N (pieceAt b k)) := by show _ = _; rw [HN.out]; exact rowSecs_at s b k (by rw [← HN.out, ← HSN.out]; exact hlt)
      have HRlt : Hid (R < wr.heap.size) := by obtain ⟨_, _, hr, _⟩ := HF.out.1; exact hr.lt
      have HVr : Hid (SliceIn wr v b) := HV.out.later (by rw [← HR.out]; exact HF.out.2)
      obtain ⟨m, hm⟩ : ∃ m : Nat, m = min (k * 44 + 44) N := ⟨_, rfl⟩
      have HMI : Hid (min ((k : Int) * 44 + 44) (N : Int) = (m : Int)) := by show _ = _; rw [hm]; omega
      have HPC : Hid (pieceAt b k = (b.take m).drop (k * 44)) := by show _ = _; unfold pieceAt; rw [hm, HN.out]
      have hm1 : k * 44 ≤ m ∧ m ≤ N := by omega
      clear hm
      go_upto_region 7 with (refine wl_slS (.tmp 22) rfl rfl v b HVr.out rfl ?_; rw [← HN.out])
      rw [HMI.out]
      refine wp_region_lit ?_
      refine wl_mv (.tmp 5) rfl rfl (whole R n) rfl ?_
      simp only [Act.put, aS, aC, aZ]
      refine wl_mv (.tmp 6) rfl rfl (.int .i64 (k : Nat)) rfl ?_
      simp only [Act.put, aS, aC, aZ]
      refine wl_mv (.tmp 0) rfl rfl (.int .u64 (s : Nat)) rfl ?_
      simp only [Act.put, aS, aC, aZ]
      refine wl_mv (.tmp 6) rfl rfl (.int .i64 (k : Nat)) rfl ?_
      simp only [Act.put, aS, aC, aZ]
      refine wl_mv (.tmp 1) rfl rfl v rfl ?_
      simp only [Act.put, aS, aC, aZ]
      refine wl_slS (.tmp 29) rfl rfl v b HVr.out rfl ?_
      rw [← HN.out]
      simp only [Act.put, aS, aC, aZ]
      refine wl_mv (.tmp 1) rfl rfl v rfl ?_
      simp only [Act.put, aS, aC, aZ]
      refine wl_mv (.tmp 7) rfl rfl _ rfl ?_
      simp only [Act.put, aS, aC, aZ]
      refine wl_mv (.tmp 8) rfl rfl (.int .i64 (m : Nat)) rfl ?_
      simp only [Act.put, aS, aC, aZ]
      refine wl_mv (.tmp 8) rfl rfl (.int .i64 (m : Nat)) rfl ?_
      simp only [Act.put, aS, aC, aZ]
      refine wl_bsub (.tmp 31) (some (.tmp 32)) (some (.tmp 33)) (some (.tmp 34)) rfl rfl v b rfl HVr.out (k * 44) m ⟨Or.inr ⟨_, rfl, by omega⟩, Or.inr ⟨_, rfl, rfl, Or.inr rfl⟩, hm1.1, by rw [← HN.out]; exact hm1.2⟩ ?_
      intro pv hpv
      rw [← HPC.out] at hpv
      have HPV : Hid (SliceIn wr pv (pieceAt b k)) := hpv
      clear hpv
      simp only [Act.put, aS, aC, aZ]
      refine wl rfl _ wr (run_build126xOp (.tmp 27) (.tmp 28) (.tmp 30) (.tmp 35) rfl s k N pv HPV.out.isSl rfl rfl rfl rfl) ?_
      simp only [Act.put, aS, aC, aZ]
      refine wpList_callF eN70 [.tmp 36] _ rfl rfl [.agg (partCells s k N pv).toArray] rfl ?_
      refine (partSector_any wr s k N pv (pieceAt b k) HPV.out (pieceAt_length b k) (by omega) (by omega) (TabIn.later HT.out (by rw [← HR.out]; exact HF.out.2))).mono ?_
      rintro e w2 ⟨u, rfl, o2, b2⟩
      refine ⟨_, rfl, ?_⟩
      have hs2 : SliceIn w2 u (partSec s k N (pieceAt b k)) := BOwn.slice o2 (part_lt s k N _ fun c hc => HV.out.lt256 c (List.mem_of_mem_take (List.mem_of_mem_drop hc))) (by rw [part_length s k N _ (pieceAt_length b k)]; decide)
      obtain ⟨⟨cur, hcur, hcl⟩, hfs⟩ := HF.out.1.step hlt b2 u (by rw [HZ.out]; exact hs2) (fun b hb => by have h1 := (World.ownsRow.lt o2 b hb).1; have := HRlt.out; omega)
      have HCU : Hid (Row w2 R 50 cur ∧ cur.length = n ∧ u.cells = #[u] ∧ u.oneCell' = true) := ⟨hcur, hcl, own_cells o2⟩
      have HFS : Hid (FillTo (w2.setCell ⟨R, k, none⟩ u) R n (rowSecs s b) (k + 1) ∧ Below R w (w2.setCell ⟨R, k, none⟩ u)) := ⟨hfs, (HF.out.2.trans (b2.mono (by have := HRlt.out; omega))).setCell (Nat.le_refl _) _⟩
      clear o2 b2 hs2 hcur hcl hfs
      simp only [Act.put, aS, aC, aZ]
      refine wl_ix (.tmp 25) (.tmp 26) rfl rfl (whole R n) (.pointer (some ⟨R, 0 + k, none⟩)) _ rfl rfl (idx30 R 0 n n k hlt) ?_
      simp only [Act.put, aS, aC, aZ]
      rw [Nat.zero_add]
      refine wl_put size51 (.tmp 38) (.tmp 37) rfl rfl rfl R k 50 _ rfl u rfl HCU.out.2.2 HCU.out.1 (by rw [HCU.out.2.1]; exact hlt) ?_
      refine wpList_nil ?_
      generalize w2.setCell ⟨R, k, none⟩ u = w3 at HFS ⊢
      go_wp2_with fail
      refine ⟨⟨k + 1, by omega, by go_num, HFS.out⟩, ?_⟩
      simp [intOf]; omega
    · obtain rfl : n = k := by omega
      have t1 : decide ((n : Int) < (n : Int)) = false := decide_eq_false (by omega)
      go_wp2_with fail
      go_ret
      exact ⟨whole R n, rfl, HF.out.1.done (by rw [rowSecs_length, ← HN.out]; exact HSN.out.symm) (by omega), HF.out.2⟩
end Go.Proofs.YtebalanfagglnaaDoor

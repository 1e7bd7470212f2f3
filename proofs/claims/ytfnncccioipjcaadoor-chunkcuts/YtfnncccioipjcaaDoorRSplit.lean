/- The document's Split, leaves, Root and Proof. -/
import Derived.Test.YtfnncccioipjcaaDoorCLeaves
import Derived.Test.YtfnncccioipjcaaDoorRows6
namespace Go.Proofs.YtfnncccioipjcaaDoor
open Go.RowKit

theorem ownsRow_same {w w' : World} {lo e sz n : Nat} {v : Value} {xs : List Value} (h : w.ownsRow lo e sz v n xs) (hk : ∀ k, lo ≤ k → k < w.heap.size → w'.heap[k]? = w.heap[k]?) : w'.ownsRow lo e sz v n xs := by
  rcases h.2 with ⟨rfl, h0⟩ | ⟨b, cap, cur, rfl, hb, hcell, rest⟩
  · exact ⟨h.1, Or.inl ⟨rfl, h0⟩⟩
  · exact ⟨h.1, Or.inr ⟨b, cap, cur, rfl, hb, by rw [hk b hb (Array.getElem?_eq_some_iff.1 hcell).1]; exact hcell, rest⟩⟩
/-- rows of bytes and rows of headers lie apart -/
theorem own_apart {w : World} {lo lo' n m : Nat} {x v : Value} {hs cs : List Value} (hx : w.ownsRow lo 39 1 x n hs) (hv : w.ownsRow lo' 5 1 v m cs) : v.ownBlock = none ∨ v.ownBlock ≠ x.ownBlock := by
  rcases hv.2 with ⟨rfl, _⟩ | ⟨b, cap, cur, rfl, hb, hcell, _⟩
  · exact Or.inl rfl
  · right
    rcases hx.2 with ⟨rfl, _⟩ | ⟨b', cap', cur', rfl, hb', hcell', _⟩
    · intro e; cases e
    · intro e
      injection e with e
      have e' : b = b' := e
      rw [e', hcell'] at hcell
      injection hcell with e2
      injection e2 with _ e3
      cases e3
/-- a slice of the call's own that holds headers, each of them of a row of the call's own -/
def RowsOwn (W : World) (lo : Nat) (x : Value) (L : List (List Nat)) : Prop :=
  ∃ hs : List Value, hs.length = L.length ∧ W.ownsRow lo 39 1 x L.length hs ∧ ∀ i, i < L.length → BOwn W lo (hs.getD i undef) (L.getD i [])
theorem RowsOwn.same {w w' : World} {lo : Nat} {x : Value} {L : List (List Nat)} (h : RowsOwn w lo x L) (hk : ∀ k, lo ≤ k → k < w.heap.size → w'.heap[k]? = w.heap[k]?) : RowsOwn w' lo x L := by
  obtain ⟨hs, h1, h2, h3⟩ := h
  exact ⟨hs, h1, ownsRow_same h2 hk, fun i hi => ownsRow_same (h3 i hi) hk⟩
theorem RowsOwn.later {w w' : World} {lo : Nat} {x : Value} {L : List (List Nat)} (h : RowsOwn w lo x L) (hb : Below w.heap.size w w') : RowsOwn w' lo x L := h.same fun k _ hk => hb.block k hk
theorem RowsOwn.list {w : World} {lo : Nat} {x : Value} {L : List (List Nat)} (h : RowsOwn w lo x L) (hb : ∀ c ∈ L, ∀ y ∈ c, y < 256) : ListIn w x L := by
  obtain ⟨hs, h1, h2, h3⟩ := h
  have hrow : ∀ i, i < L.length → SliceIn w (hs.getD i undef) (L.getD i []) := fun i hi => (h3 i hi).slice (lt256 _ (by
    have e : L.getD i [] = L[i] := by simp [hi]
    rw [e]
    exact hb _ (List.getElem_mem hi)))
  rcases h2.2 with ⟨rfl, h0⟩ | ⟨g, cap, cur, rfl, _, hg, hcap, hmax, hsz, htake⟩
  · have : L = [] := List.length_eq_zero_iff.1 h0
    subst this
    exact ⟨none, 0, rfl, by simp, Or.inl rfl⟩
  · refine ⟨some ⟨g, 0, none⟩, cap, rfl, by simp only [maxLen] at hmax; omega, Or.inr ⟨g, 0, rfl, fun i hi => ⟨hs.getD i undef, ?_, hrow i hi⟩⟩⟩
    have hc := h2.cellAt i (by omega)
    rw [Nat.zero_add, hc]
    simp [show i < hs.length by omega]
theorem run_rlit1 (p : Option Addr) (n c : Nat) (w : World) : (Instr.buildSlice 22 1 #[(0, .slice p n c)]).run Tryd.prog w = .ok (whole w.heap.size 1) (w.alloc (.cells #[.slice p n c] 39)) := by kernel_rfl
theorem BOwn.isSlice {w : World} {base : Nat} {v : Value} {cs : List Nat} (h : BOwn w base v cs) : ∃ p n c, v = .slice p n c := by
  rcases h.2 with ⟨rfl, _⟩ | ⟨_, _, _, rfl, _⟩ <;> exact ⟨_, _, _, rfl⟩
/-- a header behind the others -/
theorem run_rappend {w : World} (lo : Nat) (ty : TypeId) (x v : Value) (L : List (List Nat)) (c : List Nat) (g : Nat) (h : RowsOwn w lo x L) (hv : BOwn w lo v c) (hc : w.cell? ⟨g, 0, none⟩ = some v) (hsz : (L.length + 1) * 24 ≤ 140737488355328) (hlo : lo ≤ w.heap.size) :
    ∃ x' w', (Builtin.append_ #[22, 22] ty #[x, whole g 1]).run Tryd.prog w = .ok x' w' ∧ RowsOwn w' lo x' (L ++ [c]) ∧ Below lo w w' := by
  obtain ⟨hs, h1, h2, h3⟩ := h
  obtain ⟨i, hi, hz0, hz1, hz2⟩ := info_parts info39
  obtain ⟨p, n, cp, rfl⟩ := hv.isSlice
  obtain ⟨x', w', hr, ho', hg, _⟩ := run_append_own (P := Tryd.prog) (w := w) lo 22 ty 39 i (.slice none 0 0) 1 24 Tryd.underlying22 hi hz0 hz1 hz2 rfl (by decide) x L.length hs h2
    ⟨g, 0, none⟩ 1 1 [.slice p n cp] rfl (fun j u hu => by
      rw [add_none]
      cases j with
      | zero => simp at hu; rw [← hu]; exact hc
      | succ j => simp at hu) (by intro u hu; rw [List.mem_singleton.1 hu]; rfl) (by unfold maxLen; omega) (by omega) hlo
  refine ⟨x', w', hr, ⟨hs ++ [.slice p n cp], by simp [h1], by rw [List.length_append]; exact ho', fun j hj => ?_⟩, (Below.refl lo w).grown hg hlo fun k hk => (h2.lt k hk).1⟩
  rw [List.length_append] at hj
  have hlen : ([c] : List (List Nat)).length = 1 := rfl
  rcases Nat.lt_or_ge j L.length with hlt | hge
  · have e1 : (hs ++ [Value.slice p n cp]).getD j undef = hs.getD j undef := by simp [List.getD_eq_getElem?_getD, List.getElem?_append_left (show j < hs.length by omega)]
    have e2 : (L ++ [c]).getD j [] = L.getD j [] := by simp [List.getD_eq_getElem?_getD, List.getElem?_append_left hlt]
    rw [e1, e2]
    exact (h3 j hlt).kept hg (own_apart h2 (h3 j hlt))
  · obtain rfl : j = L.length := by omega
    have e1 : (hs ++ [Value.slice p n cp]).getD L.length undef = .slice p n cp := by rw [← h1]; simp
    have e2 : (L ++ [c]).getD L.length [] = c := by simp
    rw [e1, e2]
    exact hv.kept hg (own_apart h2 hv)
section
variable {w : World} {ops : Array Oper} {rest : List Oper} {o : Oper} {a : Act} {Q : Exit → Act → World → Prop}
theorem wl_rlit0 (hgd : Region.wanted o (yielded ops a.tmps) = true) (ho : o.op = .buildSlice 22 0 #[]) (lo : Nat) (hb : lo ≤ w.heap.size)
    (h : ∀ v' w', RowsOwn w' lo v' [] → Below w.heap.size w w' → wpList Tryd.prog ops Q rest (a.put o.dst v') w') : wpList Tryd.prog ops Q (o :: rest) a w := by
  have hr : (Instr.buildSlice 22 0 #[]).run Tryd.prog w = .ok (.slice (some ⟨w.heap.size, 0, none⟩) 0 0) (w.alloc (.cells #[] 39)) := by kernel_rfl
  exact wl hgd _ _ (by simp [execOp, ho, hr]) (h _ _ ⟨[], rfl, World.ownsRow_made w #[] 0 hb (Nat.zero_le _) rfl, fun i hi => absurd hi (Nat.not_lt_zero _)⟩ (below_alloc w _))
theorem wl_rlit1 (x : Operand) (hgd : Region.wanted o (yielded ops a.tmps) = true) (ho : o.op = .buildSlice 22 1 #[(0, x)]) (lo : Nat) (v : Value) (c : List Nat) (hx : a.eval x = v) (hv : BOwn w lo v c)
    (h : ∀ w', w'.cell? ⟨w.heap.size, 0, none⟩ = some v → Below w.heap.size w w' → wpList Tryd.prog ops Q rest (a.put o.dst (whole w.heap.size 1)) w') : wpList Tryd.prog ops Q (o :: rest) a w := by
  obtain ⟨p, n, cp, rfl⟩ := hv.isSlice
  exact wl hgd _ _ (by simp only [execOp, ho, List.map_toArray, List.map_cons, List.map_nil, hx, run_rlit1, Sem.run_bind, Sem.run_pure, Result.andThen_ok]) (h _ ((Row.new w 39 [.slice p n cp]).at 0 _ rfl) (below_alloc w _))
theorem wl_rappend (sv x : Operand) (hgd : Region.wanted o (yielded ops a.tmps) = true) (ho : o.op = .call { callee := .builtin .append, args := #[sv, x], argTypes := #[22, 22] }) (lo : Nat) (vs v : Value) (L : List (List Nat)) (c : List Nat) (g : Nat) (hs : a.eval sv = vs) (hx : a.eval x = whole g 1)
    (hown : RowsOwn w lo vs L) (hv : BOwn w lo v c) (hc : w.cell? ⟨g, 0, none⟩ = some v) (hsz : (L.length + 1) * 24 ≤ 140737488355328) (hlo : lo ≤ w.heap.size)
    (h : ∀ v' w', RowsOwn w' lo v' (L ++ [c]) → Below lo w w' → wpList Tryd.prog ops Q rest (a.put o.dst v') w') : wpList Tryd.prog ops Q (o :: rest) a w := by
  obtain ⟨x', w', hr, ho', hb⟩ := run_rappend lo o.type vs v L c g hown hv hc hsz hlo
  refine wl hgd x' w' ?_ (h x' w' ho' hb)
  simp only [execOp, ho, resolve, invoke, builtin, Sem.run_bind, Sem.run_pure, Result.andThen_ok, List.map_toArray, List.map_cons, List.map_nil, hs, hx, hr]
end
def RSTo (w W : World) (lo : Nat) (x : Value) (b : List Nat) (k : Nat) : Prop := RowsOwn W lo x (Cut.cutTo b k) ∧ Below lo w W ∧ lo ≤ W.heap.size
set_option maxHeartbeats 2000000 in
set_option maxRecDepth 100000 in
theorem rsplit_any (v : Value) (cs : List Nat) (w : World) (h : SliceIn w v cs) (hlen : cs.length ≤ 140737488355328) :
    Calls Tryd.prog 20 #[v] w fun e w' => ∃ v', e = .returned v' ∧ RowsOwn w' w.heap.size v' (Cut.cut cs) ∧ Below w.heap.size w w' := by
  obtain ⟨N, hN⟩ : ∃ N, cs.length = N := ⟨_, rfl⟩
  have HN : Hid (cs.length = N) := hN
  obtain ⟨n, hn⟩ : ∃ n, Cut.count cs.length = n := ⟨_, rfl⟩
  have Hn : Hid (Cut.count cs.length = n) := hn
  have hcm : n * 64 < N + 64 := by rw [← hn, ← hN]; unfold Cut.count; omega
  have hcm' : N ≤ n * 64 := by rw [← hn, ← hN]; exact Cut.count_mul _
  have hNm : N ≤ 140737488355328 := by omega
  obtain ⟨B, hB⟩ : ∃ B, B = w.heap.size := ⟨_, rfl⟩
  have HB : Hid (B = w.heap.size) := hB
  have HLT : Hid (∀ W, Below B w W → SliceIn W v cs) := fun W hb => h.later (hB ▸ hb)
  unfold Cut.cut
  rw [hn]
  clear hN hn hlen
  go_enter Tryd.func20, Tryd.ntmps20
  go_wp2_with (refine wl_rlit0 rfl rfl B (Nat.le_of_eq hB) ?_; rw [← hB]; intro v1 w1 o1 b1; have R1 : Hid (RSTo w w1 B v1 cs 0) := ⟨o1, b1, by have := b1.size; omega⟩; clear o1 b1 hB)
  go_loopw [3, 4] (fun x i W => ∃ k : Nat, k ≤ n ∧ i = .int .i64 ((k * 64 : Nat) : Int) ∧ RSTo w W B x cs k) (fun _ i _ => n * 64 - (intOf i).toNat)
  case atStart => exact ⟨0, Nat.zero_le _, rfl, R1.out⟩
  case round =>
    clear R1
    obtain ⟨k, hk, rfl, hlv⟩ := hrel
    have HV : Hid (RSTo w wr B u3 cs k) := hlv
    clear hlv
    obtain ⟨K, hK⟩ : ∃ K, K = k * 64 := ⟨_, rfl⟩
    have HK : Hid (K = k * 64) := hK
    rw [← hK]
    by_cases hlt : k < n
    · have hlt' : (K : Int) < (N : Int) := by omega
      have hKm : K + 64 ≤ 140737488355328 + 64 := by omega
      obtain ⟨M, hM⟩ : ∃ M, M = min N (K + 64) := ⟨_, rfl⟩
      have HM : Hid (min (N : Int) ((K : Int) + 64) = (M : Int)) := by show _ = _; omega
      have HML : Hid (K ≤ M ∧ M ≤ cs.length) := by rw [HN.out]; exact ⟨by omega, by omega⟩
      have HE : Hid ((cs.take M).drop K = Cut.piece cs k) := by rw [hK]; exact piece_eq cs k M (by rw [HN.out]; omega)
      have HL : Hid (Cut.cutTo cs (k + 1) = Cut.cutTo cs k ++ [Cut.piece cs k]) := Cut.cutTo_succ cs k
      have HLL : Hid ((Cut.cutTo cs k).length = k) := Cut.cutTo_length cs k
      have HPL : Hid ((Cut.piece cs k).length ≤ 64) := Cut.piece_le cs k
      generalize Cut.piece cs k = c at HE HL HPL
      clear hM hK
      go_wp2_with (first
        | (refine wl_blenN (.tmp 7) rfl rfl v cs rfl h N HN.out ?_)
        | (refine wl_blenN (.tmp 16) rfl rfl v cs rfl h N HN.out ?_)
        | (refine wl_blit0 rfl rfl ?_; intro w2 r2 s2 b2; have R2 : Hid (BOwn w2 B (whole wr.heap.size 0) [] ∧ RSTo w w2 B u3 cs k ∧ (whole wr.heap.size 0).ownBlock = some wr.heap.size ∧ Below wr.heap.size wr w2) := ⟨whole_own (cs := []) r2 HV.out.2.2 (by simp), ⟨HV.out.1.later b2, HV.out.2.1.trans (b2.mono HV.out.2.2), Nat.le_trans HV.out.2.2 b2.size⟩, rfl, b2⟩; generalize hvl : whole wr.heap.size 0 = vl at R2 ⊢; clear hvl r2 s2 b2)
        | (refine wl_bsub (.tmp 14) (some (.tmp 15)) (some (.tmp 20)) none rfl rfl v cs rfl (HLT.out w2 R2.out.2.1.2.1) K M ⟨Or.inr ⟨_, rfl, rfl⟩, Or.inr ⟨_, rfl, HM.out, Or.inl rfl⟩, HML.out.1, HML.out.2⟩ ?_; intro v3 s3; rw [HE.out] at s3; have S3 : Hid (SliceIn w2 v3 c) := s3; clear s3)
        | (refine wl_bgrow (.tmp 13) (.tmp 21) rfl rfl B vl v3 [] c rfl R2.out.1 rfl S3.out (by have := HPL.out; simp; omega) R2.out.2.1.2.2 ?_; intro v4 w4 o4 g4; rw [R2.out.2.2.1] at g4; have b4 : Below wr.heap.size wr w4 := R2.out.2.2.2.trans ((Below.refl wr.heap.size w2).grown g4 R2.out.2.2.2.size (fun k hk => by injection hk; omega)); have R4 : Hid (BOwn w4 B v4 c ∧ RSTo w w4 B u3 cs k) := ⟨o4, HV.out.1.later b4, HV.out.2.1.trans (b4.mono HV.out.2.2), Nat.le_trans HV.out.2.2 b4.size⟩; clear o4 g4 b4)
        | (refine wl_rlit1 (.tmp 22) rfl rfl B v4 c rfl R4.out.1 ?_; intro w5 c5 b5; have R5 : Hid (w5.cell? ⟨w4.heap.size, 0, none⟩ = some v4 ∧ BOwn w5 B v4 c ∧ RSTo w w5 B u3 cs k) := ⟨c5, R4.out.1.later b5 (Nat.le_refl _), R4.out.2.1.later b5, R4.out.2.2.1.trans (b5.mono R4.out.2.2.2), Nat.le_trans R4.out.2.2.2 b5.size⟩; generalize w4.heap.size = gl at R5 ⊢; clear c5 b5)
        | (refine wl_rappend (.tmp 12) (.tmp 23) rfl rfl B u3 v4 (Cut.cutTo cs k) c gl rfl rfl R5.out.2.2.1 R5.out.2.1 R5.out.1 (by rw [HLL.out]; omega) R5.out.2.2.2.2 ?_; intro v6 w6 o6 b6; rw [← HL.out] at o6; have R6 : Hid (RSTo w w6 B v6 cs (k + 1)) := ⟨o6, R5.out.2.2.2.1.trans b6, Nat.le_trans R5.out.2.2.2.2 b6.size⟩; clear o6 b6))
      exact ⟨⟨k + 1, by omega, congrArg (Value.int .i64) (by have := HK.out; omega), R6.out⟩, by have := HK.out; simp [intOf]; omega⟩
    · have hlt' : ¬ (K : Int) < (N : Int) := by omega
      have HE : Hid (k = n) := by show _ = _; omega
      go_wp2_with (first
        | (refine wl_blenN (.tmp 7) rfl rfl v cs rfl h N HN.out ?_))
      go_ret
      refine ⟨u3, rfl, ?_⟩
      rw [← HB.out, ← HE.out]
      exact ⟨HV.out.1, HV.out.2.1⟩
theorem cut_bytes {cs : List Nat} (h : ∀ c ∈ cs, c < 256) : ∀ c ∈ Cut.cut cs, ∀ y ∈ c, y < 256 := fun c hc y hy => by
  obtain ⟨i, _, rfl⟩ := Cut.cutTo_mem cs _ c hc
  exact h y (Cut.piece_mem cs i y hy)
theorem leaves_lvs (cs : List Nat) : (Cut.cut cs).map Tree.leaf = Cut.leaves cs := by
  unfold Cut.cut Cut.leaves Cut.cutTo Cut.lvTo
  rw [List.map_map]
  rfl
set_option maxHeartbeats 2000000 in
set_option maxRecDepth 100000 in
theorem rleaves_any (v : Value) (cs : List Nat) (w : World) (h : SliceIn w v cs) (hlen : cs.length ≤ 140737488355328) :
    Calls Tryd.prog 43 #[v] w fun e w' => ∃ v', e = .returned v' ∧ HOwn w' w.heap.size v' (Cut.leaves cs) ∧ Below w.heap.size w w' := by
  have HM : Hid (∀ c ∈ cs, c < 256) := h.mem
  have HCB : Hid (∀ c ∈ Cut.cut cs, ∀ y ∈ c, y < 256) := cut_bytes HM.out
  have HCL : Hid (∀ k, k < (Cut.cut cs).length → ((Cut.cut cs).getD k []).length + 1024 ≤ 140737488355328) := fun k hk => by
    rw [Cut.cut_getD cs k (by rw [← Cut.cut_length]; exact hk)]
    have := Cut.piece_le cs k
    omega
  have hcm : (Cut.cut cs).length * 64 < 140737488355328 + 64 := by rw [Cut.cut_length]; unfold Cut.count; omega
  have HLV : Hid ((Cut.cut cs).map Tree.leaf = Cut.leaves cs) := leaves_lvs cs
  generalize hL : Cut.cut cs = L at HCB HCL hcm HLV
  have HLE : Hid (Cut.cut cs = L) := hL
  obtain ⟨N, hN⟩ : ∃ N, L.length = N := ⟨_, rfl⟩
  have HN : Hid (L.length = N) := hN
  rw [hN] at hcm HCL
  rw [← HLV.out]
  obtain ⟨B, hB⟩ : ∃ B, B = w.heap.size := ⟨_, rfl⟩
  have HB : Hid (B = w.heap.size) := hB
  rw [← hB]
  clear hN hL hB
  go_enter Tryd.func43, Tryd.ntmps43
  go_wp2_with (first
    | (go_at_call 20; refine (rsplit_any v cs w h hlen).mono ?_; rw [HLE.out]; rintro e w1 ⟨v1, rfl, o1, b1⟩; have R1 : Hid (ListIn w1 v1 L ∧ Below B w w1 ∧ B ≤ w1.heap.size) := ⟨o1.list HCB.out, by rw [HB.out]; exact b1, by rw [HB.out]; exact b1.size⟩; clear o1 b1)
    | (refine wl_lit0 rfl rfl w1.heap.size (Nat.le_refl _) ?_; intro v2 w2 o2 b2; have R2 : Hid (LvsIn w1 w2 v2 L 0) := ⟨o2, b2⟩; clear o2 b2))
  go_loopw [4, 5] (fun x i W => ∃ k : Nat, k ≤ N ∧ i = .int .i64 (k : Nat) ∧ LvsIn w1 W x L k) (fun _ i _ => N - (intOf i).toNat)
  case atStart => exact ⟨0, Nat.zero_le _, rfl, R2.out⟩
  case round =>
    clear R2
    obtain ⟨k, hk, rfl, hlv⟩ := hrel
    have HV : Hid (LvsIn w1 wr u4 L k) := hlv
    clear hlv
    by_cases hlt : k < N
    · have hlt' : (k : Int) < (N : Int) := by omega
      have HC : Hid ((L.getD k []).length + 1024 ≤ 140737488355328) := HCL.out k hlt
      have HE : Hid (lvs L (k + 1) = lvs L k ++ [Tree.leaf (L.getD k [])]) := lvs_succ L k (by have := HN.out; omega)
      have HK : Hid (k < L.length) := by have := HN.out; show _ < _; omega
      have HVL : Hid ((lvs L k).length = k) := lvs_length L k (by have := HN.out; omega)
      generalize hc : L.getD k [] = c at HC HE
      have HCE : Hid (L.getD k [] = c) := hc
      clear hc
      go_wp2_with (first
        | (refine wl_rlen (.tmp 10) rfl rfl v1 L rfl R1.out.1 N HN.out ?_)
        | (refine wl_rindex (.tmp 16) (.tmp 17) rfl rfl v1 L rfl (R1.out.1.later HV.out.2) k rfl HK.out ?_; intro b j vi hc hs; rw [HCE.out] at hs; have S1 : Hid (wr.cell? ⟨b, j, none⟩ = some vi ∧ SliceIn wr vi c) := ⟨hc, hs⟩; clear hc hs)
        | (refine wl_load1' one39 (.tmp 18) rfl rfl b j rfl vi S1.out.1 ?_)
        | (go_at_call 27; refine (refLeaf_any vi c wr S1.out.2 HC.out).mono ?_; rintro e w3 ⟨rfl, b3⟩; have R3 : Hid (Below wr.heap.size wr w3) := b3; clear b3)
        | (refine wl_lit1 (.tmp 20) rfl rfl (Tree.leaf c) (leaf_isH _) rfl ?_; intro v4 w4 s4 b4; have R4 : Hid (HIn w4 v4 [Tree.leaf c] ∧ Below wr.heap.size wr w4) := ⟨s4, below_append R3.out b4⟩; clear s4 b4)
        | (refine wl_append (.tmp 15) (.tmp 21) rfl rfl w1.heap.size u4 v4 (lvs L k) [Tree.leaf c] rfl (HV.out.1.later R4.out.2 (Nat.le_refl _)) rfl R4.out.1 (by rw [HVL.out]; simp; omega) (Nat.le_trans HV.out.2.size R4.out.2.size) ?_; intro v5 w5 o5 b5; have R5 : Hid (LvsIn w1 w5 v5 L (k + 1)) := ⟨by rw [HE.out]; exact o5, (below_append HV.out.2 R4.out.2).trans b5⟩; clear o5 b5))
      exact ⟨⟨k + 1, by omega, by go_num, R5.out⟩, by simp [intOf]; omega⟩
    · have hlt' : ¬ (k : Int) < (N : Int) := by omega
      have HE : Hid (k = L.length) := by have := HN.out; show _ = _; omega
      go_wp2_with (first
        | (refine wl_rlen (.tmp 10) rfl rfl v1 L rfl R1.out.1 N HN.out ?_))
      go_ret
      exact ⟨u4, rfl, by rw [← lvs_all, ← HE.out]; exact HV.out.1.weaken R1.out.2.2, R1.out.2.1.trans (HV.out.2.mono R1.out.2.2)⟩
set_option maxHeartbeats 1000000 in
set_option maxRecDepth 100000 in
theorem rroot_any (v : Value) (cs : List Nat) (w : World) (h : SliceIn w v cs) (hlen : cs.length ≤ 140737488355328) :
    Calls Tryd.prog 24 #[v] w fun e w' => e = .returned (hv (Cut.root cs)) ∧ Below w.heap.size w w' := by
  have HLN : Hid ((Cut.leaves cs).length = Cut.count cs.length) := Cut.leaves_length cs
  have hcm : Cut.count cs.length * 64 < 140737488355328 + 64 := by unfold Cut.count; omega
  have HRH : Hid (IsH (Cut.root cs)) := (leaves_allH cs).root
  have HRE : Hid (Cut.root cs = Tree.root (Cut.leaves cs)) := rfl
  generalize Cut.count cs.length = n at hcm HLN
  obtain ⟨g0, hg0⟩ : ∃ g0, g0 = w.heap.size := ⟨_, rfl⟩
  have G0 : Hid (g0 = w.heap.size) := hg0
  generalize Cut.root cs = r at HRH HRE ⊢
  go_enter Tryd.func24, Tryd.ntmps24
  go_upto_region 0 with fail
  refine wp_region_lit ?_
  refine wl_alloc rfl rfl ?_
  rw [← hg0]
  intro w1 r1 s1 b1
  refine wpList_nil ?_
  have R1 : Hid (HIs w1 g0 noH ∧ Below w.heap.size w w1) := ⟨r1, hg0 ▸ b1⟩
  clear r1 s1 b1 hg0
  go_wp2_with (first
    | (go_at_call 43; refine (rleaves_any v cs w1 (h.later R1.out.2) hlen).mono ?_; rintro e w2 ⟨v2, rfl, l2, b2⟩; have R2 : Hid (HIs w2 g0 noH ∧ Below w.heap.size w w2 ∧ HIn w2 v2 (Cut.leaves cs)) := ⟨R1.out.1.next b2, below_append R1.out.2 b2, l2.hin⟩; clear l2 b2)
    | (go_at_call 44; refine (refRoot_any n _ (Cut.leaves cs) w2 HLN.out (by omega) R2.out.2.2).mono ?_; rintro e w3 ⟨rfl, b3⟩; rw [← HRE.out]; have R3 : Hid (HIs w3 g0 noH ∧ Below w.heap.size w w3) := ⟨R2.out.1.next b3, below_append R2.out.2.1 b3⟩; clear b3)
    | (refine wl_store (.tmp 2) (.tmp 5) rfl rfl rfl g0 rfl noH r HRH.out rfl R3.out.1 ?_; intro w7 r7 o7 s7; have R7 : Hid (HIs w7 g0 r ∧ Below w.heap.size w w7) := ⟨r7, R3.out.2.trans (o7.below (Nat.le_of_eq G0.out.symm) R3.out.2.size)⟩; clear r7 o7 s7))
  exact bodyPost_ret (results_H Tryd.results24 _ _ g0 rfl _ R7.out.1) rfl ⟨rfl, R7.out.2⟩
set_option maxHeartbeats 1000000 in
set_option maxRecDepth 100000 in
theorem rproof_any (v : Value) (cs : List Nat) (i : Int) (w : World) (h : SliceIn w v cs) (hlen : cs.length ≤ 140737488355328) :
    Calls Tryd.prog 22 #[v, .int .i64 i] w fun e w' => Tells w (proofAns cs i) (proofErr cs i) e w' := by
  have HLN : Hid ((Cut.leaves cs).length ≤ 4398046511104) := by show _ ≤ _; rw [Cut.leaves_length]; unfold Cut.count; omega
  have HE : Hid (inclErr (Cut.leaves cs) i = proofErr cs i) := rfl
  generalize proofErr cs i = er at HE ⊢
  go_enter Tryd.func22, Tryd.ntmps22
  go_wp2_with (first
    | (go_at_call 43; refine (rleaves_any v cs w h hlen).mono ?_; rintro e w2 ⟨v2, rfl, l2, b2⟩; have R2 : Hid (Below w.heap.size w w2 ∧ HIn w2 v2 (Cut.leaves cs)) := ⟨b2, l2.hin⟩; clear l2 b2)
    | (go_at_call 42; refine (refIncl_any _ (Cut.leaves cs) i w2 R2.out.2 HLN.out).mono ?_; rw [HE.out]; rintro e w3 ⟨v3, rfl, o3, b3⟩; have R3 : Hid (HOwn w3 w.heap.size v3 (proofAns cs i) ∧ Below w.heap.size w w3) := ⟨o3.weaken R2.out.1.size, below_append R2.out.1 b3⟩; clear o3 b3))
  go_ret2
  exact ⟨v3, rfl, R3.out⟩
end Go.Proofs.YtfnncccioipjcaaDoor

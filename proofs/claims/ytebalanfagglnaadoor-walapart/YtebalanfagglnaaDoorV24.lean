/- Layer 8: bytes as a transaction. Layer 8: bytes as a transaction: the walk. Layer 8: sectors laid down, for good. Layer 8: which devices may hold a journal; how long a log is. -/
import Derived.Test.YtebalanfagglnaaDoorV23
import Derived.Test.YtebalanfagglnaaDoorV07
namespace Go.Proofs.YtebalanfagglnaaDoor
open Go.RowKit Go.Maps

/-- the records of these bytes -/
def recF : Nat → List Nat → Option (List (List Nat))
  | 0, _ => none
  | fuel + 1, b => if b = [] then some [] else if b.length < 2 then none else if (b.drop 2).length < Fr.Frame.val (b.take 2) then none else (recF fuel ((b.drop 2).drop (Fr.Frame.val (b.take 2)))).map ((b.drop 2).take (Fr.Frame.val (b.take 2)) :: ·)
def recordsOf (b : List Nat) : Option (List (List Nat)) := recF (b.length + 1) b
theorem recF_enough : ∀ (fuel fuel' : Nat) (b : List Nat), b.length < fuel → b.length < fuel' → recF fuel b = recF fuel' b := by
  intro fuel
  induction fuel with
  | zero => intro f' b h; omega
  | succ f ih =>
    intro f' b h h'
    cases f' with
    | zero => omega
    | succ f' =>
      unfold recF
      by_cases h0 : b = []
      · rw [if_pos h0, if_pos h0]
      · rw [if_neg h0, if_neg h0]
        by_cases h2 : b.length < 2
        · rw [if_pos h2, if_pos h2]
        · rw [if_neg h2, if_neg h2]
          by_cases h3 : (b.drop 2).length < Fr.Frame.val (b.take 2)
          · rw [if_pos h3, if_pos h3]
          · rw [if_neg h3, if_neg h3, ih f' _ (by simp; omega) (by simp; omega)]
theorem recordsOf_nil : recordsOf [] = some [] := rfl
theorem recordsOf_short (b : List Nat) (h0 : b ≠ []) (h : b.length < 2) : recordsOf b = none := by
  unfold recordsOf recF
  rw [if_neg h0, if_pos h]
theorem recordsOf_far (b : List Nat) (h : 2 ≤ b.length) (h3 : (b.drop 2).length < Fr.Frame.val (b.take 2)) : recordsOf b = none := by
  unfold recordsOf recF
  rw [if_neg (by intro e; rw [e] at h; simp at h), if_neg (by omega), if_pos h3]
theorem recordsOf_step (b : List Nat) (h : 2 ≤ b.length) (h3 : ¬ (b.drop 2).length < Fr.Frame.val (b.take 2)) : recordsOf b = (recordsOf ((b.drop 2).drop (Fr.Frame.val (b.take 2)))).map ((b.drop 2).take (Fr.Frame.val (b.take 2)) :: ·) := by
  unfold recordsOf
  conv => lhs; unfold recF
  rw [if_neg (by intro e; rw [e] at h; simp at h), if_neg (by omega), if_neg h3, recF_enough b.length (((b.drop 2).drop (Fr.Frame.val (b.take 2))).length + 1) _ (by simp; omega) (by omega)]
/-- rows that the call has made, one behind the other -/
def RowsTo (W : World) (base : Nat) (tv : Value) (D : List (List Nat)) : Prop :=
  ∃ us : List Value, W.ownsRow base 50 1 tv D.length us ∧ ∀ i, i < D.length → SliceIn W (us.getD i undef) (D.getD i []) ∧ ∀ b, (us.getD i undef).ownBlock = some b → tv.ownBlock ≠ some b ∧ b < W.heap.size ∧ base ≤ b
theorem RowsTo.nil (W : World) (base : Nat) : RowsTo W base (.slice none 0 0) [] := ⟨[], World.ownsRow_nil _ _ _ _, fun _ hi => absurd hi (Nat.not_lt_zero _)⟩
theorem RowsTo.later {W W' : World} {base : Nat} {tv : Value} {D : List (List Nat)} (h : RowsTo W base tv D) (hb : Below W.heap.size W W') : RowsTo W' base tv D := by
  obtain ⟨us, ho, hs⟩ := h
  exact ⟨us, ownK ho fun b hq => hb.block b (ho.lt b hq).2, fun i hi => ⟨(hs i hi).1.later hb, fun b hb' => ⟨((hs i hi).2 b hb').1, Nat.lt_of_lt_of_le ((hs i hi).2 b hb').2.1 hb.size, ((hs i hi).2 b hb').2.2⟩⟩⟩
theorem RowsTo.rows {W : World} {base : Nat} {tv : Value} {D : List (List Nat)} (h : RowsTo W base tv D) (hl : D.length ≤ 1099511627776) : RowsIn W tv D := by
  obtain ⟨us, ho, hs⟩ := h
  have hul : us.length = D.length := by have := ho.1; omega
  rcases ho.2 with ⟨rfl, h0⟩ | ⟨g, cap, cur, rfl, _, hg, hcap, _, _, htake⟩
  · obtain rfl : D = [] := List.length_eq_zero_iff.1 h0
    exact ⟨none, 0, rfl, by decide, Or.inl rfl⟩
  · refine ⟨_, cap, rfl, hl, Or.inr ⟨g, 0, rfl, fun i hi => ⟨us.getD i undef, ?_, (hs i hi).1⟩⟩⟩
    have h2 := ho.cells (g := g) rfl i (us.getD i undef) (by rw [List.getD_eq_getElem?_getD, List.getElem?_eq_getElem (by omega)]; rfl)
    rw [add_none] at h2
    exact h2
theorem run_lit30 {w : World} {a : Act} {o : Oper} (x : Operand) (ho : o.op = .buildSlice 28 1 #[(0, x)]) (u : Value) (hu : ∃ p n c, u = .slice p n c) (hx : a.eval x = u) : (execOp a.eval o).run Tryd.prog w = .ok (.value (.slice (some ⟨w.heap.size, 0, none⟩) 1 1)) (w.alloc (.cells #[u] 50)) := by
  obtain ⟨p, n, c, rfl⟩ := hu
  have hr : (Instr.buildSlice 28 1 #[(0, .slice p n c)]).run Tryd.prog w = .ok (.slice (some ⟨w.heap.size, 0, none⟩) 1 1) (w.alloc (.cells #[.slice p n c] 50)) := by kernel_rfl
  simp only [execOp, ho, List.map_toArray, List.map_cons, List.map_nil, hx, hr, Sem.run_bind, Sem.run_pure, Result.andThen_ok]
/-- one more row behind them: the literal, the append -/
theorem RowsTo.push {W : World} {base : Nat} {tv : Value} {D : List (List Nat)} (h : RowsTo W base tv D) (hbase : base ≤ W.heap.size) (hl : D.length ≤ 1000000) (u : Value) (r : List Nat) (hu : SliceIn W u r) (hub : ∀ b, u.ownBlock = some b → tv.ownBlock ≠ some b ∧ b < W.heap.size ∧ base ≤ b) :
    ∃ v' W', (Builtin.append_ #[28, 28] 28 #[tv, .slice (some ⟨W.heap.size, 0, none⟩) 1 1]).run Tryd.prog (W.alloc (.cells #[u] 50)) = .ok v' W' ∧ RowsTo W' base v' (D ++ [r]) ∧ Below base W W' ∧ (∀ b, b < W.heap.size → tv.ownBlock ≠ some b → W'.heap[b]? = W.heap[b]?) ∧ ∀ b, v'.ownBlock = some b → tv.ownBlock = some b ∨ W.heap.size ≤ b := by
  obtain ⟨us, ho, hs⟩ := h
  have hul : us.length = D.length := by have := ho.1; omega
  have b1 : Below W.heap.size W (W.alloc (.cells #[u] 50)) := below_alloc W _
  have z1 : (W.alloc (.cells #[u] 50)).heap.size = W.heap.size + 1 := World.size_alloc _ _
  have hrow : Row (W.alloc (.cells #[u] 50)) W.heap.size 50 [u] := Row.new W 50 [u]
  have ho1 : (W.alloc (.cells #[u] 50)).ownsRow base 50 1 tv D.length us := ownK ho fun b hq => b1.block b (ho.lt b hq).2
  have ho0 : (W.alloc (.cells #[u] 50)).ownsRow 0 50 1 tv D.length us := by
    obtain ⟨h1, h2⟩ := ho1
    refine ⟨h1, ?_⟩
    rcases h2 with h2 | ⟨g, cap, cur, e, h0, hg⟩
    · exact Or.inl h2
    · exact Or.inr ⟨g, cap, cur, e, Nat.zero_le _, hg⟩
  obtain ⟨p, l, cc, hus⟩ := hu.isSl
  obtain ⟨v', W', hrun, h2, h3, h5⟩ := app_one (w := W.alloc (.cells #[u] 50)) Tryd.underlying28 info51 30 tv D.length us ho0 W.heap.size u (by rw [hus]; rfl) hrow hl
  have hch : Ch (fun b => tv.ownBlock = some b) W W' := (Ch.of_below b1).grown h3 fun k hk => Or.inl hk
  have hz := h3.size
  have hvb : ∀ b, v'.ownBlock = some b → tv.ownBlock = some b ∨ W.heap.size + 1 ≤ b := fun b hb => by
    rcases h5 with e | e
    · exact Or.inl (by rw [← e]; exact hb)
    · rw [hb] at e; injection e with e; exact Or.inr (by omega)
  refine ⟨v', W', hrun, ⟨us ++ [u], ?_, fun i hi => ?_⟩, hch.below hbase fun i hi e => (by have := (ho.lt i e).1; omega), fun b hb hne => hch.block b hb hne, fun b hb => (hvb b hb).imp id (fun h => by omega)⟩
  · rw [List.length_append, List.length_singleton]
    obtain ⟨h1', h2'⟩ := h2
    refine ⟨h1', ?_⟩
    rcases h2' with h2' | ⟨g, cap, cur, e, h0, hg⟩
    · exact Or.inl h2'
    · refine Or.inr ⟨g, cap, cur, e, ?_, hg⟩
      rcases hvb g (by rw [e]; rfl) with h' | h'
      · exact (ho.lt g h').1
      · omega
  · have keep : ∀ v cs, SliceIn W v cs → (∀ b, v.ownBlock = some b → tv.ownBlock ≠ some b ∧ b < W.heap.size ∧ base ≤ b) → SliceIn W' v cs ∧ ∀ b, v.ownBlock = some b → v'.ownBlock ≠ some b ∧ b < W'.heap.size ∧ base ≤ b := fun v cs h1 h2 => ⟨sliceK h1 fun b hb hlt => hch.block b hlt (h2 b hb).1, fun b hb => ⟨fun e => by
      rcases hvb b e with h' | h'
      · exact (h2 b hb).1 h'
      · have := (h2 b hb).2.1; omega, by have := (h2 b hb).2.1; omega, (h2 b hb).2.2⟩⟩
    rw [List.length_append, List.length_singleton] at hi
    by_cases e : i = D.length
    · subst e
      have e1 : (us ++ [u]).getD D.length undef = u := by rw [List.getD_eq_getElem?_getD, List.getElem?_append_right (by omega), hul, Nat.sub_self]; rfl
      have e2 : (D ++ [r]).getD D.length [] = r := by rw [List.getD_eq_getElem?_getD, List.getElem?_append_right (by omega), Nat.sub_self]; rfl
      rw [e1, e2]
      exact keep u r hu hub
    · have e1 : (us ++ [u]).getD i undef = us.getD i undef := by rw [List.getD_eq_getElem?_getD, List.getElem?_append_left (by omega), ← List.getD_eq_getElem?_getD]
      have e2 : (D ++ [r]).getD i [] = D.getD i [] := by rw [List.getD_eq_getElem?_getD, List.getElem?_append_left (by omega), ← List.getD_eq_getElem?_getD]
      rw [e1, e2]
      exact keep _ _ (hs i (by omega)).1 (hs i (by omega)).2
end Go.Proofs.YtebalanfagglnaaDoor

namespace Go.Proofs.YtebalanfagglnaaDoor
open Go.RowKit Go.Maps

def slLen : Value → Nat
  | .slice _ n _ => n
  | _ => 0
theorem SliceIn.slLen {w : World} {v : Value} {cs : List Nat} (h : SliceIn w v cs) : slLen v = cs.length := by
  obtain ⟨p, cap, rfl, _⟩ := h
  rfl
theorem eN98 : EntersF 82 := Go.Proofs.enters_of Tryd.func82 (by kernel_rfl) rfl
theorem eN48 : EntersF 32 := Go.Proofs.enters_of Tryd.func32 (by kernel_rfl) rfl
theorem bytes_all (D : List (List Nat)) (n : Nat) (h : ∀ r ∈ D, r.length ≤ n) : bytesOf D ≤ D.length * n := by
  induction D with
  | nil => simp [bytesOf]
  | cons r D ih =>
    have h1 := h r (by simp)
    have h2 := ih fun x hx => h x (by simp [hx])
    unfold bytesOf at *
    simp only [List.map_cons, List.sum_cons, List.length_cons, Nat.add_mul]
    omega
/-- what is left, what is told -/
structure RecIn (w W : World) (b0 : List Nat) (vb tv : Value) (bs : List Nat) (D : List (List Nat)) : Prop where
  inb : SliceIn W vb bs
  done : RowsTo W w.heap.size tv D
  below : Below w.heap.size w W
  told : recordsOf b0 = (recordsOf bs).map (D ++ ·)
  small : 2 * D.length + bs.length ≤ b0.length
  recs : ∀ r ∈ D, r.length ≤ b0.length
set_option maxHeartbeats 2000000 in
set_option maxRecDepth 100000 in
theorem records_any (w : World) (v : Value) (b : List Nat) (h : SliceIn w v b) (hl : b.length ≤ 100000) : Calls Tryd.prog 75 #[v] w fun e w' => ∃ tv ok, e = .returned (.tuple #[tv, .bool ok]) ∧ Below w.heap.size w w' ∧ ((recordsOf b = none ∧ ok = false) ∨ ∃ tx, recordsOf b = some tx ∧ ok = !longTx tx ∧ RowsTo w' w.heap.size tv tx ∧ 2 * tx.length ≤ b.length) := by
  have H0 : Hid (RecIn w w b v (.slice none 0 0) b []) := ⟨h, RowsTo.nil w _, Below.refl _ _, by simp, by simp, fun r hr => by cases hr⟩
  clear h
  go_enter Tryd.func75, Tryd.ntmps75
  go_upto_region 1 with fail
  go_wp2_with fail
  go_loopw [0, 4] (fun vb tv W => ∃ bs D, RecIn w W b vb tv bs D) (fun vb _ _ => slLen vb)
  case atStart => exact ⟨_, _, H0.out⟩
  case round =>
    obtain ⟨bs, D, hR⟩ := hrel
    have HR : Hid (RecIn w wr b u0 u4 bs D) := hR
    have hsm := hR.small
    clear hR H0
    by_cases h0 : bs = []
    · have hlen : bs.length = 0 := by rw [h0]; rfl
      have HL : Hid (bs.length = 0) := hlen
      have HT : Hid (recordsOf b = some D) := by
        show _ = _
        rw [HR.out.told, h0, recordsOf_nil]
        simp
      have HRI : Hid (RowsIn wr u4 D) := HR.out.done.rows (by omega)
      have hby := bytes_all D b.length HR.out.recs
      have hby2 : D.length * b.length ≤ 100000 * 100000 := Nat.mul_le_mul (by omega) (by omega)
      have HLO : Hid (Calls Tryd.prog 32 #[u4] wr fun e w' => e = .returned (.bool (longTx D)) ∧ wr = w') := long_any wr u4 D HRI.out (by omega)
      obtain ⟨lg, hlg⟩ : ∃ lg, lg = longTx D := ⟨_, rfl⟩
      have HLG : Hid (lg = longTx D) := hlg
      rw [← hlg] at HLO
      clear h0 hlen hby hby2 hlg
      go_wp2_with (first | (refine wl_slS (.tmp 9) rfl rfl u0 bs HR.out.inb rfl ?_; rw [HL.out]) | (go_at_call 32; refine HLO.out.mono ?_; rintro e w2 ⟨rfl, rfl⟩))
      go_ret2
      exact ⟨u4, !lg, rfl, HR.out.below, Or.inr ⟨D, HT.out, by rw [HLG.out], HR.out.done, by omega⟩⟩
    · have hpos : 0 < bs.length := List.length_pos_iff.2 h0
      have H0' : Hid (bs ≠ []) := h0
      obtain ⟨ln, hln⟩ : ∃ ln, ln = bs.length := ⟨_, rfl⟩
      have HLN : Hid (ln = bs.length) := hln
      rw [← hln] at hpos hsm
      have t1 : decide ((0 : Int) < (ln : Int)) = true := decide_eq_true (by omega)
      clear h0 hln
      go_upto_region 3 with (refine wl_slS (.tmp 9) rfl rfl u0 bs HR.out.inb rfl ?_; rw [← HLN.out])
      refine wp_region_lit ?_
      refine wl_mv (.tmp 0) rfl rfl u0 rfl ?_
      simp only [Act.put, aS, aC, aZ]
      refine wpList_callF en78 [.tmp 13, .const (.int .i64 2)] _ rfl rfl [u0, .int .i64 ((2 : Nat) : Int)] rfl ?_
      by_cases h2 : bs.length < 2
      · refine (Fr.take_short u0 bs 2 wr HR.out.inb (by decide) (by decide) h2).mono ?_
        rintro e w2 ⟨rfl, rfl⟩
        refine ⟨_, rfl, ?_⟩
        have HT : Hid (recordsOf b = none) := by
          show _ = _
          rw [HR.out.told, recordsOf_short bs H0'.out h2]
          rfl
        go_wp2_with (refine wl_cv993 (.tmp 18) rfl rfl 0 (by decide) rfl ?_)
        go_ret2
        exact ⟨_, false, rfl, HR.out.below, Or.inl ⟨HT.out, rfl⟩⟩
      · refine (Fr.take_yes u0 bs 2 wr HR.out.inb (by decide) (by decide) (by omega) (by have := HLN.out; omega)).mono ?_
        rintro e w2 ⟨v2, rfl, o2, b2⟩
        refine ⟨_, rfl, ?_⟩
        have hmem : ∀ c ∈ bs, c < 256 := HR.out.inb.lt256
        obtain ⟨n, hn⟩ : ∃ n, n = Fr.Frame.val (bs.take 2) := ⟨_, rfl⟩
        have HN : Hid (n = Fr.Frame.val (bs.take 2)) := hn
        rw [← hn]
        obtain ⟨rs, hrs⟩ : ∃ rs, rs = bs.drop 2 := ⟨_, rfl⟩
        have HRS : Hid (rs = bs.drop 2 ∧ rs.length = ln - 2) := ⟨hrs, by rw [hrs, List.length_drop, HLN.out]⟩
        have hn1 : n < 65536 := by
          rw [hn]
          have := Fr.Frame.val_lt (bs.take 2) (fun c hc => hmem c (List.mem_of_mem_take hc))
          rw [List.length_take, show min 2 bs.length = 2 by omega] at this
          exact this
        have HS2 : Hid (SliceIn w2 v2 rs ∧ (∀ b, v2.ownBlock = some b → wr.heap.size ≤ b) ∧ Below wr.heap.size wr w2) := ⟨by rw [hrs]; exact BOwn.slice o2 (fun c hc => hmem c (List.mem_of_mem_drop hc)) (by rw [List.length_drop]; have := HLN.out; omega), fun b hb => (World.ownsRow.lt o2 b hb).1, b2⟩
        obtain ⟨rl, hrl⟩ : ∃ rl, rl = rs.length := ⟨_, rfl⟩
        have HRL : Hid (rl = rs.length) := hrl
        have hrl2 : rl = ln - 2 := by rw [hrl]; exact HRS.out.2
        have hge2 : 2 ≤ bs.length := by omega
        have HGE : Hid (2 ≤ bs.length) := hge2
        clear o2 b2 hmem hn hrs hrl h2 hge2
        by_cases hfar : rl < n
        · have HT : Hid (recordsOf b = none) := by
            show _ = _
            rw [HR.out.told, recordsOf_far bs HGE.out (by rw [← HRS.out.1, ← HRL.out, ← HN.out]; exact hfar)]
            rfl
          have t2 : decide ((rl : Int) < (n : Int)) = true := decide_eq_true (by omega)
          go_wp2_with (first | (refine wl_cv993 (.tmp 18) rfl rfl n (by omega) rfl ?_) | (refine wl_slS (.tmp 24) rfl rfl v2 rs HS2.out.1 rfl ?_; rw [← HRL.out]))
          go_ret2
          exact ⟨_, false, rfl, HR.out.below.trans (HS2.out.2.2.mono HR.out.below.size), Or.inl ⟨HT.out, rfl⟩⟩
        · have t2 : decide ((rl : Int) < (n : Int)) = false := decide_eq_false (by omega)
          have HT : Hid (recordsOf b = (recordsOf (rs.drop n)).map ((D ++ [rs.take n]) ++ ·)) := by
            show _ = _
            rw [HR.out.told, recordsOf_step bs HGE.out (by rw [← HRS.out.1, ← HRL.out, ← HN.out]; exact hfar), ← HRS.out.1, ← HN.out]
            cases recordsOf (rs.drop n) <;> simp
          go_upto_region 7 with (first | (refine wl_cv993 (.tmp 18) rfl rfl n (by omega) rfl ?_) | (refine wl_slS (.tmp 24) rfl rfl v2 rs HS2.out.1 rfl ?_; rw [← HRL.out]))
          refine wp_region_lit ?_
          refine wl_mv (.tmp 4) rfl rfl u4 rfl ?_
          simp only [Act.put, aS, aC, aZ]
          refine wl_mv (.tmp 6) rfl rfl v2 rfl ?_
          simp only [Act.put, aS, aC, aZ]
          refine wl_mv (.tmp 8) rfl rfl (.int .i64 (n : Nat)) rfl ?_
          simp only [Act.put, aS, aC, aZ]
          refine wl_mv (.tmp 8) rfl rfl (.int .i64 (n : Nat)) rfl ?_
          simp only [Act.put, aS, aC, aZ]
          refine wl_bsub (.tmp 29) none (some (.tmp 30)) (some (.tmp 31)) rfl rfl v2 rs rfl HS2.out.1 0 n ⟨Or.inl ⟨rfl, rfl⟩, Or.inr ⟨_, rfl, rfl, Or.inr rfl⟩, Nat.zero_le _, by rw [← HRL.out]; omega⟩ ?_
          intro pv hpv
          have HPV : Hid (SliceIn w2 pv (rs.take n)) := by rw [List.drop_zero] at hpv; exact hpv
          clear hpv
          simp only [Act.put, aS, aC, aZ]
          refine wpList_callF eN98 [.tmp 32] _ rfl rfl [pv] rfl ?_
          refine (Fr.told98 pv (rs.take n) w2 HPV.out (by rw [List.length_take, ← HRL.out]; omega)).mono ?_
          rintro e w3 ⟨u, rfl, o3, b3⟩
          refine ⟨_, rfl, ?_⟩
          have HU : Hid (SliceIn w3 u (rs.take n) ∧ SliceIn w3 v2 rs ∧ (∀ b, u.ownBlock = some b → w2.heap.size ≤ b ∧ b < w3.heap.size) ∧ RowsTo w3 w.heap.size u4 D ∧ Below w.heap.size w w3) := ⟨BOwn.slice o3 (fun c hc => HPV.out.lt256 c hc) (by rw [List.length_take, ← HRL.out]; omega), HS2.out.1.later b3, fun b hb => World.ownsRow.lt o3 b hb, (HR.out.done.later HS2.out.2.2).later b3, (HR.out.below.trans (HS2.out.2.2.mono HR.out.below.size)).trans (b3.mono (Nat.le_trans HR.out.below.size HS2.out.2.2.size))⟩
          have HSZ : Hid (wr.heap.size ≤ w2.heap.size ∧ w.heap.size ≤ wr.heap.size ∧ ∀ b, u4.ownBlock = some b → b < wr.heap.size) := ⟨HS2.out.2.2.size, HR.out.below.size, fun b hb => by obtain ⟨us, ho, _⟩ := HR.out.done; exact (ho.lt b hb).2⟩
          clear o3 b3 HPV
          have hsz := HSZ.out
          obtain ⟨v4, w4, hrun, hrt, hbel, hblk, _⟩ := HU.out.2.2.2.1.push HU.out.2.2.2.2.size (by omega) u (rs.take n) HU.out.1 (fun b hb => ⟨fun e => by have h1 := (HU.out.2.2.1 b hb).1; have h2 := hsz.2.2 b e; omega, (HU.out.2.2.1 b hb).2, by have h1 := (HU.out.2.2.1 b hb).1; omega⟩)
          have HRUN : Hid ((Builtin.append_ #[28, 28] 28 #[u4, .slice (some ⟨w3.heap.size, 0, none⟩) 1 1]).run Tryd.prog (w3.alloc (.cells #[u] 50)) = .ok v4 w4) := hrun
          have hv2lt : ∀ b, v2.ownBlock = some b → u4.ownBlock ≠ some b := fun b hb e => by have h1 := HS2.out.2.1 b hb; have h2 := hsz.2.2 b e; omega
          have HV2 : Hid (SliceIn w4 v2 rs) := sliceK HU.out.2.1 fun b hb hlt => hblk b hlt (hv2lt b hb)
          have HRT : Hid (RowsTo w4 w.heap.size v4 (D ++ [rs.take n]) ∧ Below w.heap.size w w4) := ⟨hrt, HU.out.2.2.2.2.trans hbel⟩
          clear hrun hrt hbel hblk hv2lt hsz
          simp only [Act.put, aS, aC, aZ]
          refine wl rfl _ _ (run_lit30 (.tmp 33) rfl u HU.out.1.isSl rfl) ?_
          simp only [Act.put, aS, aC, aZ]
          refine wl_app (.tmp 28) (.tmp 34) rfl rfl u4 _ v4 rfl rfl HRUN.out ?_
          simp only [Act.put, aS, aC, aZ]
          refine wl_as (.tmp 35) rfl rfl v4 rfl ?_
          simp only [Act.put, aS, aC, aZ]
          refine wpList_nil ?_
          go_upto_region 8 with fail
          refine wp_region_lit ?_
          refine wl_mv (.tmp 6) rfl rfl v2 rfl ?_
          simp only [Act.put, aS, aC, aZ]
          refine wl_mv (.tmp 8) rfl rfl (.int .i64 (n : Nat)) rfl ?_
          simp only [Act.put, aS, aC, aZ]
          refine wl_bsub (.tmp 36) (some (.tmp 37)) none none rfl rfl v2 rs rfl HV2.out n rs.length ⟨Or.inr ⟨_, rfl, rfl⟩, Or.inl ⟨rfl, rfl, rfl⟩, by rw [← HRL.out]; omega, Nat.le_refl _⟩ ?_
          intro v6 hv6
          have HV6 : Hid (SliceIn w4 v6 (rs.drop n)) := by rw [List.take_length] at hv6; exact hv6
          clear hv6
          simp only [Act.put, aS, aC, aZ]
          refine wl_as (.tmp 38) rfl rfl v6 rfl ?_
          simp only [Act.put, aS, aZ]
          refine wpList_nil ?_
          go_wp2_with fail
          refine ⟨⟨rs.drop n, D ++ [rs.take n], HV6.out, HRT.out.1, HRT.out.2, HT.out, by rw [List.length_append, List.length_singleton, List.length_drop, ← HRL.out]; have := HLN.out; have := HGE.out; omega, fun r hr => ?_⟩, ?_⟩
          · rcases List.mem_append.1 hr with h | h
            · exact HR.out.recs r h
            · rw [List.mem_singleton.1 h, List.length_take, ← HRL.out]; omega
          · rw [HV6.out.slLen, HR.out.inb.slLen, List.length_drop, ← HRL.out, ← HLN.out]
            omega
end Go.Proofs.YtebalanfagglnaaDoor

namespace Go.Proofs.YtebalanfagglnaaDoor
open Go.RowKit Go.Maps

/-- behind a call: the plant is as m', nothing else has turned -/
def Nx (w : World) (c : Nat → Colour) (t g : Nat) (m' : Pl) (w' : World) : Prop := ∃ c', (∀ b, b < w.heap.size → c' b = c b) ∧ Live w' c' t g m' ∧ Ch (fun b => (c b).1 = t) w w'
section
variable {w w1 w2 : World} {c c1 : Nat → Colour} {t g : Nat} {m m1 m2 : Pl}
theorem Next.nx (h : Next w c t g m w1) : Nx w c t g m w1 := by
  obtain ⟨c', h1, _, h3, h4⟩ := h
  exact ⟨c', h1, h3, h4⟩
theorem Nx.below (h : Live w c t g m) (hb : Below w.heap.size w w1) : Nx w c t g m w1 := ⟨c, fun _ _ => rfl, h.below hb, Ch.of_below hb⟩
theorem Nx.after (hcc : ∀ b, b < w.heap.size → c1 b = c b) (hch : Ch (fun b => (c b).1 = t) w w1) (h : Nx w1 c1 t g m2 w2) : Nx w c t g m2 w2 := by
  obtain ⟨c', h1, h3, h4⟩ := h
  refine ⟨c', fun b hb => by rw [h1 b (Nat.lt_of_lt_of_le hb hch.size), hcc b hb], h3, hch.trans' h4 fun b hb e => by rw [← hcc b hb]; exact e⟩
end
theorem SliceIn.block_lt {w : World} {v : Value} {cs : List Nat} (h : SliceIn w v cs) (hne : cs ≠ []) (b : Nat) (hb : v.ownBlock = some b) : b < w.heap.size := by
  obtain ⟨p, cap, rfl, _, h⟩ := h
  rcases h with h | ⟨b', off, rfl, h⟩
  · exact absurd h hne
  · have e : b' = b := by injection hb
    rw [← e]
    exact h.lt hne
theorem SliceIn.ap {w w1 : World} {S : Nat → Prop} {v : Value} {cs : List Nat} (h : SliceIn w v cs) (ha : cs ≠ [] → ∀ b, v.ownBlock = some b → ¬ S b) (hch : Ch S w w1) : SliceIn w1 v cs := by
  by_cases h0 : cs = []
  · obtain ⟨p, cap, rfl, hl, _⟩ := h
    exact ⟨p, cap, rfl, hl, Or.inl h0⟩
  · exact sliceK h fun b hb hlt => hch.block b hlt (ha h0 b hb)
/-- rows that are none of the plant's -/
def RowsAp (w : World) (c : Nat → Colour) (t : Nat) (v : Value) (L : List (List Nat)) : Prop :=
  ∃ p cap, v = .slice p L.length cap ∧ L.length ≤ 1099511627776 ∧ (L = [] ∨ ∃ b off, p = some ⟨b, off, none⟩ ∧ (c b).1 ≠ t ∧ ∀ i, i < L.length → ∃ u, w.cell? ⟨b, off + i, none⟩ = some u ∧ SliceIn w u (L.getD i []) ∧ (L.getD i [] ≠ [] → ∀ b', u.ownBlock = some b' → (c b').1 ≠ t))
theorem RowsFrom.ap {w : World} {base : Nat} {c : Nat → Colour} {t : Nat} {v : Value} {L : List (List Nat)} (h : RowsFrom w base v L) (hc : ∀ b, base ≤ b → (c b).1 ≠ t) : RowsAp w c t v L := by
  obtain ⟨p, cap, rfl, hl, h⟩ := h
  refine ⟨p, cap, rfl, hl, ?_⟩
  rcases h with h | ⟨b, off, rfl, hb, h⟩
  · exact Or.inl h
  · refine Or.inr ⟨b, off, rfl, hc b hb, fun i hi => ?_⟩
    obtain ⟨u, h1, h2, h3⟩ := h i hi
    exact ⟨u, h1, h2, fun _ b' hb' => hc b' (h3 b' hb')⟩
theorem RowsAp.kept {w w1 : World} {c c1 : Nat → Colour} {t : Nat} {v : Value} {L : List (List Nat)} (h : RowsAp w c t v L) (hcc : ∀ b, b < w.heap.size → c1 b = c b) (hch : Ch (fun b => (c b).1 = t) w w1) : RowsAp w1 c1 t v L := by
  obtain ⟨p, cap, rfl, hl, h⟩ := h
  refine ⟨p, cap, rfl, hl, ?_⟩
  rcases h with h | ⟨b, off, rfl, hb, h⟩
  · exact Or.inl h
  · by_cases h0 : L = []
    · exact Or.inl h0
    · have hblt : b < w.heap.size := by
        obtain ⟨u, h1, _⟩ := h 0 (List.length_pos_iff.2 h0)
        exact block_lt_of_cell h1
      refine Or.inr ⟨b, off, rfl, by rw [hcc b hblt]; exact hb, fun i hi => ?_⟩
      obtain ⟨u, h1, h2, h3⟩ := h i hi
      refine ⟨u, hch.cell hb h1, h2.ap h3 hch, fun hne b' hb' => ?_⟩
      rw [hcc b' (h2.block_lt hne b' hb')]
      exact h3 hne b' hb'
theorem RowsAp.at {w : World} {c : Nat → Colour} {t : Nat} {p : Option Addr} {n cap : Nat} {L : List (List Nat)} (h : RowsAp w c t (.slice p n cap) L) (k : Nat) (hk : k < L.length) : ∃ b off u, p = some ⟨b, off, none⟩ ∧ w.cell? ⟨b, off + k, none⟩ = some u ∧ SliceIn w u (L.getD k []) := by
  obtain ⟨p', cap', e, _, h⟩ := h
  injection e with e1 e2 e3
  subst e1
  rcases h with rfl | ⟨b, off, rfl, _, h⟩
  · exact absurd hk (Nat.not_lt_zero _)
  · obtain ⟨u, h1, h2, _⟩ := h k hk
    exact ⟨b, off, u, rfl, h1, h2⟩
/-- sectors laid down one behind the other, and flushed -/
def Pl.lay (m : Pl) (d : Int) (a : Nat) : List (List Nat) → Int × Pl
  | [] => m.flush d
  | s :: r => if (m.write d (a : Int) s).1 = 0 then (m.write d (a : Int) s).2.lay d (a + 1) r else m.write d (a : Int) s
theorem Pl.step_le (m : Pl) : m.step.steps ≤ m.steps + 1 := by
  unfold Pl.step
  split
  · exact Nat.le_succ _
  · exact Nat.le_refl _
theorem Pl.write_le (m : Pl) (d p : Int) (s : List Nat) : (m.write d p s).2.steps ≤ m.steps + 1 := by
  have := m.step_le
  unfold Pl.write
  repeat' split
  all_goals first
    | exact Nat.le_succ _
    | exact this
theorem Pl.flush_le (m : Pl) (d : Int) : (m.flush d).2.steps ≤ m.steps + 1 := by
  have := m.step_le
  unfold Pl.flush
  repeat' split
  all_goals first
    | exact Nat.le_succ _
    | exact this
theorem drop_cons (L : List (List Nat)) (k : Nat) (hk : k < L.length) : L.drop k = L.getD k [] :: L.drop (k + 1) := by
  rw [List.drop_eq_getElem_cons hk, List.getD_eq_getElem?_getD, List.getElem?_eq_getElem hk]
  rfl
/-- what holds ahead of each write -/
structure LayIn (w W : World) (c : Nat → Colour) (t g : Nat) (m : Pl) (d : Int) (a : Nat) (v : Value) (L : List (List Nat)) (k : Nat) (c' : Nat → Colour) (mk : Pl) : Prop where
  live : Live W c' t g mk
  cc : ∀ b, b < w.heap.size → c' b = c b
  ch : Ch (fun b => (c b).1 = t) w W
  rows : RowsAp W c' t v L
  told : m.lay d a L = mk.lay d (a + k) (L.drop k)
  steps : mk.steps ≤ m.steps + k
set_option maxHeartbeats 1000000 in
set_option maxRecDepth 100000 in
theorem lay_any {w : World} {c : Nat → Colour} {t g : Nat} {m : Pl} (h : Live w c t g m) (d : Int) (a : Nat) (v : Value) (L : List (List Nat)) (hr : RowsAp w c t v L) (hst : m.steps + L.length + 1 < 1099511627775) (ha : a ≤ 1000000) :
    Calls Tryd.prog 25 #[ptr g, .int .i64 d, .int .i64 (a : Nat), v] w fun e w' => e = .returned (.int .i64 (m.lay d a L).1) ∧ Nx w c t g (m.lay d a L).2 w' := by
  have H0 : Hid (LayIn w w c t g m d a v L 0 c m) := ⟨h, fun _ _ => rfl, Ch.refl _ _, hr, by simp, by omega⟩
  obtain ⟨p, cap, rfl, _, _⟩ := hr
  obtain ⟨n, hn⟩ : ∃ n, n = L.length := ⟨_, rfl⟩
  have HN : Hid (n = L.length) := hn
  rw [← hn] at hst H0 ⊢
  clear hn h
  go_enter Tryd.func25, Tryd.ntmps25
  go_upto_region 2 with (refine wl_sl sl30 (.tmp 12) rfl rfl p n cap rfl ?_)
  go_loopw [14] (fun i W => ∃ k : Nat, k ≤ n ∧ i = .int .i64 k ∧ ∃ c' mk, LayIn w W c t g m d a (.slice p n cap) L k c' mk) (fun i _ => n - (intOf i).toNat)
  case atStart => exact ⟨0, Nat.zero_le _, rfl, _, _, H0.out⟩
  case round =>
    obtain ⟨k, hk, rfl, c', mk, hI⟩ := hrel
    have HI : Hid (LayIn w wr c t g m d a (.slice p n cap) L k c' mk) := hI
    have hstk := hI.steps
    clear hI H0
    by_cases hlt : k < n
    · have t1 : decide ((k : Int) < (n : Int)) = true := decide_eq_true (by omega)
      obtain ⟨b, off, u, rfl, hc, hu⟩ := HI.out.rows.at k (by rw [← HN.out]; exact hlt)
      obtain ⟨s, hs⟩ : ∃ s, s = L.getD k [] := ⟨_, rfl⟩
      have HC : Hid (wr.cell? ⟨b, off + k, none⟩ = some u ∧ SliceIn wr u s) := ⟨hc, by rw [hs]; exact hu⟩
      have HT : Hid (m.lay d a L = if (mk.write d ((a + k : Nat) : Int) s).1 = 0 then (mk.write d ((a + k : Nat) : Int) s).2.lay d (a + k + 1) (L.drop (k + 1)) else mk.write d ((a + k : Nat) : Int) s) := by
        show _ = _
        rw [HI.out.told, drop_cons L k (by rw [← HN.out]; exact hlt), hs]
        rfl
      obtain ⟨er, her⟩ : ∃ er, er = (mk.write d ((a + k : Nat) : Int) s).1 := ⟨_, rfl⟩
      obtain ⟨M, hM⟩ : ∃ M, M = (mk.write d ((a + k : Nat) : Int) s).2 := ⟨_, rfl⟩
      have HEM : Hid (er = (mk.write d ((a + k : Nat) : Int) s).1 ∧ M = (mk.write d ((a + k : Nat) : Int) s).2) := ⟨her, hM⟩
      have HST : Hid (M.steps ≤ m.steps + (k + 1)) := by show _ ≤ _; rw [hM]; have := mk.write_le d ((a + k : Nat) : Int) s; omega
      have HW : Hid (Calls Tryd.prog 44 #[ptr g, .int .i64 d, .int .i64 ((a : Int) + (k : Int)), u] wr fun e w' => e = .returned (.int .i64 er) ∧ Next wr c' t g M w') := by
        rw [her, hM, show (a : Int) + (k : Int) = ((a + k : Nat) : Int) by omega]
        exact HI.out.live.write (by omega) d _ u s HC.out.2
      have kc := HC.out.1
      clear hc hu hs her hM
      by_cases he : er = 0
      · subst he
        go_upto_region 4 with (refine wl_ix (.tmp 12) (.tmp 14) rfl rfl _ _ _ rfl rfl (idx30 b off n cap k hlt) ?_)
        clear kc
        go_wp2_with (go_at_call 44; refine HW.out.mono ?_; rintro e w2 ⟨rfl, h2⟩; have R2 : Hid (Nx wr c' t g M w2) := h2.nx; clear h2)
        refine ⟨⟨k + 1, by omega, by go_num, ?_⟩, ?_⟩
        · obtain ⟨c2, q1, q2, q3⟩ := R2.out
          refine ⟨c2, M, q2, fun b hb => by rw [q1 b (Nat.lt_of_lt_of_le hb HI.out.ch.size), HI.out.cc b hb], HI.out.ch.trans' q3 fun b hb e => by rw [← HI.out.cc b hb]; exact e, HI.out.rows.kept q1 q3, ?_, HST.out⟩
          rw [HT.out, ← HEM.out.1, ← HEM.out.2, if_pos rfl, Nat.add_assoc]
        · simp [intOf]; omega
      · have t2 : (er != 0) = true := by simp [he]
        have t3 : decide (er = 0) = false := decide_eq_false he
        have t4 : (er == 0) = false := by simp [he]
        go_upto_region 4 with (refine wl_ix (.tmp 12) (.tmp 14) rfl rfl _ _ _ rfl rfl (idx30 b off n cap k hlt) ?_)
        clear kc
        go_wp2_with (go_at_call 44; refine HW.out.mono ?_; rintro e w2 ⟨rfl, h2⟩; have R2 : Hid (Nx wr c' t g M w2) := h2.nx; clear h2)
        go_ret
        have e1 : m.lay d a L = (er, M) := by
          rw [HT.out, ← HEM.out.1, if_neg he, HEM.out.1, HEM.out.2]
        rw [e1]
        exact ⟨rfl, Nx.after HI.out.cc HI.out.ch R2.out⟩
    · obtain rfl : n = k := by omega
      have t1 : decide ((n : Int) < (n : Int)) = false := decide_eq_false (by omega)
      have HT : Hid (m.lay d a L = mk.flush d) := by
        show _ = _
        rw [HI.out.told, HN.out, List.drop_length]
        rfl
      have HF : Hid (Calls Tryd.prog 45 #[ptr g, .int .i64 d] wr fun e w' => e = .returned (.int .i64 (m.lay d a L).1) ∧ Next wr c' t g (m.lay d a L).2 w') := by
        rw [HT.out]
        exact HI.out.live.flush (by omega) d
      obtain ⟨er, her⟩ : ∃ er, er = (m.lay d a L).1 := ⟨_, rfl⟩
      have HE : Hid (er = (m.lay d a L).1) := her
      rw [← her] at HF
      clear her
      go_wp2_with (go_at_call 45; refine HF.out.mono ?_; rintro e w2 ⟨rfl, h2⟩; have R2 : Hid (Nx wr c' t g (m.lay d a L).2 w2) := h2.nx; clear h2)
      go_ret
      exact ⟨by rw [← HE.out]; rfl, Nx.after HI.out.cc HI.out.ch R2.out⟩
end Go.Proofs.YtebalanfagglnaaDoor

namespace Go.Proofs.YtebalanfagglnaaDoor
open Go.RowKit Go.Maps

/-- how a plant's shape is told -/
def ShapeOf (m : Pl) (ds ts : List Nat) : Prop := m.sh = ds.map (fun n => (false, n)) ++ ts.map (fun n => (true, n))
theorem ShapeOf.n {m : Pl} {ds ts : List Nat} (h : ShapeOf m ds ts) : m.n = ds.length + ts.length := by unfold Pl.n; rw [h]; simp
theorem ShapeOf.disk {m : Pl} {ds ts : List Nat} (h : ShapeOf m ds ts) (i : Nat) (hi : i < ds.length) : m.tape i = false ∧ m.size i = ds.getD i 0 := by
  unfold Pl.tape Pl.size
  rw [h]
  simp [List.getElem?_append_left, hi]
theorem sized_disks {m : Pl} {ds ts : List Nat} (h : ShapeOf m ds ts) : sized false m.sh = ds.map fun n => .int .i64 (n : Nat) := by
  unfold sized
  rw [h, List.filter_append, List.map_append]
  have e1 : (ds.map fun n => (false, n)).filter (fun x => x.1 == false) = ds.map fun n => (false, n) := List.filter_eq_self.2 fun x hx => by
    obtain ⟨n, _, rfl⟩ := List.mem_map.1 hx
    rfl
  have e2 : (ts.map fun n => (true, n)).filter (fun x => x.1 == false) = [] := List.filter_eq_nil_iff.2 fun x hx => by
    obtain ⟨n, _, rfl⟩ := List.mem_map.1 hx
    exact Bool.false_ne_true
  rw [e1, e2, List.map_map, List.map_nil, List.append_nil]
  rfl
def holds (ds : List Nat) (d : Int) : Bool := decide (0 ≤ d ∧ d < (ds.length : Int) ∧ 8 ≤ ds.getD d.toNat 0)
theorem eN59 : EntersF 43 := Go.Proofs.enters_of Tryd.func43 (by kernel_rfl) rfl
theorem run_field50 {w : World} {a : Act} {o : Oper} (x : Operand) (ho : o.op = .field 53 x 0) (vd vt : Value) (h1 : ∃ p n c, vd = .slice p n c) (h2 : ∃ p n c, vt = .slice p n c) (hx : a.eval x = .agg #[vd, vt]) : (execOp a.eval o).run Tryd.prog w = .ok (.value vd) w := by
  obtain ⟨p, n, c, rfl⟩ := h1
  obtain ⟨p2, n2, c2, rfl⟩ := h2
  have hr : (Instr.field 53 (.agg #[.slice p n c, .slice p2 n2 c2]) 0).run Tryd.prog w = .ok (.slice p n c) w := by kernel_rfl
  simp [execOp, ho, hx, hr]
theorem sl31 : Tryd.prog.underlying 29 = some (.slice (Tryd.prog.elem 29)) := by kernel_rfl
set_option maxHeartbeats 1000000 in
set_option maxRecDepth 100000 in
theorem mayHold_any {w : World} {c : Nat → Colour} {t g : Nat} {m : Pl} (h : Live w c t g m) {ds ts : List Nat} (hsh : ShapeOf m ds ts) (d : Int) : Calls Tryd.prog 24 #[ptr g, .int .i64 d] w fun e w' => e = .returned (.bool (holds ds d)) ∧ Below w.heap.size w w' := by
  obtain ⟨⟨db, cap, gs, hP⟩, hwf, _⟩ := h
  have hC := shape_any hP hwf
  rw [sized_disks hsh] at hC
  have HC : Hid (Calls Tryd.prog 43 #[ptr g] w fun e w' => ∃ vd vt, e = .returned (.agg #[vd, vt]) ∧ w'.ownsRow w.heap.size 3 1 vd ds.length (ds.map fun n => .int .i64 (n : Nat)) ∧ (∃ p n c, vt = .slice p n c) ∧ Below w.heap.size w w') := hC.mono fun e w' ⟨vd, vt, h1, h2, h3, h4⟩ => ⟨vd, vt, h1, by rw [List.length_map] at h2; exact h2, own_isSlice h3, h4⟩
  obtain ⟨r, hr⟩ : ∃ r, r = holds ds d := ⟨_, rfl⟩
  have HR : Hid (r = holds ds d) := hr
  have hn12 : ds.length ≤ 12 := by have := hwf.few; have h2 := hsh.n; unfold Pl.n at h2; omega
  obtain ⟨n, hn⟩ : ∃ n, n = ds.length := ⟨_, rfl⟩
  have HN : Hid (n = ds.length) := hn
  rw [← hr]
  rw [← hn] at hn12 HC
  clear hP hwf hC hr hn
  go_enter Tryd.func24, Tryd.ntmps24
  go_upto_region 1 with fail
  refine wp_region_lit ?_
  refine wl_mv (.tmp 0) rfl rfl (ptr g) rfl ?_
  simp only [Act.put, aS, aC, aZ]
  refine wpList_callF eN59 [.tmp 6] _ rfl rfl [ptr g] rfl ?_
  refine HC.out.mono ?_
  rintro e w1 ⟨vd, vt, rfl, ho, hvt, hb⟩
  refine ⟨_, rfl, ?_⟩
  have R1 : Hid (w1.ownsRow w.heap.size 3 1 vd n (ds.map fun n => .int .i64 (n : Nat)) ∧ Below w.heap.size w w1) := ⟨ho, hb⟩
  simp only [Act.put, aS, aC, aZ]
  refine wl rfl vd w1 (run_field50 (.tmp 7) rfl vd vt (own_isSlice ho) hvt rfl) ?_
  clear ho hvt hb
  simp only [Act.put, aS, aC, aZ]
  refine wl_as (.tmp 8) rfl rfl vd rfl ?_
  simp only [Act.put, aS, aC, aZ]
  refine wpList_nil ?_
  go_upto_region 2 with fail
  by_cases h0 : 0 ≤ d
  · have t0 : decide (0 ≤ d) = true := decide_eq_true h0
    by_cases h1 : d < (n : Int)
    · have t1 : decide (d < (n : Int)) = true := decide_eq_true h1
      obtain ⟨i, hi⟩ : ∃ i : Nat, d = (i : Int) := ⟨d.toNat, by omega⟩
      subst hi
      have hin : i < n := by omega
      have hix := own_index R1.out.1 Tryd.underlying29 (by kernel_rfl) i hin
      obtain ⟨b, hbo, hih, hch⟩ := hix
      rw [Nat.mul_one] at hih
      obtain ⟨x, hx⟩ : ∃ x, x = ds.getD i 0 := ⟨_, rfl⟩
      have HX : Hid (x = ds.getD i 0) := hx
      have HIH : Hid (∀ w', (Instr.indexAt 29 vd (.int .i64 (i : Nat))).run Tryd.prog w' = .ok (.pointer (some ⟨b, i, none⟩)) w') := hih
      have kc : w1.cell? ⟨b, i, none⟩ = some (.int .i64 (x : Nat)) := by
        have h2 := hch 0 (by decide)
        rw [Nat.add_zero, Nat.mul_one] at h2
        rw [h2, hx]
        have hl := HN.out
        simp [show i < ds.length by omega]
      clear hbo hih hch hx
      by_cases h8 : 8 ≤ x
      · have er : r = true := by
          rw [HR.out]
          unfold holds
          rw [Int.toNat_natCast, ← HX.out, ← HN.out]
          exact decide_eq_true ⟨by omega, by omega, h8⟩
        subst er
        have t2 : decide ((8 : Int) ≤ (x : Int)) = true := decide_eq_true (by omega)
        go_wp2_with (first | (refine wl_olen (.tmp 13) 29 rfl rfl sl31 vd rfl R1.out.1 ?_) | (refine wl_ix (.tmp 18) (.tmp 19) rfl rfl vd _ _ rfl rfl HIH.out ?_))
        go_ret
        exact ⟨rfl, R1.out.2⟩
      · have er : r = false := by
          rw [HR.out]
          unfold holds
          rw [Int.toNat_natCast, ← HX.out, ← HN.out]
          exact decide_eq_false fun h => h8 h.2.2
        subst er
        have t2 : decide ((8 : Int) ≤ (x : Int)) = false := decide_eq_false (by omega)
        go_wp2_with (first | (refine wl_olen (.tmp 13) 29 rfl rfl sl31 vd rfl R1.out.1 ?_) | (refine wl_ix (.tmp 18) (.tmp 19) rfl rfl vd _ _ rfl rfl HIH.out ?_))
        go_ret
        exact ⟨rfl, R1.out.2⟩
    · have t1 : decide (d < (n : Int)) = false := decide_eq_false h1
      have er : r = false := by
        rw [HR.out]
        unfold holds
        rw [← HN.out]
        exact decide_eq_false fun h => h1 h.2.1
      subst er
      go_wp2_with (first | (refine wl_olen (.tmp 13) 29 rfl rfl sl31 vd rfl R1.out.1 ?_))
      go_ret
      exact ⟨rfl, R1.out.2⟩
  · have t0 : decide (0 ≤ d) = false := decide_eq_false h0
    have er : r = false := by
      rw [HR.out]
      unfold holds
      exact decide_eq_false fun h => h0 h.1
    subst er
    go_wp2_with fail
    go_ret
    exact ⟨rfl, R1.out.2⟩
set_option maxRecDepth 100000 in
theorem logSize_any {w : World} {c : Nat → Colour} {t g : Nat} {m : Pl} (h : Live w c t g m) (hst : m.steps < 1099511627775) {ds ts : List Nat} (hsh : ShapeOf m ds ts) (i : Nat) (hi : i < ds.length) (h1 : 1 ≤ ds.getD i 0) : Calls Tryd.prog 27 #[ptr g, .int .i64 (i : Nat)] w fun e w' => e = .returned (.int .i64 ((ds.getD i 0 - 1 : Nat) : Int)) ∧ Below w.heap.size w w' := by
  have hlen := h.len hst (i : Int)
  have hd := hsh.disk i hi
  have hhas : m.has (i : Int) := by unfold Pl.has; have := hsh.n; omega
  rw [if_pos hhas, if_pos hhas, Int.toNat_natCast] at hlen
  have hml : m.len i = ds.getD i 0 := by unfold Pl.len; rw [hd.1, hd.2]; rfl
  rw [hml] at hlen
  have h4096 : ds.getD i 0 ≤ 4096 := by have := (h.2.1.sizes i (by have := hsh.n; unfold Pl.n at this; omega)).2; rw [hd.2] at this; exact this
  obtain ⟨x, hx⟩ : ∃ x, x = ds.getD i 0 := ⟨_, rfl⟩
  rw [← hx] at hlen h1 h4096 ⊢
  have HL : Hid (Calls Tryd.prog 46 #[ptr g, .int .i64 (i : Int)] w fun e w' => e = .returned (.tuple #[.int .i64 (x : Nat), .int .i64 0]) ∧ Below w.heap.size w w') := hlen.mono fun e w' ⟨h1, n, h2⟩ => ⟨h1, by rw [h2]; exact ⟨rfl, rfl, rfl, Nat.le_refl _, fun _ _ => rfl⟩⟩
  clear hlen hd hhas hml hx h
  go_enter Tryd.func27, Tryd.ntmps27
  go_wp2_with (go_at_call 46; refine HL.out.mono ?_; rintro e w1 ⟨rfl, h1⟩; have R1 : Hid (Below w.heap.size w w1) := h1; clear h1)
  go_ret
  refine ⟨?_, R1.out⟩
  rw [show ((x - 1 : Nat) : Int) = (x : Int) - 1 by omega]
  rfl
end Go.Proofs.YtebalanfagglnaaDoor

/- Bytes read as a number; a copy; sizes; two rows held against one another; bytes spoilt. -/
import Derived.Test.YtflabbladikhbabDoorCalls
namespace Go.Proofs.YtflabbladikhbabDoor
open Go.RowKit

/-! a number -/
theorem u64_step (n c : Nat) (hn : n < 72057594037927936) (hc : c < 256) : bits BinOp.or IntKind.u64 (IntKind.u64.wrap ((n : Int) * 256)) (IntKind.u64.wrap (c : Int)) = ((n * 256 + c : Nat) : Int) := by
  have e1 : IntKind.u64.wrap ((n : Int) * 256) = ((n * 256 : Nat) : Int) := by rw [IntKind.wrap_u64]; omega
  have e2 : IntKind.u64.wrap (c : Int) = (c : Int) := by rw [IntKind.wrap_u64]; omega
  rw [e1, e2, u64_or_nat _ _ (by omega) (by omega)]
  have := Nat.two_pow_add_eq_or_of_lt (i := 8) (b := c) (by omega) n
  rw [show (2 : Nat) ^ 8 = 256 from rfl] at this
  rw [Nat.mul_comm n, this]
theorem val_take_lt (cs : List Nat) (hb : ∀ j : Nat, cs.getD j 0 < 256) (k : Nat) (hk : k ≤ 7) : Frame.val (cs.take k) < 72057594037927936 := by
  have h1 := Frame.val_lt (cs.take k) fun c hc => Frame.mem_lt hb c (List.mem_of_mem_take hc)
  have h2 : (cs.take k).length ≤ 7 := by simp; omega
  have h3 : 256 ^ (cs.take k).length ≤ 256 ^ 7 := Nat.pow_le_pow_right (by decide) h2
  omega
theorem val_take_succ (cs : List Nat) (k : Nat) (h : k < cs.length) : Frame.val (cs.take (k + 1)) = Frame.val (cs.take k) * 256 + cs[k] := by
  rw [List.take_succ_eq_append_getElem h, Frame.val_snoc]

set_option maxHeartbeats 400000 in
theorem value_some (b off cap : Nat) (cs : List Nat) (w : World) (hl : cs.length ≤ 8) (h : BytesIn w b off cs) :
    Calls Tryd.prog 14 #[.slice (some ⟨b, off, none⟩) cs.length cap] w fun e w' => e = .returned (.int .u64 (Frame.val cs : Nat)) ∧ w' = w := by
  obtain ⟨hc, hb⟩ := h
  go_enter Tryd.func14, Tryd.ntmps14
  go_wp2
  go_loop [3, 5, 8] (fun n c i => ∃ k : Nat, k ≤ cs.length ∧ i = .int .i64 k ∧ n = .int .u64 (Frame.val (cs.take k) : Nat)) (fun _ _ i => cs.length - (intOf i).toNat)
  case atStart => exact ⟨0, Nat.zero_le _, rfl, rfl⟩
  case round =>
    obtain ⟨k, hk, rfl, rfl⟩ := hrel
    by_cases hlt : k < cs.length
    · have hck := hc k hlt
      have HS : Hid (bits BinOp.or IntKind.u64 (IntKind.u64.wrap ((Frame.val (cs.take k) : Nat) * 256)) (IntKind.u64.wrap (cs[k] : Nat)) = ((Frame.val (cs.take (k + 1)) : Nat) : Int)) := by
        have h1 := u64_step (Frame.val (cs.take k)) cs[k] (val_take_lt cs hb k (by omega)) (Frame.mem_lt hb _ (List.getElem_mem hlt))
        rw [← val_take_succ cs k hlt] at h1
        exact h1
      clear hc hb
      go_wp2
      refine ⟨⟨k + 1, by omega, by go_num, by rw [HS.out]⟩, ?_⟩
      simp [intOf]; omega
    · go_wp2
      go_ret
      exact ⟨by rw [show k = cs.length by omega, List.take_length]; rfl, rfl⟩
set_option maxHeartbeats 400000 in
theorem value_none (p : Option Addr) (cap : Nat) (w : World) :
    Calls Tryd.prog 14 #[.slice p 0 cap] w fun e w' => e = .returned (.int .u64 0) ∧ w' = w := by
  go_enter Tryd.func14, Tryd.ntmps14
  go_wp2
  go_loop [3, 5, 8] (fun n c i => i = .int .i64 0 ∧ n = .int .u64 0) (fun _ _ i => 0)
  case atStart => exact ⟨rfl, rfl⟩
  case round =>
    obtain ⟨rfl, rfl⟩ := hrel
    go_wp2
    go_ret
    exact ⟨rfl, rfl⟩
theorem value_any (v : Value) (cs : List Nat) (w : World) (h : SliceIn w v cs) (hl : cs.length ≤ 8) :
    Calls Tryd.prog 14 #[v] w fun e w' => e = .returned (.int .u64 (Frame.val cs : Nat)) ∧ w = w' := by
  obtain ⟨p, cap, rfl, hl', h⟩ := h
  rcases h with rfl | ⟨b, off, rfl, h⟩
  · exact (value_none p cap w).mono fun e w' h => ⟨h.1, h.2.symm⟩
  · exact (value_some b off cap cs w hl h).mono fun e w' h => ⟨h.1, h.2.symm⟩

/-! a size -/
theorem sizeHolds_yes (s : Int) (w : World) (h1 : 1 ≤ s) (h2 : s ≤ 8) : Calls Tryd.prog 13 #[.int .i64 s] w fun e w' => e = .returned (.bool true) ∧ w = w' := by
  go_enter Tryd.func13, Tryd.ntmps13
  go_wp2
  go_ret
  exact ⟨rfl, rfl⟩
theorem sizeHolds_no (s : Int) (w : World) (h : s < 1 ∨ 8 < s) : Calls Tryd.prog 13 #[.int .i64 s] w fun e w' => e = .returned (.bool false) ∧ w = w' := by
  rcases h with h | h
  · have hd : decide (1 ≤ s) = false := by simpa using h
    go_enter Tryd.func13, Tryd.ntmps13
    go_wp2
    go_ret
    exact ⟨rfl, rfl⟩
  · have hd : decide (s ≤ 8) = false := by simpa using h
    have h1 : 1 ≤ s := by omega
    go_enter Tryd.func13, Tryd.ntmps13
    go_wp2
    go_ret
    exact ⟨rfl, rfl⟩

section
variable {w : World} {ops : Array Oper} {rest : List Oper} {o : Oper} {a : Act} {Q : Exit → Act → World → Prop}
/-- make([]byte, n) -/
theorem wpList_makeN (l c : Operand) (hgd : o.guard = none) (ho : o.op = .makeSlice 22 l c) (base n : Nat) (L C : Int) (hl : a.eval l = .int .i64 L) (hc : a.eval c = .int .i64 C) (hL : L = (n : Int)) (hC : C = (n : Int)) (hn : n ≤ 281474976710656) (hb : base ≤ w.heap.size)
    (h : ∀ v' w', BOwn w' base v' (List.replicate n 0) → Below w.heap.size w w' → wpList Tryd.prog ops Q rest (a.put o.dst v') w') : wpList Tryd.prog ops Q (o :: rest) a w := by
  obtain ⟨i, hi, hz0, hz1, hz2⟩ := info_parts info5
  refine wpList_make_full w hgd l c 22 ho base 5 i (.int .u8 0) 1 Tryd.underlying22 hi hz0 hz1 .i64 .i64 L C n hl hc hL hC (by rw [hz2]; omega) (by unfold maxLen; omega) hb ?_
  intro w' hown hg
  refine h _ w' ?_ ((Below.refl w.heap.size w).grown hg (Nat.le_refl _) fun k hk => by cases hk)
  unfold BOwn
  have e : bcells (List.replicate n 0) = (madeCells (Value.int IntKind.u8 0).cells (n * 1)).toList := by
    apply List.ext_getElem
    · rw [bcells_length]
      simp [madeCells, Value.cells]
    · intro j h1 h2
      simp [bcells, madeCells, Value.cells, Nat.mod_one]
  rw [e, List.length_replicate]
  exact hown
/-- the whole of a row of the call's own written over -/
theorem wpList_copyFull (d s : Operand) (hgd : o.guard = none) (ho : o.op = .call { callee := .builtin .copy, args := #[d, s], argTypes := #[22, 22] })
    (base : Nat) (v vx : Value) (zs cs : List Nat) (hd : a.eval d = v) (hown : BOwn w base v zs) (hs : a.eval s = vx) (hin : SliceIn w vx cs) (hlen : zs.length = cs.length)
    (h : ∀ w' r, BOwn w' base v cs → w.grownBy w' v.ownBlock → wpList Tryd.prog ops Q rest (a.put o.dst r) w') : wpList Tryd.prog ops Q (o :: rest) a w := by
  obtain ⟨p, cap, rfl, hl, hin⟩ := hin
  by_cases h0 : cs = []
  · subst h0
    obtain rfl : zs = [] := List.length_eq_zero_iff.1 hlen
    have hg0 : w.grownBy w v.ownBlock := World.grownBy.refl w _
    rcases hown.2 with ⟨rfl, _⟩ | ⟨g, cap', cur, rfl, _⟩
    · exact wpList_copy_nothing hgd d s 22 22 ho 5 Tryd.underlying22 size5 none p 0 0 _ cap hd hs rfl (h w _ hown hg0)
    · exact wpList_copy_nothing hgd d s 22 22 ho 5 Tryd.underlying22 size5 _ p _ _ _ cap hd hs rfl (h w _ hown hg0)
  · rcases hin with rfl | ⟨b, off, rfl, hc, _⟩
    · exact absurd rfl h0
    have hpos : 0 < cs.length := by cases cs <;> simp_all
    rcases hown.2 with ⟨rfl, hz⟩ | ⟨g, cap', cur, rfl, hbg, hg, hcap, hmax, hsz, htake⟩
    · omega
    refine wpList_copy_own hgd d s 22 22 ho 5 Tryd.underlying22 size5 g 0 zs.length cap' ⟨b, off, none⟩ cs.length cap hd hs cur 5 hg (bcells cs) (by rw [bcells_length, hlen]; exact (Nat.min_self _).symm) (fun j u hu => ?_) (by rw [bcells_length]; omega) (bcells_one cs) ?_
    · have hj : j < cs.length := by
        have := (List.getElem?_eq_some_iff.1 hu).1
        rwa [bcells_length] at this
      rw [add_none, hc j hj, ← hu, bcells_at cs j hj]
    · refine h _ _ ⟨by rw [bcells_length]; omega, Or.inr ⟨g, cap', _, by rw [hlen], hbg, setRow_heap w g _ _ 5 (0, 0) hg, by omega, hmax, ?_, ?_⟩⟩ ⟨rfl, rfl, rfl, by simp, fun k _ hk => setRow_other w g k _ (fun e => hk (by rw [e]; rfl))⟩
      · simp [bcells_length]
        omega
      · simp [bcells_length]
theorem wpList_string (x : Operand) (hgd : Region.wanted o (yielded ops a.tmps) = true) (ho : o.op = .convert 22 9 x) (v : Value) (cs : List Nat) (hx : a.eval x = v) (hin : SliceIn w v cs)
    (h : wpList Tryd.prog ops Q rest (a.put o.dst (.string (strOfNums (cs.map Int.ofNat)))) w) : wpList Tryd.prog ops Q (o :: rest) a w := by
  refine wpList_value hgd _ w ?_ h
  have hr : (convert 22 9 v).run Tryd.prog w = .ok (.string (strOfNums (cs.map Int.ofNat))) w := by
    obtain ⟨p, cap, rfl, hl, hin⟩ := hin
    rcases hin with rfl | ⟨b, off, rfl, hc, _⟩
    · cases p with
      | none => exact run_convert_bytes_nil w 22 5 Tryd.underlying22 Tryd.underlying5 _ _ 9 Tryd.underlying9
      | some ad =>
        rw [run_convert_bytes_string w 22 9 5 (some ad) _ cap Tryd.underlying22 Tryd.underlying5 Tryd.underlying9]
        simp [Conv.bytesToString, strOfNums, loadCells]
        rfl
    · refine run_convert_bytes_arg w 22 5 Tryd.underlying22 Tryd.underlying5 b off cs.length cap (cs.map Int.ofNat) (by simp) (fun i hi => ?_) 9 Tryd.underlying9
      rw [hc i hi]
      simp [hi]
  simp [execOp, ho, hx, hr]
/-- append, and where its result lies: where it lay, or in a new block -/
theorem wpList_append_apart (sv x : Operand) (hgd : Region.wanted o (yielded ops a.tmps) = true) (ho : o.op = .call { callee := .builtin .append, args := #[sv, x], argTypes := #[22, 22] })
    (base : Nat) (v vx : Value) (cs ys : List Nat) (hs : a.eval sv = v) (hown : BOwn w base v cs) (hsome : v.ownBlock ≠ none) (hx : a.eval x = vx) (hin : SliceIn w vx ys)
    (hsz : cs.length + ys.length ≤ 140737488355328) (hbase : base ≤ w.heap.size)
    (h : ∀ v' w', BOwn w' base v' (cs ++ ys) → w.grownBy w' v.ownBlock → (v'.ownBlock = v.ownBlock ∨ v'.ownBlock = some w.heap.size) → wpList Tryd.prog ops Q rest (a.put o.dst v') w') : wpList Tryd.prog ops Q (o :: rest) a w := by
  obtain ⟨i, hi, hz0, hz1, hz2⟩ := info_parts info5
  obtain ⟨p, cap, rfl, hl, hin⟩ := hin
  rcases hown.2 with ⟨rfl, h0⟩ | ⟨g, cap', cur, rfl, hbg, hg, hcap, hmax, hcs, htake⟩
  · exact absurd rfl hsome
  have hgo : ∀ ad : Addr, (∀ j u, (bcells ys)[j]? = some u → w.cell? (ad.add j) = some u) → p = some ad → wpList Tryd.prog ops Q (o :: rest) a w := by
    rintro ad hnews rfl
    have hnl : (bcells ys).length = ys.length * i.size := by rw [bcells_length, hz1]; omega
    obtain ⟨v', w', hr, ho', hgr, _⟩ := run_append_own (P := Tryd.prog) (w := w) base 22 o.type 5 i (.int .u8 0) 1 1 Tryd.underlying22 hi hz0 hz1 hz2 rfl (by decide) _ cs.length (bcells cs) hown
      ad ys.length cap (bcells ys) (by simp [bcells_length]) hnews (bcells_one ys) (by unfold maxLen; omega) (by omega) hbase
    have hblk : v'.ownBlock = (Value.slice (some ⟨g, 0, none⟩) cs.length cap').ownBlock ∨ v'.ownBlock = some w.heap.size := by
      by_cases hroom : cs.length + ys.length ≤ cap'
      · have hr2 := run_append_room (P := Tryd.prog) w 22 o.type 5 i Tryd.underlying22 hi g cs.length cap' cur hg ad ys.length cap (bcells ys) hnl hnews (bcells_one ys) hroom (by rw [hnl, hz1, hcs]; omega)
        rw [hr] at hr2
        left
        injection hr2 with e1 e2
        rw [e1]
        rfl
      · have hr2 := run_append_grow (P := Tryd.prog) w 22 o.type 5 i (.int .u8 0) Tryd.underlying22 hi hz0 ⟨g, 0, none⟩ cs.length cap' (bcells cs) (by rw [bcells_length, hz1]; omega) (hown.cells (g := g) rfl) ad ys.length cap (bcells ys) hnl hnews (by omega) (by omega) (growslice_fits (by omega) (by rw [hz2]; omega))
        rw [hr] at hr2
        right
        injection hr2 with e1 e2
        rw [e1]
        rfl
    refine wpList_value hgd v' w' ?_ (h v' w' ?_ hgr hblk)
    · simp only [execOp, ho, resolve, invoke, builtin, Sem.run_bind, Sem.run_pure, Result.andThen_ok, List.map_toArray, List.map_cons, List.map_nil, hs, hx, hr]
    · unfold BOwn
      rw [bcells_append, List.length_append]
      exact ho'
  rcases hin with rfl | ⟨b, off, rfl, hc, _⟩
  · cases p with
    | none =>
      have hrun : (Builtin.append_ #[22, 22] o.type #[.slice (some ⟨g, 0, none⟩) cs.length cap', .slice none ([] : List Nat).length cap]).run Tryd.prog w = .ok (.slice (some ⟨g, 0, none⟩) cs.length cap') w := by
        simp [Builtin.append_, run_underlying Tryd.underlying22, sizeOf, typeInfo, hi, Builtin.lenOf, Builtin.firstCells, hcap, storeCells]
      refine wpList_value hgd _ w ?_ (h _ w ?_ ⟨rfl, rfl, rfl, Nat.le_refl _, fun _ _ _ => rfl⟩ (Or.inl rfl))
      · simp only [execOp, ho, resolve, invoke, builtin, Sem.run_bind, Sem.run_pure, Result.andThen_ok, List.map_toArray, List.map_cons, List.map_nil, hs, hx, hrun]
      · rw [List.append_nil]
        exact hown
    | some ad => exact hgo ad (by intro j u hu; simp [bcells] at hu) rfl
  · refine hgo ⟨b, off, none⟩ (fun j u hu => ?_) rfl
    have hj : j < ys.length := by
      have := (List.getElem?_eq_some_iff.1 hu).1
      rwa [bcells_length] at this
    rw [add_none, hc j hj, ← hu, bcells_at ys j hj]

/-- an element's address -/
theorem wpList_index (x i : Operand) (hgd : Region.wanted o (yielded ops a.tmps) = true) (ho : o.op = .indexAddr 22 x i) (v : Value) (cs : List Nat) (hx : a.eval x = v) (hin : SliceIn w v cs) (k : Nat) (hk : k < cs.length) (I : Int) (hi : a.eval i = .int .i64 I) (hI : I = (k : Int))
    (h : ∀ b j, v.ownBlock = some b → (∀ g n c, v = .slice (some ⟨g, 0, none⟩) n c → b = g ∧ j = k) → w.cell? ⟨b, j, none⟩ = some (.int .u8 (cs.getD k 0 : Nat)) → wpList Tryd.prog ops Q rest (a.put o.dst (.pointer (some ⟨b, j, none⟩))) w) : wpList Tryd.prog ops Q (o :: rest) a w := by
  subst hI
  obtain ⟨p, cap, rfl, hl, hin⟩ := hin
  rcases hin with rfl | ⟨b, off, rfl, hc, _⟩
  · simp at hk
  obtain ⟨i5, hi5, hsz⟩ := Option.map_eq_some_iff.1 size5
  refine wpList_value hgd (.pointer (some ⟨b, off + k, none⟩)) w ?_ (h b (off + k) rfl (fun g n c e => ?_) (hc k hk))
  · have hr : (Instr.indexAt 22 (.slice (some ⟨b, off, none⟩) cs.length cap) (.int .i64 (k : Nat))).run Tryd.prog w = .ok (.pointer (some ⟨b, off + k, none⟩)) w := by
      simp [Instr.indexAt, asIntOf, run_underlying Tryd.underlying22, hk, sizeOf, typeInfo, hi5, hsz, add_none]
    simp only [execOp, ho, hx, hi, hr, Sem.run_bind, Sem.run_pure, Result.andThen_ok]
  · injection e with e1 e2 e3
    injection e1 with e1
    injection e1 with e4 e5
    exact ⟨e4, by omega⟩
end
theorem BOwn.set {w : World} {base : Nat} {v : Value} {cs : List Nat} (h : BOwn w base v cs) (g : Nat) (hg : v.ownBlock = some g) (k c : Nat) :
    BOwn (w.setCell ⟨g, k, none⟩ (.int .u8 (c : Nat))) base v (cs.set k c) ∧ w.grownBy (w.setCell ⟨g, k, none⟩ (.int .u8 (c : Nat))) v.ownBlock ∧ w.frozen? ⟨g, k, none⟩ = false := by
  rcases h.2 with ⟨rfl, h0⟩ | ⟨g', cap, cur, rfl, hb, hgg, hcap, hmax, hsz, htake⟩
  · cases hg
  obtain rfl : g' = g := by injection hg
  refine ⟨?_, ?_, ?_⟩
  · rw [setCell_eq_setRow w g' k cur 5 (0, 0) _ hgg]
    refine ⟨by rw [bcells_length]; omega, Or.inr ⟨g', cap, _, by rw [List.length_set], hb, setRow_heap w g' _ _ 5 (0, 0) hgg, by rw [List.length_set]; exact hcap, hmax, by simp [hsz], ?_⟩⟩
    rw [List.length_set, Array.toList_setIfInBounds, List.take_set, htake]
    simp [bcells, List.map_set]
  · exact ⟨rfl, rfl, rfl, by simp, fun j _ hne => Below.heap_setCell w _ _ j (fun e => hne (by rw [e]; rfl))⟩
  · simp [World.frozen?, hgg]
section
variable {w : World} {ops : Array Oper} {rest : List Oper} {o : Oper} {a : Act} {Q : Exit → Act → World → Prop}
/-- an element's address in a row of the call's own: it may be written -/
theorem wpList_indexOwn (x i : Operand) (hgd : Region.wanted o (yielded ops a.tmps) = true) (ho : o.op = .indexAddr 22 x i) (base : Nat) (v : Value) (cs : List Nat) (hx : a.eval x = v) (hown : BOwn w base v cs) (hb : ∀ c ∈ cs, c < 256) (k : Nat) (hk : k < cs.length) (I : Int) (hi : a.eval i = .int .i64 I) (hI : I = (k : Int))
    (h : ∀ g, w.cell? ⟨g, k, none⟩ = some (.int .u8 (cs.getD k 0 : Nat)) → w.frozen? ⟨g, k, none⟩ = false → Hid (∀ c : Nat, BOwn (w.setCell ⟨g, k, none⟩ (.int .u8 (c : Nat))) base v (cs.set k c) ∧ w.grownBy (w.setCell ⟨g, k, none⟩ (.int .u8 (c : Nat))) v.ownBlock) → wpList Tryd.prog ops Q rest (a.put o.dst (.pointer (some ⟨g, k, none⟩))) w) : wpList Tryd.prog ops Q (o :: rest) a w := by
  refine wpList_index x i hgd ho v cs hx (hown.slice hb) k hk I hi hI ?_
  intro b j hbk hbj hc
  rcases hown.2 with ⟨rfl, h0⟩ | ⟨g, cap, cur, rfl, _⟩
  · omega
  obtain ⟨rfl, rfl⟩ := hbj g _ _ rfl
  exact h b hc (hown.set b rfl j 0).2.2 (fun c => ⟨(hown.set b rfl j c).1, (hown.set b rfl j c).2.1⟩)
end
end Go.Proofs.YtflabbladikhbabDoor

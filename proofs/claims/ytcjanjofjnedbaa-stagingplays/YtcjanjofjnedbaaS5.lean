/- Layer 13: Add. -/
import Derived.Test.YtcjanjofjnedbaaS4
namespace Go.Proofs.Ytcjanjofjnedbaa
open Go.RowKit Go.Maps Go.MapKept

theorem StAt.added {w : World} {F : Nat → Prop} {g nx b : Nat} {l : List En} {p : Int} {x : En} {cs : List Nat} (h : StAt w F g nx l) (hr : Row w g 47 [.map (some b), .int .i64 (nx : Nat)]) (hF : F b) (hmb : MapI w b l.length (fun p => (look l p).map (·.a))) (hl : look l p = some x)
    (hlt : ∀ c ∈ cs, c < 256) (h512 : x.bs.length + cs.length ≤ 512) (hall : total l + cs.length ≤ 2048) {w1 : World} {a' : Sv} (ho : BOwn w1 0 (svV a') (x.bs ++ cs)) (hg : w.grownBy w1 (svB x.a)) (hat : svB a' = svB x.a ∨ svB a' = some w.heap.size) :
    MapI w1 b l.length (fun p => (look l p).map (·.a)) ∧ Row w1 g 47 [.map (some b), .int .i64 (nx : Nat)] ∧ ∀ w2, w1.mapTurned w2 b → MapI w2 b (if ((look l p).map (·.a)).isSome then l.length else l.length + 1) (fun q => if q = p then some a' else (look l q).map (·.a)) →
      StAt w2 (fun k => F k ∨ (w.heap.size ≤ k ∧ k < w1.heap.size)) g nx (l.map (upd p a' cs)) ∧ Tn F (fun k => F k ∨ (w.heap.size ≤ k ∧ k < w1.heap.size)) w w2 ∧ Row w2 g 47 [.map (some b), .int .i64 (nx : Nat)] := by
  have hFg : F g := by obtain ⟨_, _, _, h3, _⟩ := h.top; exact h3
  have hx := look_some hl
  obtain ⟨o1, o2, o3, o4⟩ := h.own x hx.1
  have nb : svB x.a ≠ some b := by rw [← svV_block]; exact o1.neMap hmb
  have ng : svB x.a ≠ some g := by rw [← svV_block]; exact o1.neRowB hr (by decide)
  have hm1 : MapI w1 b l.length (fun p => (look l p).map (·.a)) := hmb.kept (hg.block b hmb.lt fun e => nb e.symm)
  have hr1 : Row w1 g 47 [.map (some b), .int .i64 (nx : Nat)] := by unfold Row at *; rw [hg.block g (h.low g hFg) fun e => ng e.symm]; exact hr
  refine ⟨hm1, hr1, fun w2 ht hm => ?_⟩
  have hc := mapTurned_ch ht
  have hr2 : Row w2 g 47 [.map (some b), .int .i64 (nx : Nat)] := hc.row (fun e => hm1.ne_row hr1 e.symm) hr1
  have hch : Ch F w w2 := by
    refine Ch.trans' (b := w1) ⟨hg.os, hg.tape, hg.output, hg.size, fun k hk hn => hg.block k hk fun e => hn (o2 k e.symm)⟩ hc fun i _ e => by rw [e]; exact hF
  refine ⟨⟨⟨b, hr2, ?_, Or.inl hFg, Or.inl hF⟩, ?_, ?_, ?_, ?_, ?_, ?_⟩, ⟨hch, fun k hk => hk.imp id fun h => h.1⟩, hr2⟩
  · rw [List.length_map]
    rw [hl] at hm
    have e : (fun q : Int => if q = p then some a' else (look l q).map (·.a)) = fun q => (look (l.map (upd p a' cs)) q).map (·.a) := by
      funext q
      rw [look_map _ _ (upd_no p a' cs)]
      by_cases hq : q = p
      · subst hq
        rw [if_pos rfl, hl]
        simp [upd, hx.2]
      · rw [if_neg hq]
        cases hf : look l q with
        | none => rfl
        | some y =>
          have := (look_some hf).2
          simp [upd, show ¬ (y.no : Int) = p by omega]
    rw [e] at hm
    exact hm
  · intro y hy
    obtain ⟨z, hz, rfl⟩ := List.mem_map.1 hy
    obtain ⟨q1, q2, q3, q4⟩ := h.own z hz
    by_cases hzp : (z.no : Int) = p
    · have hzx : z = x := by
        have hp := h.ord
        obtain ⟨i, hi, rfl⟩ := List.getElem_of_mem hz
        obtain ⟨j, hj, rfl⟩ := List.getElem_of_mem hx.1
        have hno : l[i].no = l[j].no := by have := hx.2; omega
        rcases Nat.lt_trichotomy i j with h' | h' | h'
        · have := (List.pairwise_iff_getElem.1 hp i j hi hj h').1; omega
        · subst h'; rfl
        · have := (List.pairwise_iff_getElem.1 hp j i hj hi h').1; omega
      subst hzx
      unfold upd
      rw [if_pos hzp]
      refine ⟨ownK ho fun k e => hc.one k (ho.lt k e).2 fun e2 => ho.neMap hm1 (e2 ▸ e), fun k e => ?_, fun c hc' => ?_, ?_⟩
      · rcases hat with h' | h'
        · exact Or.inl (o2 k (by rw [← h']; exact e))
        · rw [show svB a' = some k from e] at h'
          injection h' with h'
          refine Or.inr ⟨by omega, ?_⟩
          exact (ho.lt k (by rw [svV_block]; exact e)).2
      · rcases List.mem_append.1 hc' with hc' | hc'
        · exact o3 c hc'
        · exact hlt c hc'
      · simpa using h512
    · unfold upd
      rw [if_neg hzp]
      have hne : ∀ k, (svV z.a).ownBlock = some k → svB x.a ≠ some k := fun k e e2 => by
        rw [svV_block] at e
        have hp := h.ord
        obtain ⟨i, hi, rfl⟩ := List.getElem_of_mem hz
        obtain ⟨j, hj, rfl⟩ := List.getElem_of_mem hx.1
        rcases Nat.lt_trichotomy i j with h' | h' | h'
        · exact (List.pairwise_iff_getElem.1 hp i j hi hj h').2 k e e2
        · subst h'; exact hzp hx.2
        · exact (List.pairwise_iff_getElem.1 hp j i hj hi h').2 k e2 e
      have q5 : BOwn w1 0 (svV z.a) z.bs := ownK q1 fun k e => hg.block k (q1.lt k e).2 fun e2 => hne k e e2.symm
      exact ⟨ownK q5 fun k e => hc.one k (q5.lt k e).2 fun e2 => q5.neMap hm1 (e2 ▸ e), fun k e => Or.inl (q2 k e), q3, q4⟩
  · rw [List.pairwise_map]
    refine h.ord.imp_of_mem ?_
    intro y z hy hz hap
    have hylt : ∀ k, svB y.a = some k → k < w.heap.size := fun k e => h.low k ((h.own y hy).2.1 k e)
    have hzlt : ∀ k, svB z.a = some k → k < w.heap.size := fun k e => h.low k ((h.own z hz).2.1 k e)
    refine ⟨by rw [upd_no, upd_no]; exact hap.1, fun k e1 e2 => ?_⟩
    unfold upd at e1 e2
    have huniq : ∀ y ∈ l, (y.no : Int) = p → y = x := fun y hy hyp => by
      have hp := h.ord
      obtain ⟨i, hi, rfl⟩ := List.getElem_of_mem hy
      obtain ⟨j, hj, rfl⟩ := List.getElem_of_mem hx.1
      have hno : l[i].no = l[j].no := by have := hx.2; omega
      rcases Nat.lt_trichotomy i j with h' | h' | h'
      · have := (List.pairwise_iff_getElem.1 hp i j hi hj h').1; omega
      · subst h'; rfl
      · have := (List.pairwise_iff_getElem.1 hp j i hj hi h').1; omega
    by_cases hyp : (y.no : Int) = p
    · rw [if_pos hyp] at e1
      have hzp : ¬ (z.no : Int) = p := by have := hap.1; omega
      rw [if_neg hzp] at e2
      have := huniq y hy hyp
      subst this
      rcases hat with h' | h'
      · exact hap.2 k (by rw [← h']; exact e1) e2
      · rw [show svB a' = some k from e1] at h'
        injection h' with h'
        have := hzlt k e2
        omega
    · rw [if_neg hyp] at e1
      by_cases hzp : (z.no : Int) = p
      · rw [if_pos hzp] at e2
        have := huniq z hz hzp
        subst this
        rcases hat with h' | h'
        · exact hap.2 k e1 (by rw [← h']; exact e2)
        · rw [show svB a' = some k from e2] at h'
          injection h' with h'
          have := hylt k e1
          omega
      · rw [if_neg hzp] at e2
        exact hap.2 k e1 e2
  · intro y hy
    obtain ⟨z, hz, rfl⟩ := List.mem_map.1 hy
    rw [upd_no]
    exact h.lt z hz
  · intro k hk
    have hs := mapTurned_size ht
    rcases hk with hk | hk
    · exact Nat.lt_of_lt_of_le (h.low k hk) hch.size
    · omega
  · rw [List.length_map]; exact h.eight
  · rw [total_upd (ord_lt h.ord) hl]; exact hall
/-- Add, plain -/
def findS (ss : List (Nat × List Nat)) (p : Int) : Option (Nat × List Nat) := ss.find? (fun x => decide ((x.1 : Int) = p))
def totS (ss : List (Nat × List Nat)) : Nat := (ss.map fun x => x.2.length).sum
def addP (ss : List (Nat × List Nat)) (p : Int) (b : List Nat) : Int × List (Nat × List Nat) :=
  match findS ss p with
  | none => (130, ss)
  | some x => if x.2.length + b.length > 512 then (5, ss) else if totS ss + b.length > 2048 then (131, ss) else (0, ss.map (fun x => if (x.1 : Int) = p then (x.1, x.2 ++ b) else x))
theorem findS_of (l : List En) (p : Int) : findS (ssOf l) p = (look l p).map fun x => (x.no, x.bs) := by
  unfold findS ssOf look
  rw [List.find?_map]
  rfl
theorem totS_of (l : List En) : totS (ssOf l) = total l := by
  unfold totS ssOf total
  rw [List.map_map]
  rfl
theorem run_bappAt {w : World} (ty : TypeId) (v vx : Value) (cs ys : List Nat) (hown : BOwn w 0 v cs) (hin : SliceIn w vx ys) (hsz : cs.length + ys.length ≤ 140737488355328) :
    ∃ v' w', (Builtin.append_ #[28, 28] ty #[v, vx]).run Try.prog w = .ok v' w' ∧ BOwn w' 0 v' (cs ++ ys) ∧ w.grownBy w' v.ownBlock ∧ (v'.ownBlock = v.ownBlock ∨ v'.ownBlock = some w.heap.size) := by
  obtain ⟨i, hi, hz0, hz1, hz2⟩ := info_parts info5z
  obtain ⟨p, cap, rfl, hl, hin⟩ := hin
  have hgo : ∀ ad : Addr, (∀ j u, (bcells ys)[j]? = some u → w.cell? (ad.add j) = some u) → p = some ad → ∃ v' w', (Builtin.append_ #[28, 28] ty #[v, .slice p ys.length cap]).run Try.prog w = .ok v' w' ∧ BOwn w' 0 v' (cs ++ ys) ∧ w.grownBy w' v.ownBlock ∧ (v'.ownBlock = v.ownBlock ∨ v'.ownBlock = some w.heap.size) := by
    rintro ad hnews rfl
    obtain ⟨v', w', hr, ho', hg, _, hat⟩ := run_append_own_at (P := Try.prog) (w := w) 0 28 ty 5 i (.int .u8 0) 1 1 Try.underlying28 hi hz0 hz1 hz2 rfl (by decide) v cs.length (bcells cs) hown
      ad ys.length cap (bcells ys) (by simp [bcells_length]) hnews (bcells_one ys) (by unfold maxLen; omega) (by omega) (Nat.zero_le _)
    refine ⟨v', w', hr, ?_, hg, hat⟩
    unfold BOwn
    rw [bcells_append, List.length_append]
    exact ho'
  rcases hin with rfl | ⟨b, off, rfl, hc, _⟩
  · cases p with
    | none =>
      refine ⟨v, w, ?_, ?_, World.grownBy.refl w _, Or.inl rfl⟩
      · rcases hown.2 with ⟨rfl, h0⟩ | ⟨g, cap', cur, rfl, _, hg, hcap, hmax, hsz, htake⟩
        · simp [Builtin.append_, run_underlying Try.underlying28, sizeOf, typeInfo, hi, Builtin.lenOf, Builtin.firstCells]
        · simp [Builtin.append_, run_underlying Try.underlying28, sizeOf, typeInfo, hi, Builtin.lenOf, Builtin.firstCells, hcap, storeCells]
      · rw [List.append_nil]
        exact hown
    | some ad => exact hgo ad (by intro j u hu; simp [bcells] at hu) rfl
  · refine hgo ⟨b, off, none⟩ (fun j u hu => ?_) rfl
    have hj : j < ys.length := by
      have := (List.getElem?_eq_some_iff.1 hu).1
      rwa [bcells_length] at this
    rw [add_none, hc j hj, ← hu, bcells_at ys j hj]
set_option maxHeartbeats 4000000 in
set_option maxRecDepth 100000 in
theorem add_any {w : World} {F : Nat → Prop} {g nx : Nat} {l : List En} (h : StAt w F g nx l) (p : Int) (hp : Wf p) (vb : Value) (cs : List Nat) (hin : SliceIn w vb cs) : Calls Try.prog 12 #[ptr g, .int .i64 p, vb] w fun e w' => ∃ F' l', e = .returned (.int .i64 (addP (ssOf l) p cs).1) ∧ StAt w' F' g nx l' ∧ ssOf l' = (addP (ssOf l) p cs).2 ∧ Tn F F' w w' := by
  obtain ⟨b, h1, h2, h3, h4⟩ := h.top
  have HT : Hid (Row w g 47 [.map (some b), .int .i64 (nx : Nat)] ∧ MapI w b l.length (fun p => (look l p).map (·.a))) := ⟨h1, h2⟩
  have HFB : Hid (F b) := h4
  have HST : Hid (StAt w F g nx l) := h
  have HIN : Hid (SliceIn w vb cs) := hin
  have HLT : Hid (∀ c ∈ cs, c < 256) := hin.lt256
  have hmx := hin.len_max
  have HTO : Hid (total l ≤ 2048) := h.all
  obtain ⟨PQ, hPQ⟩ : ∃ PQ : Ending → World → Prop, PQ = fun (e : Ending) (w' : World) => ∃ F' l', e = .returned (.int .i64 (addP (ssOf l) p cs).1) ∧ StAt w' F' g nx l' ∧ ssOf l' = (addP (ssOf l) p cs).2 ∧ Tn F F' w w' := ⟨_, rfl⟩
  have HPQ : Hid (PQ = fun (e : Ending) (w' : World) => ∃ F' l', e = .returned (.int .i64 (addP (ssOf l) p cs).1) ∧ StAt w' F' g nx l' ∧ ssOf l' = (addP (ssOf l) p cs).2 ∧ Tn F F' w w') := hPQ
  rw [← hPQ]
  clear hPQ h1 h2 h3 h4 h hin
  cases hl : look l p with
  | none =>
    have HLK : Hid (∀ {a : Act} {o : Oper} (m x : Operand), o.op = .lookup 45 m x true → a.eval m = .map (some b) → a.eval x = .int .i64 p → (execOp a.eval o).run Try.prog w = .ok (.value (.tuple #[.slice none 0 0, .bool false])) w) := fun m x ho hm hx => by
      have := run_lookI HT.out.2 m x ho p hp hm hx
      rw [hl] at this
      exact this
    have HA : Hid (addP (ssOf l) p cs = (130, ssOf l)) := by
      show _ = _
      unfold addP
      rw [findS_of, hl]
      rfl
    clear hl
    go_enter Try.func12, Try.ntmps12
    go_upto_region 0 with fail
    refine wp_region_lit ?_
    refine wl rfl (.int .i64 0) _ (run_asZ (.const (.int .i64 0)) rfl (.int .i64 0) rfl) ?_
    simp only [Act.put, List.setIfInBounds_toArray, List.set_cons_succ, List.set_cons_zero]
    refine wpList_nil ?_
    go_upto_region 1 with fail
    refine wp_region_lit ?_
    refine wl rfl (ptr g) _ (run_mvZ (.tmp 0) rfl (ptr g) rfl) ?_
    simp only [Act.put, List.setIfInBounds_toArray, List.set_cons_succ, List.set_cons_zero]
    refine wl rfl (ptr g) _ (run_nil (.tmp 10) rfl ⟨g, 0, none⟩ rfl) ?_
    simp only [Act.put, List.setIfInBounds_toArray, List.set_cons_succ, List.set_cons_zero]
    refine wl rfl (.pointer (some ⟨g, 0 + 0, none⟩)) _ (run_fieldOp' f47_0 (.tmp 11) rfl g (0) rfl) ?_
    simp only [Act.put, List.setIfInBounds_toArray, List.set_cons_succ, List.set_cons_zero]
    refine wl rfl (.map (some b)) _ (run_load1 o45 (.tmp 12) rfl g (0 + 0) rfl (.map (some b)) (HT.out.1.at 0 _ rfl)) ?_
    simp only [Act.put, List.setIfInBounds_toArray, List.set_cons_succ, List.set_cons_zero]
    refine wl rfl (.int .i64 p) _ (run_mvZ (.tmp 1) rfl (.int .i64 p) rfl) ?_
    simp only [Act.put, List.setIfInBounds_toArray, List.set_cons_succ, List.set_cons_zero]
    refine wl rfl (.tuple #[(.slice none 0 0), (.bool false)]) _ (HLK.out (.tmp 13) (.tmp 14) rfl rfl rfl) ?_
    simp only [Act.put, List.setIfInBounds_toArray, List.set_cons_succ, List.set_cons_zero]
    refine wl rfl (.tuple #[(.slice none 0 0), (.bool false)]) _ (run_mvZ (.tmp 15) rfl (.tuple #[(.slice none 0 0), (.bool false)]) rfl) ?_
    simp only [Act.put, List.setIfInBounds_toArray, List.set_cons_succ, List.set_cons_zero]
    refine wl rfl (.slice none 0 0) _ (run_extZ (.tmp 9) 0 rfl #[(.slice none 0 0), (.bool false)] rfl (.slice none 0 0) rfl) ?_
    simp only [Act.put, List.setIfInBounds_toArray, List.set_cons_succ, List.set_cons_zero]
    refine wl rfl (.bool false) _ (run_extZ (.tmp 9) 1 rfl #[(.slice none 0 0), (.bool false)] rfl (.bool false) rfl) ?_
    simp only [Act.put, List.setIfInBounds_toArray, List.set_cons_succ, List.set_cons_zero]
    refine wl rfl (.slice none 0 0) _ (run_asZ (.tmp 16) rfl (.slice none 0 0) rfl) ?_
    simp only [Act.put, List.setIfInBounds_toArray, List.set_cons_succ, List.set_cons_zero]
    refine wl rfl (.bool false) _ (run_asZ (.tmp 17) rfl (.bool false) rfl) ?_
    simp only [Act.put, List.setIfInBounds_toArray, List.set_cons_succ, List.set_cons_zero]
    refine wpList_nil ?_
    go_upto_region 2 with fail
    refine wp_region_lit ?_
    refine wl rfl (.bool false) _ (run_mvZ (.tmp 8) rfl (.bool false) rfl) ?_
    simp only [Act.put, List.setIfInBounds_toArray, List.set_cons_succ, List.set_cons_zero]
    refine wl rfl (.bool true) _ (run_not (.tmp 19) 4 rfl false rfl) ?_
    simp only [Act.put, List.setIfInBounds_toArray, List.set_cons_succ, List.set_cons_zero]
    refine wl rfl (.bool true) _ (run_asZ (.tmp 20) rfl (.bool true) rfl) ?_
    simp only [Act.put, List.setIfInBounds_toArray, List.set_cons_succ, List.set_cons_zero]
    refine wpList_nil ?_
    go_wp2_with fail
    rw [HPQ.out]
    exact ⟨F, l, by rw [HA.out]; rfl, HST.out, by rw [HA.out], Tn.refl F w⟩
  | some x =>
    obtain ⟨vx, hvx⟩ : ∃ v, v = svV x.a := ⟨_, rfl⟩
    have HVX : Hid (vx = svV x.a) := hvx
    have HL : Hid (look l p = some x) := hl
    have HLK : Hid (∀ {a : Act} {o : Oper} (m x : Operand), o.op = .lookup 45 m x true → a.eval m = .map (some b) → a.eval x = .int .i64 p → (execOp a.eval o).run Try.prog w = .ok (.value (.tuple #[vx, .bool true])) w) := fun m x ho hm hx => by
      have := run_lookI HT.out.2 m x ho p hp hm hx
      rw [hl] at this
      rw [hvx]
      exact this
    have hxo := HST.out.own x (look_some hl).1
    have hx5 : x.bs.length ≤ 512 := hxo.2.2.2
    have HXN : Hid (SliceIn w vx x.bs) := by
      show SliceIn w vx x.bs
      rw [hvx]
      exact hxo.1.slice hxo.2.2.1 (by omega)
    have HAD0 : Hid (addP (ssOf l) p cs = if x.bs.length + cs.length > 512 then (5, ssOf l) else if total l + cs.length > 2048 then (131, ssOf l) else (0, (ssOf l).map (fun y => if (y.1 : Int) = p then (y.1, y.2 ++ cs) else y))) := by
      show _ = _
      unfold addP
      rw [findS_of, hl, totS_of]
      rfl
    clear hxo hvx hl
    by_cases h512 : x.bs.length + cs.length ≤ 512
    · have hd1 : decide ((512 : Int) - (x.bs.length : Nat) < (cs.length : Nat)) = false := decide_eq_false (by omega)
      by_cases hall : total l + cs.length ≤ 2048
      · have hd2 : decide ((2048 : Int) - (total l : Nat) < (cs.length : Nat)) = false := decide_eq_false (by omega)
        have HA : Hid (addP (ssOf l) p cs = (0, (ssOf l).map (fun y => if (y.1 : Int) = p then (y.1, y.2 ++ cs) else y))) := by
          show _ = _
          rw [HAD0.out, if_neg (by omega), if_neg (by omega)]
        go_enter Try.func12, Try.ntmps12
        go_upto_region 0 with fail
        refine wp_region_lit ?_
        refine wl rfl (.int .i64 0) _ (run_asZ (.const (.int .i64 0)) rfl (.int .i64 0) rfl) ?_
        simp only [Act.put, List.setIfInBounds_toArray, List.set_cons_succ, List.set_cons_zero]
        refine wpList_nil ?_
        go_upto_region 1 with fail
        refine wp_region_lit ?_
        refine wl rfl (ptr g) _ (run_mvZ (.tmp 0) rfl (ptr g) rfl) ?_
        simp only [Act.put, List.setIfInBounds_toArray, List.set_cons_succ, List.set_cons_zero]
        refine wl rfl (ptr g) _ (run_nil (.tmp 10) rfl ⟨g, 0, none⟩ rfl) ?_
        simp only [Act.put, List.setIfInBounds_toArray, List.set_cons_succ, List.set_cons_zero]
        refine wl rfl (.pointer (some ⟨g, 0 + 0, none⟩)) _ (run_fieldOp' f47_0 (.tmp 11) rfl g (0) rfl) ?_
        simp only [Act.put, List.setIfInBounds_toArray, List.set_cons_succ, List.set_cons_zero]
        refine wl rfl (.map (some b)) _ (run_load1 o45 (.tmp 12) rfl g (0 + 0) rfl (.map (some b)) (HT.out.1.at 0 _ rfl)) ?_
        simp only [Act.put, List.setIfInBounds_toArray, List.set_cons_succ, List.set_cons_zero]
        refine wl rfl (.int .i64 p) _ (run_mvZ (.tmp 1) rfl (.int .i64 p) rfl) ?_
        simp only [Act.put, List.setIfInBounds_toArray, List.set_cons_succ, List.set_cons_zero]
        refine wl rfl (.tuple #[vx, (.bool true)]) _ (HLK.out (.tmp 13) (.tmp 14) rfl rfl rfl) ?_
        simp only [Act.put, List.setIfInBounds_toArray, List.set_cons_succ, List.set_cons_zero]
        refine wl rfl (.tuple #[vx, (.bool true)]) _ (run_mvZ (.tmp 15) rfl (.tuple #[vx, (.bool true)]) rfl) ?_
        simp only [Act.put, List.setIfInBounds_toArray, List.set_cons_succ, List.set_cons_zero]
        refine wl rfl vx _ (run_extZ (.tmp 9) 0 rfl #[vx, (.bool true)] rfl vx rfl) ?_
        simp only [Act.put, List.setIfInBounds_toArray, List.set_cons_succ, List.set_cons_zero]
        refine wl rfl (.bool true) _ (run_extZ (.tmp 9) 1 rfl #[vx, (.bool true)] rfl (.bool true) rfl) ?_
        simp only [Act.put, List.setIfInBounds_toArray, List.set_cons_succ, List.set_cons_zero]
        refine wl rfl vx _ (run_asZ (.tmp 16) rfl vx rfl) ?_
        simp only [Act.put, List.setIfInBounds_toArray, List.set_cons_succ, List.set_cons_zero]
        refine wl rfl (.bool true) _ (run_asZ (.tmp 17) rfl (.bool true) rfl) ?_
        simp only [Act.put, List.setIfInBounds_toArray, List.set_cons_succ, List.set_cons_zero]
        refine wpList_nil ?_
        go_upto_region 2 with fail
        refine wp_region_lit ?_
        refine wl rfl (.bool true) _ (run_mvZ (.tmp 8) rfl (.bool true) rfl) ?_
        simp only [Act.put, List.setIfInBounds_toArray, List.set_cons_succ, List.set_cons_zero]
        refine wl rfl (.bool false) _ (run_not (.tmp 19) 4 rfl true rfl) ?_
        simp only [Act.put, List.setIfInBounds_toArray, List.set_cons_succ, List.set_cons_zero]
        refine wl rfl (.bool false) _ (run_asZ (.tmp 20) rfl (.bool false) rfl) ?_
        simp only [Act.put, List.setIfInBounds_toArray, List.set_cons_succ, List.set_cons_zero]
        refine wpList_nil ?_
        go_upto_region 4 with fail
        refine wp_region_lit ?_
        refine wl rfl vb _ (run_mvZ (.tmp 2) rfl vb rfl) ?_
        simp only [Act.put, List.setIfInBounds_toArray, List.set_cons_succ, List.set_cons_zero]
        refine wl rfl (.int .i64 (cs.length : Nat)) _ (run_lenB HIN.out (.tmp 22) rfl rfl) ?_
        simp only [Act.put, List.setIfInBounds_toArray, List.set_cons_succ, List.set_cons_zero]
        refine wl rfl vx _ (run_mvZ (.tmp 7) rfl vx rfl) ?_
        simp only [Act.put, List.setIfInBounds_toArray, List.set_cons_succ, List.set_cons_zero]
        refine wl rfl (.int .i64 (x.bs.length : Nat)) _ (run_lenB HXN.out (.tmp 24) rfl rfl) ?_
        simp only [Act.put, List.setIfInBounds_toArray, List.set_cons_succ, List.set_cons_zero]
        refine wl rfl (.int .i64 (512 - (x.bs.length : Nat))) _ (run_subI (.const (.int .i64 512)) (.tmp 25) rfl 512 (x.bs.length : Nat) _ (by omega) (by omega) rfl rfl rfl) ?_
        simp only [Act.put, List.setIfInBounds_toArray, List.set_cons_succ, List.set_cons_zero]
        refine wl rfl (.bool false) _ (run_gtrZ (.tmp 23) (.tmp 26) rfl (cs.length : Nat) (512 - (x.bs.length : Nat)) rfl rfl false hd1) ?_
        simp only [Act.put, List.setIfInBounds_toArray, List.set_cons_succ, List.set_cons_zero]
        refine wl rfl (.bool false) _ (run_asZ (.tmp 27) rfl (.bool false) rfl) ?_
        simp only [Act.put, List.setIfInBounds_toArray, List.set_cons_succ, List.set_cons_zero]
        refine wpList_nil ?_
        go_upto_region 6 with fail
        refine wp_region_lit ?_
        refine wl rfl vb _ (run_mvZ (.tmp 2) rfl vb rfl) ?_
        simp only [Act.put, List.setIfInBounds_toArray, List.set_cons_succ, List.set_cons_zero]
        refine wl rfl (.int .i64 (cs.length : Nat)) _ (run_lenB HIN.out (.tmp 29) rfl rfl) ?_
        simp only [Act.put, List.setIfInBounds_toArray, List.set_cons_succ, List.set_cons_zero]
        refine wl rfl (ptr g) _ (run_mvZ (.tmp 0) rfl (ptr g) rfl) ?_
        simp only [Act.put, List.setIfInBounds_toArray, List.set_cons_succ, List.set_cons_zero]
        refine wpList_callW eN20 [.tmp 31] _ rfl rfl [(ptr g)] rfl ?_
        refine (staged_any HST.out).mono ?_
        rintro e w1 ⟨rfl, bl1⟩
        refine ⟨_, rfl, ?_⟩
        have B1 : Hid (Below w.heap.size w w1) := bl1
        clear bl1
        simp only [Act.put, List.setIfInBounds_toArray, List.set_cons_succ, List.set_cons_zero]
        refine wl rfl (.int .i64 (2048 - (total l : Nat))) _ (run_subI (.const (.int .i64 2048)) (.tmp 32) rfl 2048 (total l : Nat) _ (by have := HTO.out; omega) (by omega) rfl rfl rfl) ?_
        simp only [Act.put, List.setIfInBounds_toArray, List.set_cons_succ, List.set_cons_zero]
        refine wl rfl (.bool false) _ (run_gtrZ (.tmp 30) (.tmp 33) rfl (cs.length : Nat) (2048 - (total l : Nat)) rfl rfl false hd2) ?_
        simp only [Act.put, List.setIfInBounds_toArray, List.set_cons_succ, List.set_cons_zero]
        refine wl rfl (.bool false) _ (run_asZ (.tmp 34) rfl (.bool false) rfl) ?_
        simp only [Act.put, List.setIfInBounds_toArray, List.set_cons_succ, List.set_cons_zero]
        refine wpList_nil ?_
        have HS1 : Hid (StAt w1 F g nx l ∧ Row w1 g 47 [.map (some b), .int .i64 (nx : Nat)] ∧ MapI w1 b l.length (fun p => (look l p).map (·.a)) ∧ SliceIn w1 vb cs) := ⟨HST.out.later B1.out, HT.out.1.later B1.out HT.out.1.lt, HT.out.2.kept (B1.out.block b HT.out.2.lt), SliceIn.later B1.out HIN.out⟩
        go_upto_region 8 with fail
        refine wp_region_held (S := fun X => Row X g 47 [.map (some b), .int .i64 (nx : Nat)]) (by kernel_rfl) ?_
        show wpAnyH _ _ _ _ _ 9 (Array.replicate 9 false) _ _
        obtain ⟨X, hX⟩ : ∃ X : World, X = { w1 with drawn := w1.drawn + 1 } := ⟨_, rfl⟩
        rw [← hX]
        have hbX : Below w1.heap.size w1 X := by rw [hX]; exact ⟨rfl, rfl, rfl, Nat.le_refl _, fun _ _ => rfl⟩
        have HS2 : Hid (StAt X F g nx l ∧ Row X g 47 [.map (some b), .int .i64 (nx : Nat)] ∧ MapI X b l.length (fun p => (look l p).map (·.a)) ∧ SliceIn X vb cs) := ⟨HS1.out.1.later hbX, HS1.out.2.1.later hbX HS1.out.2.1.lt, HS1.out.2.2.1.kept (hbX.block b HS1.out.2.2.1.lt), SliceIn.later hbX HS1.out.2.2.2⟩
        have HX1 : Hid (BOwn X 0 vx x.bs) := by
          have h5 := HS2.out.1.own x (look_some HL.out).1
          show BOwn X 0 vx x.bs
          rw [HVX.out]
          exact h5.1
        have HX2 : Hid (SliceIn X vb cs) := HS2.out.2.2.2
        have HBX : Hid (Below w.heap.size w X) := Below.trans B1.out (hbX.mono B1.out.size)
        have hS := HS2.out.2.1
        clear hbX HS1
        clear hX
        refine takeH (i := 0) (some 35) rfl rfl (by kernel_rfl) (by kernel_rfl) (by kernel_rfl) (fun _ _ _ h => h) (gRun rfl (ptr g) fun _ h => run_mvZ (.tmp 0) rfl (ptr g) rfl) hS ?_
        simp only [Act.put, List.setIfInBounds_toArray, List.set_cons_succ, List.set_cons_zero]
        refine takeH (i := 1) (some 36) rfl rfl (by kernel_rfl) (by kernel_rfl) (by kernel_rfl) (fun _ _ _ h => h) (gRun rfl (ptr g) fun _ h => run_nil (.tmp 35) rfl ⟨g, 0, none⟩ rfl) hS ?_
        simp only [Act.put, List.setIfInBounds_toArray, List.set_cons_succ, List.set_cons_zero]
        refine takeH (i := 2) (some 37) rfl rfl (by kernel_rfl) (by kernel_rfl) (by kernel_rfl) (fun _ _ _ h => h) (gRun rfl (.pointer (some ⟨g, 0 + 0, none⟩)) fun _ h => run_fieldOp' f47_0 (.tmp 36) rfl g (0) rfl) hS ?_
        simp only [Act.put, List.setIfInBounds_toArray, List.set_cons_succ, List.set_cons_zero]
        refine takeH (i := 3) (some 38) rfl rfl (by kernel_rfl) (by kernel_rfl) (by kernel_rfl) (fun _ _ _ h => h) (gRun rfl (.map (some b)) fun _ h => run_load1 o45 (.tmp 37) rfl g (0 + 0) rfl (.map (some b)) (h.at 0 _ rfl)) hS ?_
        simp only [Act.put, List.setIfInBounds_toArray, List.set_cons_succ, List.set_cons_zero]
        refine takeH (i := 4) (some 39) rfl rfl (by kernel_rfl) (by kernel_rfl) (by kernel_rfl) (fun _ _ _ h => h) (gRun rfl (.int .i64 p) fun _ h => run_mvZ (.tmp 1) rfl (.int .i64 p) rfl) hS ?_
        simp only [Act.put, List.setIfInBounds_toArray, List.set_cons_succ, List.set_cons_zero]
        refine takeH (i := 5) (some 40) rfl rfl (by kernel_rfl) (by kernel_rfl) (by kernel_rfl) (fun _ _ _ h => h) (gRun rfl vx fun _ h => run_mvZ (.tmp 7) rfl vx rfl) hS ?_
        simp only [Act.put, List.setIfInBounds_toArray, List.set_cons_succ, List.set_cons_zero]
        refine takeH (i := 6) (some 41) rfl rfl (by kernel_rfl) (by kernel_rfl) (by kernel_rfl) (fun _ _ _ h => h) (gRun rfl vb fun _ h => run_mvZ (.tmp 2) rfl vb rfl) hS ?_
        simp only [Act.put, List.setIfInBounds_toArray, List.set_cons_succ, List.set_cons_zero]
        refine oneH (i := 7) (by kernel_rfl) ?_
        obtain ⟨v2, w2, hr2, ho2, hg2, hat2⟩ := run_bappAt (Oper.type _) vx vb x.bs cs HX1.out HX2.out (by omega)
        refine opValueG (some 42) rfl rfl rfl v2 w2 (run_append (.tmp 40) (.tmp 41) rfl vx vb v2 rfl rfl hr2) ?_
        obtain ⟨a2, rfl⟩ := Sv.of ho2
        have HAD : Hid _ := HS2.out.1.added HS2.out.2.1 HFB.out HS2.out.2.2.1 HL.out HLT.out h512 hall ho2 (by rw [← svV_block, ← HVX.out]; exact hg2) (by rw [← svV_block, ← svV_block, ← HVX.out]; exact hat2)
        clear hr2 ho2 hg2 hat2 hS
        have hS := HAD.out.2.1
        refine ⟨hS, ?_⟩
        simp only [Act.put, List.setIfInBounds_toArray, List.set_cons_succ, List.set_cons_zero]
        refine oneH (i := 8) (by kernel_rfl) ?_
        obtain ⟨w3, hr3, hm3, ht3⟩ := HAD.out.1.store (by have := HST.out.eight; omega) p hp a2
        have HEN : Hid _ := HAD.out.2.2 w3 ht3 hm3
        refine opSkipZ rfl rfl rfl w3 (run_putI (.tmp 38) (.tmp 39) (.tmp 42) rfl p (svV a2) rfl rfl rfl hr3) ?_
        clear hr3 hm3 ht3
        refine ⟨HEN.out.2.2, ?_⟩
        refine wpAnyH_done (by kernel_rfl) ?_ _
        go_wp2_with fail
        rw [HPQ.out]
        refine ⟨_, _, by rw [HA.out]; rfl, HEN.out.1, by rw [HA.out]; exact ssOf_upd _ _ _ _, ⟨Ch.trans (Ch.of_below HBX.out) HEN.out.2.1.ch, fun k hk => (HEN.out.2.1.ext k hk).imp id fun h => Nat.le_trans HBX.out.size h⟩⟩
      · have hd2 : decide ((2048 : Int) - (total l : Nat) < (cs.length : Nat)) = true := decide_eq_true (by omega)
        have HA : Hid (addP (ssOf l) p cs = (131, ssOf l)) := by
          show _ = _
          rw [HAD0.out, if_neg (by omega), if_pos (by omega)]
        go_enter Try.func12, Try.ntmps12
        go_upto_region 0 with fail
        refine wp_region_lit ?_
        refine wl rfl (.int .i64 0) _ (run_asZ (.const (.int .i64 0)) rfl (.int .i64 0) rfl) ?_
        simp only [Act.put, List.setIfInBounds_toArray, List.set_cons_succ, List.set_cons_zero]
        refine wpList_nil ?_
        go_upto_region 1 with fail
        refine wp_region_lit ?_
        refine wl rfl (ptr g) _ (run_mvZ (.tmp 0) rfl (ptr g) rfl) ?_
        simp only [Act.put, List.setIfInBounds_toArray, List.set_cons_succ, List.set_cons_zero]
        refine wl rfl (ptr g) _ (run_nil (.tmp 10) rfl ⟨g, 0, none⟩ rfl) ?_
        simp only [Act.put, List.setIfInBounds_toArray, List.set_cons_succ, List.set_cons_zero]
        refine wl rfl (.pointer (some ⟨g, 0 + 0, none⟩)) _ (run_fieldOp' f47_0 (.tmp 11) rfl g (0) rfl) ?_
        simp only [Act.put, List.setIfInBounds_toArray, List.set_cons_succ, List.set_cons_zero]
        refine wl rfl (.map (some b)) _ (run_load1 o45 (.tmp 12) rfl g (0 + 0) rfl (.map (some b)) (HT.out.1.at 0 _ rfl)) ?_
        simp only [Act.put, List.setIfInBounds_toArray, List.set_cons_succ, List.set_cons_zero]
        refine wl rfl (.int .i64 p) _ (run_mvZ (.tmp 1) rfl (.int .i64 p) rfl) ?_
        simp only [Act.put, List.setIfInBounds_toArray, List.set_cons_succ, List.set_cons_zero]
        refine wl rfl (.tuple #[vx, (.bool true)]) _ (HLK.out (.tmp 13) (.tmp 14) rfl rfl rfl) ?_
        simp only [Act.put, List.setIfInBounds_toArray, List.set_cons_succ, List.set_cons_zero]
        refine wl rfl (.tuple #[vx, (.bool true)]) _ (run_mvZ (.tmp 15) rfl (.tuple #[vx, (.bool true)]) rfl) ?_
        simp only [Act.put, List.setIfInBounds_toArray, List.set_cons_succ, List.set_cons_zero]
        refine wl rfl vx _ (run_extZ (.tmp 9) 0 rfl #[vx, (.bool true)] rfl vx rfl) ?_
        simp only [Act.put, List.setIfInBounds_toArray, List.set_cons_succ, List.set_cons_zero]
        refine wl rfl (.bool true) _ (run_extZ (.tmp 9) 1 rfl #[vx, (.bool true)] rfl (.bool true) rfl) ?_
        simp only [Act.put, List.setIfInBounds_toArray, List.set_cons_succ, List.set_cons_zero]
        refine wl rfl vx _ (run_asZ (.tmp 16) rfl vx rfl) ?_
        simp only [Act.put, List.setIfInBounds_toArray, List.set_cons_succ, List.set_cons_zero]
        refine wl rfl (.bool true) _ (run_asZ (.tmp 17) rfl (.bool true) rfl) ?_
        simp only [Act.put, List.setIfInBounds_toArray, List.set_cons_succ, List.set_cons_zero]
        refine wpList_nil ?_
        go_upto_region 2 with fail
        refine wp_region_lit ?_
        refine wl rfl (.bool true) _ (run_mvZ (.tmp 8) rfl (.bool true) rfl) ?_
        simp only [Act.put, List.setIfInBounds_toArray, List.set_cons_succ, List.set_cons_zero]
        refine wl rfl (.bool false) _ (run_not (.tmp 19) 4 rfl true rfl) ?_
        simp only [Act.put, List.setIfInBounds_toArray, List.set_cons_succ, List.set_cons_zero]
        refine wl rfl (.bool false) _ (run_asZ (.tmp 20) rfl (.bool false) rfl) ?_
        simp only [Act.put, List.setIfInBounds_toArray, List.set_cons_succ, List.set_cons_zero]
        refine wpList_nil ?_
        go_upto_region 4 with fail
        refine wp_region_lit ?_
        refine wl rfl vb _ (run_mvZ (.tmp 2) rfl vb rfl) ?_
        simp only [Act.put, List.setIfInBounds_toArray, List.set_cons_succ, List.set_cons_zero]
        refine wl rfl (.int .i64 (cs.length : Nat)) _ (run_lenB HIN.out (.tmp 22) rfl rfl) ?_
        simp only [Act.put, List.setIfInBounds_toArray, List.set_cons_succ, List.set_cons_zero]
        refine wl rfl vx _ (run_mvZ (.tmp 7) rfl vx rfl) ?_
        simp only [Act.put, List.setIfInBounds_toArray, List.set_cons_succ, List.set_cons_zero]
        refine wl rfl (.int .i64 (x.bs.length : Nat)) _ (run_lenB HXN.out (.tmp 24) rfl rfl) ?_
        simp only [Act.put, List.setIfInBounds_toArray, List.set_cons_succ, List.set_cons_zero]
        refine wl rfl (.int .i64 (512 - (x.bs.length : Nat))) _ (run_subI (.const (.int .i64 512)) (.tmp 25) rfl 512 (x.bs.length : Nat) _ (by omega) (by omega) rfl rfl rfl) ?_
        simp only [Act.put, List.setIfInBounds_toArray, List.set_cons_succ, List.set_cons_zero]
        refine wl rfl (.bool false) _ (run_gtrZ (.tmp 23) (.tmp 26) rfl (cs.length : Nat) (512 - (x.bs.length : Nat)) rfl rfl false hd1) ?_
        simp only [Act.put, List.setIfInBounds_toArray, List.set_cons_succ, List.set_cons_zero]
        refine wl rfl (.bool false) _ (run_asZ (.tmp 27) rfl (.bool false) rfl) ?_
        simp only [Act.put, List.setIfInBounds_toArray, List.set_cons_succ, List.set_cons_zero]
        refine wpList_nil ?_
        go_upto_region 6 with fail
        refine wp_region_lit ?_
        refine wl rfl vb _ (run_mvZ (.tmp 2) rfl vb rfl) ?_
        simp only [Act.put, List.setIfInBounds_toArray, List.set_cons_succ, List.set_cons_zero]
        refine wl rfl (.int .i64 (cs.length : Nat)) _ (run_lenB HIN.out (.tmp 29) rfl rfl) ?_
        simp only [Act.put, List.setIfInBounds_toArray, List.set_cons_succ, List.set_cons_zero]
        refine wl rfl (ptr g) _ (run_mvZ (.tmp 0) rfl (ptr g) rfl) ?_
        simp only [Act.put, List.setIfInBounds_toArray, List.set_cons_succ, List.set_cons_zero]
        refine wpList_callW eN20 [.tmp 31] _ rfl rfl [(ptr g)] rfl ?_
        refine (staged_any HST.out).mono ?_
        rintro e w1 ⟨rfl, bl1⟩
        refine ⟨_, rfl, ?_⟩
        have B1 : Hid (Below w.heap.size w w1) := bl1
        clear bl1
        simp only [Act.put, List.setIfInBounds_toArray, List.set_cons_succ, List.set_cons_zero]
        refine wl rfl (.int .i64 (2048 - (total l : Nat))) _ (run_subI (.const (.int .i64 2048)) (.tmp 32) rfl 2048 (total l : Nat) _ (by have := HTO.out; omega) (by omega) rfl rfl rfl) ?_
        simp only [Act.put, List.setIfInBounds_toArray, List.set_cons_succ, List.set_cons_zero]
        refine wl rfl (.bool true) _ (run_gtrZ (.tmp 30) (.tmp 33) rfl (cs.length : Nat) (2048 - (total l : Nat)) rfl rfl true hd2) ?_
        simp only [Act.put, List.setIfInBounds_toArray, List.set_cons_succ, List.set_cons_zero]
        refine wl rfl (.bool true) _ (run_asZ (.tmp 34) rfl (.bool true) rfl) ?_
        simp only [Act.put, List.setIfInBounds_toArray, List.set_cons_succ, List.set_cons_zero]
        refine wpList_nil ?_
        go_wp2_with fail
        rw [HPQ.out]
        exact ⟨F, l, by rw [HA.out]; rfl, HST.out.later B1.out, by rw [HA.out], ⟨Ch.of_below B1.out, fun _ h => Or.inl h⟩⟩
    · have hd1 : decide ((512 : Int) - (x.bs.length : Nat) < (cs.length : Nat)) = true := decide_eq_true (by omega)
      have HA : Hid (addP (ssOf l) p cs = (5, ssOf l)) := by
        show _ = _
        rw [HAD0.out, if_pos (by omega)]
      go_enter Try.func12, Try.ntmps12
      go_upto_region 0 with fail
      refine wp_region_lit ?_
      refine wl rfl (.int .i64 0) _ (run_asZ (.const (.int .i64 0)) rfl (.int .i64 0) rfl) ?_
      simp only [Act.put, List.setIfInBounds_toArray, List.set_cons_succ, List.set_cons_zero]
      refine wpList_nil ?_
      go_upto_region 1 with fail
      refine wp_region_lit ?_
      refine wl rfl (ptr g) _ (run_mvZ (.tmp 0) rfl (ptr g) rfl) ?_
      simp only [Act.put, List.setIfInBounds_toArray, List.set_cons_succ, List.set_cons_zero]
      refine wl rfl (ptr g) _ (run_nil (.tmp 10) rfl ⟨g, 0, none⟩ rfl) ?_
      simp only [Act.put, List.setIfInBounds_toArray, List.set_cons_succ, List.set_cons_zero]
      refine wl rfl (.pointer (some ⟨g, 0 + 0, none⟩)) _ (run_fieldOp' f47_0 (.tmp 11) rfl g (0) rfl) ?_
      simp only [Act.put, List.setIfInBounds_toArray, List.set_cons_succ, List.set_cons_zero]
      refine wl rfl (.map (some b)) _ (run_load1 o45 (.tmp 12) rfl g (0 + 0) rfl (.map (some b)) (HT.out.1.at 0 _ rfl)) ?_
      simp only [Act.put, List.setIfInBounds_toArray, List.set_cons_succ, List.set_cons_zero]
      refine wl rfl (.int .i64 p) _ (run_mvZ (.tmp 1) rfl (.int .i64 p) rfl) ?_
      simp only [Act.put, List.setIfInBounds_toArray, List.set_cons_succ, List.set_cons_zero]
      refine wl rfl (.tuple #[vx, (.bool true)]) _ (HLK.out (.tmp 13) (.tmp 14) rfl rfl rfl) ?_
      simp only [Act.put, List.setIfInBounds_toArray, List.set_cons_succ, List.set_cons_zero]
      refine wl rfl (.tuple #[vx, (.bool true)]) _ (run_mvZ (.tmp 15) rfl (.tuple #[vx, (.bool true)]) rfl) ?_
      simp only [Act.put, List.setIfInBounds_toArray, List.set_cons_succ, List.set_cons_zero]
      refine wl rfl vx _ (run_extZ (.tmp 9) 0 rfl #[vx, (.bool true)] rfl vx rfl) ?_
      simp only [Act.put, List.setIfInBounds_toArray, List.set_cons_succ, List.set_cons_zero]
      refine wl rfl (.bool true) _ (run_extZ (.tmp 9) 1 rfl #[vx, (.bool true)] rfl (.bool true) rfl) ?_
      simp only [Act.put, List.setIfInBounds_toArray, List.set_cons_succ, List.set_cons_zero]
      refine wl rfl vx _ (run_asZ (.tmp 16) rfl vx rfl) ?_
      simp only [Act.put, List.setIfInBounds_toArray, List.set_cons_succ, List.set_cons_zero]
      refine wl rfl (.bool true) _ (run_asZ (.tmp 17) rfl (.bool true) rfl) ?_
      simp only [Act.put, List.setIfInBounds_toArray, List.set_cons_succ, List.set_cons_zero]
      refine wpList_nil ?_
      go_upto_region 2 with fail
      refine wp_region_lit ?_
      refine wl rfl (.bool true) _ (run_mvZ (.tmp 8) rfl (.bool true) rfl) ?_
      simp only [Act.put, List.setIfInBounds_toArray, List.set_cons_succ, List.set_cons_zero]
      refine wl rfl (.bool false) _ (run_not (.tmp 19) 4 rfl true rfl) ?_
      simp only [Act.put, List.setIfInBounds_toArray, List.set_cons_succ, List.set_cons_zero]
      refine wl rfl (.bool false) _ (run_asZ (.tmp 20) rfl (.bool false) rfl) ?_
      simp only [Act.put, List.setIfInBounds_toArray, List.set_cons_succ, List.set_cons_zero]
      refine wpList_nil ?_
      go_upto_region 4 with fail
      refine wp_region_lit ?_
      refine wl rfl vb _ (run_mvZ (.tmp 2) rfl vb rfl) ?_
      simp only [Act.put, List.setIfInBounds_toArray, List.set_cons_succ, List.set_cons_zero]
      refine wl rfl (.int .i64 (cs.length : Nat)) _ (run_lenB HIN.out (.tmp 22) rfl rfl) ?_
      simp only [Act.put, List.setIfInBounds_toArray, List.set_cons_succ, List.set_cons_zero]
      refine wl rfl vx _ (run_mvZ (.tmp 7) rfl vx rfl) ?_
      simp only [Act.put, List.setIfInBounds_toArray, List.set_cons_succ, List.set_cons_zero]
      refine wl rfl (.int .i64 (x.bs.length : Nat)) _ (run_lenB HXN.out (.tmp 24) rfl rfl) ?_
      simp only [Act.put, List.setIfInBounds_toArray, List.set_cons_succ, List.set_cons_zero]
      refine wl rfl (.int .i64 (512 - (x.bs.length : Nat))) _ (run_subI (.const (.int .i64 512)) (.tmp 25) rfl 512 (x.bs.length : Nat) _ (by omega) (by omega) rfl rfl rfl) ?_
      simp only [Act.put, List.setIfInBounds_toArray, List.set_cons_succ, List.set_cons_zero]
      refine wl rfl (.bool true) _ (run_gtrZ (.tmp 23) (.tmp 26) rfl (cs.length : Nat) (512 - (x.bs.length : Nat)) rfl rfl true hd1) ?_
      simp only [Act.put, List.setIfInBounds_toArray, List.set_cons_succ, List.set_cons_zero]
      refine wl rfl (.bool true) _ (run_asZ (.tmp 27) rfl (.bool true) rfl) ?_
      simp only [Act.put, List.setIfInBounds_toArray, List.set_cons_succ, List.set_cons_zero]
      refine wpList_nil ?_
      go_wp2_with fail
      rw [HPQ.out]
      exact ⟨F, l, by rw [HA.out]; rfl, HST.out, by rw [HA.out], Tn.refl F w⟩

end Go.Proofs.Ytcjanjofjnedbaa

/- Layer 13: Take, Abort, what all have together. -/
import Derived.Test.YtcjanjofjnedbaaS3
namespace Go.Proofs.Ytcjanjofjnedbaa
open Go.RowKit Go.Maps Go.MapKept

theorem BOwn.neRowB {w : World} {base : Nat} {v : Value} {cs : List Nat} (h : BOwn w base v cs) {q T : Nat} {rs : List Value} (hr : Row w q T rs) (hT : T ≠ 5) : v.ownBlock ≠ some q := by
  intro e
  rcases h.2 with ⟨rfl, _⟩ | ⟨g, cap, cur, rfl, _, hg, _⟩
  · cases e
  · have e2 : g = q := Option.some.inj e
    subst e2
    unfold Row at hr
    rw [hg] at hr
    injection hr with hr
    injection hr with _ h2
    exact hT h2.symm
theorem BOwn.neMap {w : World} {base : Nat} {v : Value} {cs : List Nat} (h : BOwn w base v cs) {b n : Nat} {f : Int → Option Sv} (hm : MapI w b n f) : v.ownBlock ≠ some b := by
  intro e
  rcases h.2 with ⟨rfl, _⟩ | ⟨g, cap, cur, rfl, _, hg, _⟩
  · cases e
  · have e2 : g = b := Option.some.inj e
    subst e2
    exact hm.ne_row hg rfl
theorem StAt.took {w : World} {F : Nat → Prop} {g nx b : Nat} {l : List En} {p : Int} {x : En} (h : StAt w F g nx l) (hr : Row w g 47 [.map (some b), .int .i64 (nx : Nat)]) (hF : F b) (hmb : MapI w b l.length (fun p => (look l p).map (·.a))) (hl : look l p = some x) {w1 : World} (hm : MapI w1 b (l.length - 1) (fun q => if q = p then none else (look l q).map (·.a))) (ht : w.mapTurned w1 b) :
    StAt w1 (fun k => F k ∧ svB x.a ≠ some k) g nx (l.filter fun y => decide ((y.no : Int) ≠ p)) ∧ Tn F (fun k => F k ∧ svB x.a ≠ some k) w w1 ∧ BOwn w1 0 (svV x.a) x.bs := by
  have hFg : F g := by obtain ⟨_, _, _, h3, _⟩ := h.top; exact h3
  have hc := mapTurned_ch ht
  have hx := look_some hl
  obtain ⟨o1, o2, o3, o4⟩ := h.own x hx.1
  have kb : ∀ y ∈ l, BOwn w1 0 (svV y.a) y.bs := fun y hy => ownK (h.own y hy).1 fun k e => hc.one k ((h.own y hy).1.lt k e).2 fun e2 => (h.own y hy).1.neMap hmb (e2 ▸ e)
  refine ⟨⟨⟨b, hc.row (fun e => hmb.ne_row hr e.symm) hr, ?_, ⟨hFg, ?_⟩, ⟨hF, ?_⟩⟩, ?_, ?_, ?_, ?_, ?_, ?_⟩, ⟨hc.mono fun i _ e => by rw [e]; exact hF, fun k hk => Or.inl hk.1⟩, kb x hx.1⟩
  · rw [length_drop_one (ord_lt h.ord) hl]
    have e : (fun q : Int => if q = p then none else (look l q).map (·.a)) = fun q => (look (l.filter fun y => decide ((y.no : Int) ≠ p)) q).map (·.a) := by
      funext q
      rw [look_filter]
      split <;> rfl
    rw [e] at hm
    exact hm
  · rw [← svV_block]
    exact o1.neRowB hr (by decide)
  · rw [← svV_block]
    exact o1.neMap hmb
  · intro y hy
    have hm2 := List.mem_filter.1 hy
    obtain ⟨q1, q2, q3, q4⟩ := h.own y hm2.1
    refine ⟨kb y hm2.1, fun k e => ⟨q2 k e, fun e2 => ?_⟩, q3, q4⟩
    have hne : y.no ≠ x.no := fun e3 => by
      have := of_decide_eq_true hm2.2
      rw [e3] at this
      exact this hx.2
    have hp := h.ord
    rcases Nat.lt_or_gt_of_ne hne with hlt | hlt
    · obtain ⟨i, hi, rfl⟩ := List.getElem_of_mem hm2.1
      obtain ⟨j, hj, rfl⟩ := List.getElem_of_mem hx.1
      have hij : i < j := by
        rcases Nat.lt_trichotomy i j with h' | h' | h'
        · exact h'
        · subst h'; omega
        · have := (List.pairwise_iff_getElem.1 hp j i hj hi h').1
          omega
      exact (List.pairwise_iff_getElem.1 hp i j hi hj hij).2 k e e2
    · obtain ⟨i, hi, rfl⟩ := List.getElem_of_mem hm2.1
      obtain ⟨j, hj, rfl⟩ := List.getElem_of_mem hx.1
      have hij : j < i := by
        rcases Nat.lt_trichotomy j i with h' | h' | h'
        · exact h'
        · subst h'; omega
        · have := (List.pairwise_iff_getElem.1 hp i j hi hj h').1
          omega
      exact (List.pairwise_iff_getElem.1 hp j i hj hi hij).2 k e2 e
  · exact h.ord.sublist List.filter_sublist
  · exact fun y hy => h.lt y (List.mem_filter.1 hy).1
  · exact fun k hk => Nat.lt_of_lt_of_le (h.low k hk.1) hc.size
  · exact Nat.le_trans (List.length_filter_le _ _) h.eight
  · exact Nat.le_trans (total_filter _ _) h.all
set_option maxHeartbeats 4000000 in
set_option maxRecDepth 100000 in
theorem take_no {w : World} {F : Nat → Prop} {g nx : Nat} {l : List En} (h : StAt w F g nx l) (p : Int) (hp : Wf p) (hl : look l p = none) : Calls Try.prog 14 #[ptr g, .int .i64 p] w fun e w' => e = .returned (.tuple #[.slice none 0 0, .int .i64 130]) ∧ w = w' := by
  obtain ⟨b, h1, h2, h3, h4⟩ := h.top
  have HT : Hid (Row w g 47 [.map (some b), .int .i64 (nx : Nat)] ∧ MapI w b l.length (fun p => (look l p).map (·.a))) := ⟨h1, h2⟩
  have HFB : Hid (F b) := h4
  have HST : Hid (StAt w F g nx l) := h
  have HLK : Hid (∀ {a : Act} {o : Oper} (m x : Operand), o.op = .lookup 45 m x true → a.eval m = .map (some b) → a.eval x = .int .i64 p → (execOp a.eval o).run Try.prog w = .ok (.value (.tuple #[.slice none 0 0, .bool false])) w) := fun m x ho hm hx => by
    have := run_lookI HT.out.2 m x ho p hp hm hx
    rw [hl] at this
    exact this
  obtain ⟨PQ, hPQ⟩ : ∃ PQ : Ending → World → Prop, PQ = fun (e : Ending) (w' : World) => e = .returned (.tuple #[.slice none 0 0, .int .i64 130]) ∧ w = w' := ⟨_, rfl⟩
  have HPQ : Hid (PQ = fun (e : Ending) (w' : World) => e = .returned (.tuple #[.slice none 0 0, .int .i64 130]) ∧ w = w') := hPQ
  rw [← hPQ]
  clear hPQ h1 h2 h3 h4 h hl
  go_enter Try.func14, Try.ntmps14
  go_upto_region 0 with fail
  refine wp_region_lit ?_
  refine wl rfl (.slice none 0 0) _ (run_asZ (.const (.slice none 0 0)) rfl (.slice none 0 0) rfl) ?_
  simp only [Act.put, List.setIfInBounds_toArray, List.set_cons_succ, List.set_cons_zero]
  refine wl rfl (.int .i64 0) _ (run_asZ (.const (.int .i64 0)) rfl (.int .i64 0) rfl) ?_
  simp only [Act.put, List.setIfInBounds_toArray, List.set_cons_succ, List.set_cons_zero]
  refine wpList_nil ?_
  go_upto_region 1 with fail
  refine wp_region_lit ?_
  refine wl rfl (ptr g) _ (run_mvZ (.tmp 0) rfl (ptr g) rfl) ?_
  simp only [Act.put, List.setIfInBounds_toArray, List.set_cons_succ, List.set_cons_zero]
  refine wl rfl (ptr g) _ (run_nil (.tmp 9) rfl ⟨g, 0, none⟩ rfl) ?_
  simp only [Act.put, List.setIfInBounds_toArray, List.set_cons_succ, List.set_cons_zero]
  refine wl rfl (.pointer (some ⟨g, 0 + 0, none⟩)) _ (run_fieldOp' f47_0 (.tmp 10) rfl g (0) rfl) ?_
  simp only [Act.put, List.setIfInBounds_toArray, List.set_cons_succ, List.set_cons_zero]
  refine wl rfl (.map (some b)) _ (run_load1 o45 (.tmp 11) rfl g (0 + 0) rfl (.map (some b)) (HT.out.1.at 0 _ rfl)) ?_
  simp only [Act.put, List.setIfInBounds_toArray, List.set_cons_succ, List.set_cons_zero]
  refine wl rfl (.int .i64 p) _ (run_mvZ (.tmp 1) rfl (.int .i64 p) rfl) ?_
  simp only [Act.put, List.setIfInBounds_toArray, List.set_cons_succ, List.set_cons_zero]
  refine wl rfl (.tuple #[(.slice none 0 0), (.bool false)]) _ (HLK.out (.tmp 12) (.tmp 13) rfl rfl rfl) ?_
  simp only [Act.put, List.setIfInBounds_toArray, List.set_cons_succ, List.set_cons_zero]
  refine wl rfl (.tuple #[(.slice none 0 0), (.bool false)]) _ (run_mvZ (.tmp 14) rfl (.tuple #[(.slice none 0 0), (.bool false)]) rfl) ?_
  simp only [Act.put, List.setIfInBounds_toArray, List.set_cons_succ, List.set_cons_zero]
  refine wl rfl (.slice none 0 0) _ (run_extZ (.tmp 8) 0 rfl #[(.slice none 0 0), (.bool false)] rfl (.slice none 0 0) rfl) ?_
  simp only [Act.put, List.setIfInBounds_toArray, List.set_cons_succ, List.set_cons_zero]
  refine wl rfl (.bool false) _ (run_extZ (.tmp 8) 1 rfl #[(.slice none 0 0), (.bool false)] rfl (.bool false) rfl) ?_
  simp only [Act.put, List.setIfInBounds_toArray, List.set_cons_succ, List.set_cons_zero]
  refine wl rfl (.slice none 0 0) _ (run_asZ (.tmp 15) rfl (.slice none 0 0) rfl) ?_
  simp only [Act.put, List.setIfInBounds_toArray, List.set_cons_succ, List.set_cons_zero]
  refine wl rfl (.bool false) _ (run_asZ (.tmp 16) rfl (.bool false) rfl) ?_
  simp only [Act.put, List.setIfInBounds_toArray, List.set_cons_succ, List.set_cons_zero]
  refine wpList_nil ?_
  go_upto_region 2 with fail
  refine wp_region_lit ?_
  refine wl rfl (.bool false) _ (run_mvZ (.tmp 7) rfl (.bool false) rfl) ?_
  simp only [Act.put, List.setIfInBounds_toArray, List.set_cons_succ, List.set_cons_zero]
  refine wl rfl (.bool true) _ (run_not (.tmp 17) 4 rfl false rfl) ?_
  simp only [Act.put, List.setIfInBounds_toArray, List.set_cons_succ, List.set_cons_zero]
  refine wpList_nil ?_
  go_wp2_with fail
  rw [HPQ.out]
  exact ⟨rfl, rfl⟩
set_option maxHeartbeats 4000000 in
set_option maxRecDepth 100000 in
theorem take_yes {w : World} {F : Nat → Prop} {g nx : Nat} {l : List En} (h : StAt w F g nx l) (p : Int) (hp : Wf p) {x : En} (hl : look l p = some x) : Calls Try.prog 14 #[ptr g, .int .i64 p] w fun e w' => ∃ F', e = .returned (.tuple #[svV x.a, .int .i64 0]) ∧ StAt w' F' g nx (l.filter fun y => decide ((y.no : Int) ≠ p)) ∧ Tn F F' w w' ∧ BOwn w' 0 (svV x.a) x.bs ∧ (∀ k, F' k → F k ∧ svB x.a ≠ some k) := by
  obtain ⟨b, h1, h2, h3, h4⟩ := h.top
  have HT : Hid (Row w g 47 [.map (some b), .int .i64 (nx : Nat)] ∧ MapI w b l.length (fun p => (look l p).map (·.a))) := ⟨h1, h2⟩
  have HFB : Hid (F b) := h4
  have HST : Hid (StAt w F g nx l) := h
  obtain ⟨vx, hvx⟩ : ∃ v, v = svV x.a := ⟨_, rfl⟩
  have HVX : Hid (vx = svV x.a) := hvx
  have HLK : Hid (∀ {a : Act} {o : Oper} (m x : Operand), o.op = .lookup 45 m x true → a.eval m = .map (some b) → a.eval x = .int .i64 p → (execOp a.eval o).run Try.prog w = .ok (.value (.tuple #[vx, .bool true])) w) := fun m x ho hm hx => by
    have := run_lookI HT.out.2 m x ho p hp hm hx
    rw [hl] at this
    rw [hvx]
    exact this
  have HDR : Hid (∃ w1, (∀ ty, (Builtin.delete_ #[45, 3] ty #[.map (some b), .int .i64 p]).run Try.prog w = .ok (.tuple #[]) w1) ∧ (StAt w1 (fun k => F k ∧ svB x.a ≠ some k) g nx (l.filter fun y => decide ((y.no : Int) ≠ p)) ∧ Tn F (fun k => F k ∧ svB x.a ≠ some k) w w1 ∧ BOwn w1 0 (svV x.a) x.bs)) := by
    obtain ⟨w1, hrun, hm, ht⟩ := HT.out.2.drop p hp (by rw [hl]; rfl) 0
    exact ⟨w1, fun ty => hrun, HST.out.took HT.out.1 HFB.out HT.out.2 hl hm ht⟩
  obtain ⟨PQ, hPQ⟩ : ∃ PQ : Ending → World → Prop, PQ = fun (e : Ending) (w' : World) => ∃ F', e = .returned (.tuple #[svV x.a, .int .i64 0]) ∧ StAt w' F' g nx (l.filter fun y => decide ((y.no : Int) ≠ p)) ∧ Tn F F' w w' ∧ BOwn w' 0 (svV x.a) x.bs ∧ (∀ k, F' k → F k ∧ svB x.a ≠ some k) := ⟨_, rfl⟩
  have HPQ : Hid (PQ = fun (e : Ending) (w' : World) => ∃ F', e = .returned (.tuple #[svV x.a, .int .i64 0]) ∧ StAt w' F' g nx (l.filter fun y => decide ((y.no : Int) ≠ p)) ∧ Tn F F' w w' ∧ BOwn w' 0 (svV x.a) x.bs ∧ (∀ k, F' k → F k ∧ svB x.a ≠ some k)) := hPQ
  rw [← hPQ]
  clear hPQ h1 h2 h3 h4 h hl hvx
  go_enter Try.func14, Try.ntmps14
  go_upto_region 0 with fail
  refine wp_region_lit ?_
  refine wl rfl (.slice none 0 0) _ (run_asZ (.const (.slice none 0 0)) rfl (.slice none 0 0) rfl) ?_
  simp only [Act.put, List.setIfInBounds_toArray, List.set_cons_succ, List.set_cons_zero]
  refine wl rfl (.int .i64 0) _ (run_asZ (.const (.int .i64 0)) rfl (.int .i64 0) rfl) ?_
  simp only [Act.put, List.setIfInBounds_toArray, List.set_cons_succ, List.set_cons_zero]
  refine wpList_nil ?_
  go_upto_region 1 with fail
  refine wp_region_lit ?_
  refine wl rfl (ptr g) _ (run_mvZ (.tmp 0) rfl (ptr g) rfl) ?_
  simp only [Act.put, List.setIfInBounds_toArray, List.set_cons_succ, List.set_cons_zero]
  refine wl rfl (ptr g) _ (run_nil (.tmp 9) rfl ⟨g, 0, none⟩ rfl) ?_
  simp only [Act.put, List.setIfInBounds_toArray, List.set_cons_succ, List.set_cons_zero]
  refine wl rfl (.pointer (some ⟨g, 0 + 0, none⟩)) _ (run_fieldOp' f47_0 (.tmp 10) rfl g (0) rfl) ?_
  simp only [Act.put, List.setIfInBounds_toArray, List.set_cons_succ, List.set_cons_zero]
  refine wl rfl (.map (some b)) _ (run_load1 o45 (.tmp 11) rfl g (0 + 0) rfl (.map (some b)) (HT.out.1.at 0 _ rfl)) ?_
  simp only [Act.put, List.setIfInBounds_toArray, List.set_cons_succ, List.set_cons_zero]
  refine wl rfl (.int .i64 p) _ (run_mvZ (.tmp 1) rfl (.int .i64 p) rfl) ?_
  simp only [Act.put, List.setIfInBounds_toArray, List.set_cons_succ, List.set_cons_zero]
  refine wl rfl (.tuple #[vx, (.bool true)]) _ (HLK.out (.tmp 12) (.tmp 13) rfl rfl rfl) ?_
  simp only [Act.put, List.setIfInBounds_toArray, List.set_cons_succ, List.set_cons_zero]
  refine wl rfl (.tuple #[vx, (.bool true)]) _ (run_mvZ (.tmp 14) rfl (.tuple #[vx, (.bool true)]) rfl) ?_
  simp only [Act.put, List.setIfInBounds_toArray, List.set_cons_succ, List.set_cons_zero]
  refine wl rfl vx _ (run_extZ (.tmp 8) 0 rfl #[vx, (.bool true)] rfl vx rfl) ?_
  simp only [Act.put, List.setIfInBounds_toArray, List.set_cons_succ, List.set_cons_zero]
  refine wl rfl (.bool true) _ (run_extZ (.tmp 8) 1 rfl #[vx, (.bool true)] rfl (.bool true) rfl) ?_
  simp only [Act.put, List.setIfInBounds_toArray, List.set_cons_succ, List.set_cons_zero]
  refine wl rfl vx _ (run_asZ (.tmp 15) rfl vx rfl) ?_
  simp only [Act.put, List.setIfInBounds_toArray, List.set_cons_succ, List.set_cons_zero]
  refine wl rfl (.bool true) _ (run_asZ (.tmp 16) rfl (.bool true) rfl) ?_
  simp only [Act.put, List.setIfInBounds_toArray, List.set_cons_succ, List.set_cons_zero]
  refine wpList_nil ?_
  go_upto_region 2 with fail
  refine wp_region_lit ?_
  refine wl rfl (.bool true) _ (run_mvZ (.tmp 7) rfl (.bool true) rfl) ?_
  simp only [Act.put, List.setIfInBounds_toArray, List.set_cons_succ, List.set_cons_zero]
  refine wl rfl (.bool false) _ (run_not (.tmp 17) 4 rfl true rfl) ?_
  simp only [Act.put, List.setIfInBounds_toArray, List.set_cons_succ, List.set_cons_zero]
  refine wpList_nil ?_
  go_upto_region 4 with fail
  refine wp_region_lit ?_
  refine wl rfl (ptr g) _ (run_mvZ (.tmp 0) rfl (ptr g) rfl) ?_
  simp only [Act.put, List.setIfInBounds_toArray, List.set_cons_succ, List.set_cons_zero]
  refine wl rfl (ptr g) _ (run_nil (.tmp 19) rfl ⟨g, 0, none⟩ rfl) ?_
  simp only [Act.put, List.setIfInBounds_toArray, List.set_cons_succ, List.set_cons_zero]
  refine wl rfl (.pointer (some ⟨g, 0 + 0, none⟩)) _ (run_fieldOp' f47_0 (.tmp 20) rfl g (0) rfl) ?_
  simp only [Act.put, List.setIfInBounds_toArray, List.set_cons_succ, List.set_cons_zero]
  refine wl rfl (.map (some b)) _ (run_load1 o45 (.tmp 21) rfl g (0 + 0) rfl (.map (some b)) (HT.out.1.at 0 _ rfl)) ?_
  simp only [Act.put, List.setIfInBounds_toArray, List.set_cons_succ, List.set_cons_zero]
  refine wl rfl (.int .i64 p) _ (run_mvZ (.tmp 1) rfl (.int .i64 p) rfl) ?_
  simp only [Act.put, List.setIfInBounds_toArray, List.set_cons_succ, List.set_cons_zero]
  obtain ⟨w1, hrun, HM⟩ := HDR.out
  refine wl rfl (.tuple #[]) w1 (run_delI (.tmp 22) (.tmp 23) rfl p rfl rfl (hrun _)) ?_
  simp only [Act.put]
  clear hrun
  refine wpList_nil ?_
  go_wp2_with fail
  rw [HPQ.out]
  exact ⟨_, by rw [HVX.out]; rfl, HM.1, HM.2.1, HM.2.2, fun k hk => hk⟩
set_option maxHeartbeats 4000000 in
set_option maxRecDepth 100000 in
theorem abort_no {w : World} {F : Nat → Prop} {g nx : Nat} {l : List En} (h : StAt w F g nx l) (p : Int) (hp : Wf p) (hl : look l p = none) : Calls Try.prog 16 #[ptr g, .int .i64 p] w fun e w' => e = .returned (.int .i64 130) ∧ w = w' := by
  have HH : Hid (StAt w F g nx l) := h
  have HL : Hid (look l p = none) := hl
  obtain ⟨PQ, hPQ⟩ : ∃ PQ : Ending → World → Prop, PQ = fun (e : Ending) (w' : World) => e = .returned (.int .i64 130) ∧ w = w' := ⟨_, rfl⟩
  have HPQ : Hid (PQ = fun (e : Ending) (w' : World) => e = .returned (.int .i64 130) ∧ w = w') := hPQ
  rw [← hPQ]
  clear hPQ h hl
  go_enter Try.func16, Try.ntmps16
  go_upto_region 0 with fail
  refine wp_region_lit ?_
  refine wl rfl (.int .i64 0) _ (run_asZ (.const (.int .i64 0)) rfl (.int .i64 0) rfl) ?_
  simp only [Act.put, List.setIfInBounds_toArray, List.set_cons_succ, List.set_cons_zero]
  refine wpList_nil ?_
  go_upto_region 1 with fail
  refine wp_region_lit ?_
  refine wl rfl (ptr g) _ (run_mvZ (.tmp 0) rfl (ptr g) rfl) ?_
  simp only [Act.put, List.setIfInBounds_toArray, List.set_cons_succ, List.set_cons_zero]
  refine wl rfl (.int .i64 p) _ (run_mvZ (.tmp 1) rfl (.int .i64 p) rfl) ?_
  simp only [Act.put, List.setIfInBounds_toArray, List.set_cons_succ, List.set_cons_zero]
  refine wpList_callW eN14 [.tmp 8, .tmp 9] _ rfl rfl [(ptr g), (.int .i64 p)] rfl ?_
  refine (take_no HH.out p hp HL.out).mono ?_
  rintro e w1 ⟨rfl, e1⟩
  refine ⟨_, rfl, ?_⟩
  subst e1
  simp only [Act.put, List.setIfInBounds_toArray, List.set_cons_succ, List.set_cons_zero]
  refine wl rfl (.tuple #[.slice none 0 0, .int .i64 130]) _ (run_mvZ (.tmp 10) rfl (.tuple #[.slice none 0 0, .int .i64 130]) rfl) ?_
  simp only [Act.put, List.setIfInBounds_toArray, List.set_cons_succ, List.set_cons_zero]
  refine wl rfl (.slice none 0 0) _ (run_extZ (.tmp 7) 0 rfl #[(.slice none 0 0), (.int .i64 130)] rfl (.slice none 0 0) rfl) ?_
  simp only [Act.put, List.setIfInBounds_toArray, List.set_cons_succ, List.set_cons_zero]
  refine wl rfl (.int .i64 130) _ (run_extZ (.tmp 7) 1 rfl #[(.slice none 0 0), (.int .i64 130)] rfl (.int .i64 130) rfl) ?_
  simp only [Act.put, List.setIfInBounds_toArray, List.set_cons_succ, List.set_cons_zero]
  refine wl rfl (.slice none 0 0) _ (run_asZ (.tmp 11) rfl (.slice none 0 0) rfl) ?_
  simp only [Act.put, List.setIfInBounds_toArray, List.set_cons_succ, List.set_cons_zero]
  refine wl rfl (.int .i64 130) _ (run_asZ (.tmp 12) rfl (.int .i64 130) rfl) ?_
  simp only [Act.put, List.setIfInBounds_toArray, List.set_cons_succ, List.set_cons_zero]
  refine wpList_nil ?_
  go_wp2_with fail
  rw [HPQ.out]
  exact ⟨rfl, rfl⟩
set_option maxHeartbeats 4000000 in
set_option maxRecDepth 100000 in
theorem abort_yes {w : World} {F : Nat → Prop} {g nx : Nat} {l : List En} (h : StAt w F g nx l) (p : Int) (hp : Wf p) {x : En} (hl : look l p = some x) : Calls Try.prog 16 #[ptr g, .int .i64 p] w fun e w' => ∃ F', e = .returned (.int .i64 0) ∧ StAt w' F' g nx (l.filter fun y => decide ((y.no : Int) ≠ p)) ∧ Tn F F' w w' := by
  have HH : Hid (StAt w F g nx l) := h
  have HL : Hid (look l p = some x) := hl
  obtain ⟨PQ, hPQ⟩ : ∃ PQ : Ending → World → Prop, PQ = fun (e : Ending) (w' : World) => ∃ F', e = .returned (.int .i64 0) ∧ StAt w' F' g nx (l.filter fun y => decide ((y.no : Int) ≠ p)) ∧ Tn F F' w w' := ⟨_, rfl⟩
  have HPQ : Hid (PQ = fun (e : Ending) (w' : World) => ∃ F', e = .returned (.int .i64 0) ∧ StAt w' F' g nx (l.filter fun y => decide ((y.no : Int) ≠ p)) ∧ Tn F F' w w') := hPQ
  rw [← hPQ]
  clear hPQ h hl
  go_enter Try.func16, Try.ntmps16
  go_upto_region 0 with fail
  refine wp_region_lit ?_
  refine wl rfl (.int .i64 0) _ (run_asZ (.const (.int .i64 0)) rfl (.int .i64 0) rfl) ?_
  simp only [Act.put, List.setIfInBounds_toArray, List.set_cons_succ, List.set_cons_zero]
  refine wpList_nil ?_
  go_upto_region 1 with fail
  refine wp_region_lit ?_
  refine wl rfl (ptr g) _ (run_mvZ (.tmp 0) rfl (ptr g) rfl) ?_
  simp only [Act.put, List.setIfInBounds_toArray, List.set_cons_succ, List.set_cons_zero]
  refine wl rfl (.int .i64 p) _ (run_mvZ (.tmp 1) rfl (.int .i64 p) rfl) ?_
  simp only [Act.put, List.setIfInBounds_toArray, List.set_cons_succ, List.set_cons_zero]
  refine wpList_callW eN14 [.tmp 8, .tmp 9] _ rfl rfl [(ptr g), (.int .i64 p)] rfl ?_
  refine (take_yes HH.out p hp HL.out).mono ?_
  rintro e w1 ⟨F1, rfl, s1, t1, o1, d1⟩
  refine ⟨_, rfl, ?_⟩
  have HE : Hid (StAt w1 F1 g nx (l.filter fun y => decide ((y.no : Int) ≠ p)) ∧ Tn F F1 w w1) := ⟨s1, t1⟩
  clear s1 t1 o1 d1
  simp only [Act.put, List.setIfInBounds_toArray, List.set_cons_succ, List.set_cons_zero]
  refine wl rfl (.tuple #[svV x.a, .int .i64 0]) _ (run_mvZ (.tmp 10) rfl (.tuple #[svV x.a, .int .i64 0]) rfl) ?_
  simp only [Act.put, List.setIfInBounds_toArray, List.set_cons_succ, List.set_cons_zero]
  refine wl rfl (svV x.a) _ (run_extZ (.tmp 7) 0 rfl #[(svV x.a), (.int .i64 0)] rfl (svV x.a) rfl) ?_
  simp only [Act.put, List.setIfInBounds_toArray, List.set_cons_succ, List.set_cons_zero]
  refine wl rfl (.int .i64 0) _ (run_extZ (.tmp 7) 1 rfl #[(svV x.a), (.int .i64 0)] rfl (.int .i64 0) rfl) ?_
  simp only [Act.put, List.setIfInBounds_toArray, List.set_cons_succ, List.set_cons_zero]
  refine wl rfl (svV x.a) _ (run_asZ (.tmp 11) rfl (svV x.a) rfl) ?_
  simp only [Act.put, List.setIfInBounds_toArray, List.set_cons_succ, List.set_cons_zero]
  refine wl rfl (.int .i64 0) _ (run_asZ (.tmp 12) rfl (.int .i64 0) rfl) ?_
  simp only [Act.put, List.setIfInBounds_toArray, List.set_cons_succ, List.set_cons_zero]
  refine wpList_nil ?_
  go_wp2_with fail
  rw [HPQ.out]
  exact ⟨F1, rfl, HE.out.1, HE.out.2⟩
theorem run_entryO {w : World} {a : Act} {o : Oper} (it : Operand) (ho : o.op = .entry it) {pv : Value} (hx : a.eval it = pv) {r : Value} (hr : (Instr.entry pv).run Try.prog w = .ok r w) : (execOp a.eval o).run Try.prog w = .ok (.value r) w := by
  simp [execOp, ho, hx, hr]
/-- while the bytes are counted -/
def StgI (w W : World) (b : Nat) (l : List En) (D : DataW Unit) (s : Nat) : Prop := ∃ left cnt, W.ranges Try.prog 3 svR b w.heap.size l.length D left cnt ∧ s + sumL left l = total l ∧ Below w.heap.size w W
set_option maxHeartbeats 4000000 in
set_option maxRecDepth 100000 in
theorem staged_any {w : World} {F : Nat → Prop} {g nx : Nat} {l : List En} (h : StAt w F g nx l) : Calls Try.prog 20 #[ptr g] w fun e w' => e = .returned (.int .i64 (total l : Nat)) ∧ Below w.heap.size w w' := by
  obtain ⟨b, h1, h2, h3, h4⟩ := h.top
  have HT : Hid (Row w g 47 [.map (some b), .int .i64 (nx : Nat)] ∧ MapI w b l.length (fun p => (look l p).map (·.a))) := ⟨h1, h2⟩
  have HFB : Hid (F b) := h4
  have HST : Hid (StAt w F g nx l) := h
  obtain ⟨D, hD1, _, hD2, hD3⟩ := HT.out.2
  have HD : Hid (w.ownsMap Try.prog 3 svR b l.length D ∧ (∀ p, Maps.has D (keyI p) = ((look l p).map (·.a)).isSome) ∧ (∀ p a, (look l p).map (·.a) = some a → ∀ z, D.atKey (keyI p) z = svD a)) := ⟨hD1, hD2, hD3⟩
  have HAS : Hid (∀ x ∈ l, Maps.has D (keyI (x.no : Int)) = true) := fun x hx => by
    rw [hD2]
    dsimp only
    cases hf : look l (x.no : Int) with
    | none => exact absurd rfl (look_none hf x hx)
    | some e => rfl
  obtain ⟨PQ, hPQ⟩ : ∃ PQ : Ending → World → Prop, PQ = fun (e : Ending) (w' : World) => e = .returned (.int .i64 (total l : Nat)) ∧ Below w.heap.size w w' := ⟨_, rfl⟩
  have HPQ : Hid (PQ = fun (e : Ending) (w' : World) => e = .returned (.int .i64 (total l : Nat)) ∧ Below w.heap.size w w') := hPQ
  rw [← hPQ]
  clear hPQ h1 h2 h3 h4 h hD1 hD2 hD3
  go_enter Try.func20, Try.ntmps20
  go_upto_region 0 with fail
  refine wp_region_lit ?_
  refine wl rfl (.int .i64 0) _ (run_asZ (.const (.int .i64 0)) rfl (.int .i64 0) rfl) ?_
  simp only [Act.put, List.setIfInBounds_toArray, List.set_cons_succ, List.set_cons_zero]
  refine wpList_nil ?_
  go_upto_region 1 with fail
  refine wp_region_lit ?_
  refine wl rfl (.int .i64 0) _ (run_asZ (.const (.int .i64 0)) rfl (.int .i64 0) rfl) ?_
  simp only [Act.put, List.setIfInBounds_toArray, List.set_cons_succ, List.set_cons_zero]
  refine wpList_nil ?_
  go_upto_region 2 with fail
  refine wp_region_lit ?_
  refine wl rfl (ptr g) _ (run_mvZ (.tmp 0) rfl (ptr g) rfl) ?_
  simp only [Act.put, List.setIfInBounds_toArray, List.set_cons_succ, List.set_cons_zero]
  refine wl rfl (ptr g) _ (run_nil (.tmp 6) rfl ⟨g, 0, none⟩ rfl) ?_
  simp only [Act.put, List.setIfInBounds_toArray, List.set_cons_succ, List.set_cons_zero]
  refine wl rfl (.pointer (some ⟨g, 0 + 0, none⟩)) _ (run_fieldOp' f47_0 (.tmp 7) rfl g (0) rfl) ?_
  simp only [Act.put, List.setIfInBounds_toArray, List.set_cons_succ, List.set_cons_zero]
  refine wl rfl (.map (some b)) _ (run_load1 o45 (.tmp 8) rfl g (0 + 0) rfl (.map (some b)) (HT.out.1.at 0 _ rfl)) ?_
  simp only [Act.put, List.setIfInBounds_toArray, List.set_cons_succ, List.set_cons_zero]
  refine wpList_range_own _ rfl (.tmp 9) 45 rfl 3 28 law3 map45 svR b l.length D rfl HD.out.1 ?_
  intro w0 hrg0 hg0 hs0
  have R0 : Hid (w0.ranges Try.prog 3 svR b w.heap.size l.length D (Maps.has D) (Maps.size D) ∧ Below w.heap.size w w0) := ⟨hrg0, (Below.refl _ w).grown hg0 (Nat.le_refl _) (fun k e => by cases e)⟩
  clear hrg0 hg0 hs0
  simp only [Act.put, List.setIfInBounds_toArray, List.set_cons_succ, List.set_cons_zero]
  refine wpList_nil ?_
  go_wp2_with fail
  go_loopw [3] (fun vs W => ∃ (s : Nat), vs = .int .i64 (s : Nat) ∧ StgI w W b l D s) (fun _ W => W.rangeLeft b w.heap.size)
  case atStart => exact ⟨0, rfl, _, _, R0.out.1, by rw [sumL_all _ _ fun x hx => HAS.out x hx]; omega, R0.out.2⟩
  case round =>
    obtain ⟨s, rfl, left, cnt, hrg, hsum, hbl⟩ := hrel
    have HRG : Hid (wr.ranges Try.prog 3 svR b w.heap.size l.length D left cnt) := hrg
    have HSM : Hid (s + sumL left l = total l) := hsum
    have HBL : Hid (Below w.heap.size w wr) := hbl
    clear hrg hsum hbl R0
    go_upto_region 3 with fail
    refine wp_region_lit ?_
    refine wpList_next_ranges _ rfl (.tmp 10) rfl 3 law3 svR (fun x : Int => Value.int .i64 x) svV (fun key kl hk => by obtain ⟨x, rfl, _⟩ := Maps.keyOf_int_inv Try.underlying3 hk; exact ⟨x, rfl⟩) (fun v y hv => by obtain ⟨c, rfl, _⟩ := svR_inv hv; exact ⟨c, rfl⟩) b w.heap.size l.length D left cnt rfl HRG.out ?_ ?_
    · intro _ hl0
      have HZ : Hid (s = total l) := by
        have h1 := HSM.out
        rw [sumL_none _ _ hl0] at h1
        exact h1
      clear hl0
      simp only [Act.put, List.setIfInBounds_toArray, List.set_cons_succ, List.set_cons_zero]
      refine wl rfl (.bool false) _ (run_extZ (.tmp 11) 0 rfl #[.bool false] rfl (.bool false) rfl) ?_
      simp only [Act.put, List.setIfInBounds_toArray, List.set_cons_succ, List.set_cons_zero]
      refine wpList_nil ?_
      go_wp2_with fail
      rw [HPQ.out]
      exact ⟨by rw [← HZ.out]; try rfl, HBL.out⟩
    · intro x c kl y w1 cnt1 hkey hlx hv hat hrg1 hlt hg1 hs1 hen
      have HE : Hid (∃ e : En, look l x = some e ∧ e.a = c ∧ kl = keyI x) := by
        obtain ⟨x', ex, rfl, _⟩ := Maps.keyOf_int_inv Try.underlying3 hkey
        cases ex
        obtain ⟨c', ec, rfl⟩ := svR_inv hv
        have ec := svV_inj ec
        subst ec
        have hh := has_true_of_atKey hat
        rw [show (Lit.int .i64 x) = keyI x from rfl, HD.out.2.1 x] at hh
        cases hf : look l x with
        | none => rw [hf] at hh; cases hh
        | some e =>
          have h2 := HD.out.2.2 x e.a (by rw [hf]; rfl) (.agg [])
          have h3 := hat (.agg [])
          rw [show (Lit.int .i64 x) = keyI x from rfl, h2] at h3
          exact ⟨e, rfl, svD_inj h3, rfl⟩
      obtain ⟨e, he, hea, hkl⟩ := HE.out
      have HR1 : Hid (w1.ranges Try.prog 3 svR b w.heap.size l.length D (fun z => left z && !z.sameKey (keyI x)) cnt1 ∧ cnt1 < cnt ∧ Below w.heap.size w w1) := ⟨by rw [← hkl]; exact hrg1, hlt, HBL.out.grown hg1 HBL.out.size (fun k e => by injection e with e; omega)⟩
      have HS1 : Hid (sumL (fun z => left z && !z.sameKey (keyI x)) l + e.bs.length = sumL left l) := sumL_step left (ord_lt HST.out.ord) he (by rw [← hkl]; exact hlx)
      have HIN : Hid (SliceIn w (svV c) e.bs) := by
        have h1 := HST.out.own e (look_some he).1
        rw [← hea]
        exact h1.1.slice h1.2.2.1 (by have := h1.2.2.2; omega)
      have HEN : Hid ((Instr.entry (.pointer (some ⟨w.heap.size, 0, none⟩))).run Try.prog w1 = .ok (.tuple #[.int .i64 x, svV c]) w1) := hen
      obtain ⟨n1, hn1⟩ : ∃ n1, n1 = e.bs.length := ⟨_, rfl⟩
      have HN1 : Hid (n1 = e.bs.length) := hn1
      have HTL : Hid (s + n1 + sumL (fun z => left z && !z.sameKey (keyI x)) l = total l ∧ total l ≤ 2048) := ⟨by have h1 := HS1.out; have h2 := HSM.out; omega, HST.out.all⟩
      clear hkey hlx hv hat hrg1 hlt hg1 hs1 hen HE he hea hkl hn1
      simp only [Act.put, List.setIfInBounds_toArray, List.set_cons_succ, List.set_cons_zero]
      refine wl rfl (.bool true) _ (run_extZ (.tmp 11) 0 rfl #[.bool true, .int .i64 x, svV c] rfl (.bool true) rfl) ?_
      simp only [Act.put, List.setIfInBounds_toArray, List.set_cons_succ, List.set_cons_zero]
      refine wpList_nil ?_
      go_upto_region 4 with fail
      refine wp_region_lit ?_
      refine wl rfl (.tuple #[.int .i64 x, svV c]) _ (run_entryO (.tmp 10) rfl rfl HEN.out) ?_
      simp only [Act.put, List.setIfInBounds_toArray, List.set_cons_succ, List.set_cons_zero]
      refine wl rfl (svV c) _ (run_extZ (.tmp 13) 1 rfl #[(.int .i64 x), (svV c)] rfl (svV c) rfl) ?_
      simp only [Act.put, List.setIfInBounds_toArray, List.set_cons_succ, List.set_cons_zero]
      refine wl rfl (svV c) _ (run_asZ (.tmp 14) rfl (svV c) rfl) ?_
      simp only [Act.put, List.setIfInBounds_toArray, List.set_cons_succ, List.set_cons_zero]
      refine wpList_nil ?_
      go_upto_region 5 with fail
      refine wp_region_lit ?_
      refine wl rfl (.int .i64 (s : Nat)) _ (run_mvZ (.tmp 3) rfl (.int .i64 (s : Nat)) rfl) ?_
      simp only [Act.put, List.setIfInBounds_toArray, List.set_cons_succ, List.set_cons_zero]
      refine wl rfl (svV c) _ (run_mvZ (.tmp 5) rfl (svV c) rfl) ?_
      simp only [Act.put, List.setIfInBounds_toArray, List.set_cons_succ, List.set_cons_zero]
      refine wl rfl (.int .i64 (n1 : Nat)) _ ((HN1.out ▸ run_lenB HIN.out (.tmp 16) rfl rfl)) ?_
      simp only [Act.put, List.setIfInBounds_toArray, List.set_cons_succ, List.set_cons_zero]
      refine wl rfl (.int .i64 ((s + n1 : Nat) : Int)) _ (run_addI (.tmp 15) (.tmp 17) rfl (s : Nat) (n1 : Nat) ((s + n1 : Nat) : Int) (by omega) (by have := HTL.out; omega) (by omega) rfl rfl) ?_
      simp only [Act.put, List.setIfInBounds_toArray, List.set_cons_succ, List.set_cons_zero]
      refine wl rfl (.int .i64 ((s + n1 : Nat) : Int)) _ (run_asZ (.tmp 18) rfl (.int .i64 ((s + n1 : Nat) : Int)) rfl) ?_
      simp only [Act.put, List.setIfInBounds_toArray, List.set_cons_succ, List.set_cons_zero]
      refine wpList_nil ?_
      go_wp2_with fail
      refine ⟨⟨s + n1, rfl, _, _, HR1.out.1, HTL.out.1, HR1.out.2.2⟩, ?_⟩
      rw [HR1.out.1.left_eq, HRG.out.left_eq]
      exact HR1.out.2.1

end Go.Proofs.Ytcjanjofjnedbaa

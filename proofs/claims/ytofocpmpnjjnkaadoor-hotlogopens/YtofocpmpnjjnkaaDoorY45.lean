/- Layer 14: the document's Open. -/
import Derived.Test.YtofocpmpnjjnkaaDoorY44
namespace Go.Proofs.YtofocpmpnjjnkaaDoor
open Go.RowKit Go.Maps


/-- as many rows of nothing -/
def BsO (W : World) (v : Value) (k : Nat) : Prop := W.ownsRow 0 28 1 v k (List.replicate k (.slice none 0 0))
theorem info28z : (Tryd.prog.info? 28).map (fun i => (i.zero, i.size, i.bytes)) = some (some (.slice none 0 0), 1, 24) := by kernel_rfl
theorem run_lit57n {w : World} {a : Act} {o : Oper} (ho : o.op = .buildSlice 57 1 #[(0, .const (.slice none 0 0))]) : (execOp a.eval o).run Tryd.prog w = .ok (.value (whole w.heap.size 1)) (w.alloc (.cells ([.slice none 0 0] : List Value).toArray 28)) := by
  have hr : (Instr.buildSlice 57 1 #[(0, .slice none 0 0)]).run Tryd.prog w = .ok (whole w.heap.size 1) (w.alloc (.cells ([.slice none 0 0] : List Value).toArray 28)) := by kernel_rfl
  have he : a.eval (.const (.slice none 0 0)) = .slice none 0 0 := rfl
  simp only [execOp, ho, List.map_toArray, List.map_cons, List.map_nil, he, hr, Sem.run_bind, Sem.run_pure, Result.andThen_ok]
theorem own_ne {W : World} {base e sz n : Nat} {v : Value} {xs : List Value} (h : W.ownsRow base e sz v n xs) {b T : Nat} {cs : List Value} (hb : v.ownBlock = some b) (hr : Row W b T cs) (hT : T ≠ e) : False := by
  rcases h.2 with ⟨rfl, _⟩ | ⟨g, cap, cur, rfl, _, hg, _⟩
  · cases hb
  · injection hb with hb
    have hb : g = b := hb
    subst hb
    unfold Row at hr
    rw [hg] at hr
    injection hr with hr
    injection hr with _ hr
    exact hT hr.symm
theorem own_ne2 {W : World} {base e sz n base' e' sz' n' : Nat} {v v' : Value} {xs xs' : List Value} (h : W.ownsRow base e sz v n xs) (h' : W.ownsRow base' e' sz' v' n' xs') {b : Nat} (hb : v.ownBlock = some b) (hb' : v'.ownBlock = some b) (hT : e ≠ e') : False := by
  rcases h.2 with ⟨rfl, _⟩ | ⟨g, cap, cur, rfl, _, hg, _⟩
  · cases hb
  · injection hb with hb
    have hb : g = b := hb
    subst hb
    rcases h'.2 with ⟨rfl, _⟩ | ⟨g', cap', cur', rfl, _, hg', _⟩
    · cases hb'
    · injection hb' with hb'
      have hb' : g' = g := hb'
      subst hb'
      rw [hg] at hg'
      injection hg' with hr
      injection hr with _ hr
      exact hT hr
theorem sz4b : (Tryd.prog.info? 4).map (·.size) = some 1 := by kernel_rfl
theorem sz43 : (Tryd.prog.info? 43).map (·.size) = some 1 := by kernel_rfl
theorem sz57 : (Tryd.prog.info? 57).map (·.size) = some 1 := by kernel_rfl
theorem appTy57 {w : World} (ty ty' : TypeId) (v vx : Value) : (Builtin.append_ #[57, 57] ty #[v, vx]).run Tryd.prog w = (Builtin.append_ #[57, 57] ty' #[v, vx]).run Tryd.prog w := rfl
/-- the document's disk while it is opened -/
structure RO (w W : World) (gr d n : Nat) (vU vB : Value) (qs : List (Nat × Nat)) : Prop where
  row : Row W gr 60 [.int .i64 (d : Nat), .int .i64 (n : Nat), vU, vB]
  u : PlO W vU (qs.map (pqOf d))
  b : BsO W vB qs.length
  below : Below w.heap.size w W
  ge : w.heap.size ≤ gr
  ug : ∀ b, vU.ownBlock = some b → w.heap.size ≤ b
  bg : ∀ b, vB.ownBlock = some b → w.heap.size ≤ b
section
variable {w W W' : World} {gr d n q : Nat} {vU vB : Value} {qs : List (Nat × Nat)}
theorem RO.bel (h : RO w W gr d n vU vB qs) (hb : Below W.heap.size W W') : RO w W' gr d n vU vB qs :=
  ⟨h.row.later hb h.row.lt, h.u.kept fun b e => hb.block b (h.u.lt e), ownK h.b fun b e => hb.block b ((World.ownsRow.lt h.b b e).2), h.below.trans (hb.mono h.below.size), h.ge, h.ug, h.bg⟩
theorem RO.put (h : RO w W gr d n vU vB qs) (hc : Ch (· = q) W W') (hq : w.heap.size ≤ q) (h1 : gr ≠ q) (h2 : ∀ b, vU.ownBlock = some b → b ≠ q) (h3 : ∀ b, vB.ownBlock = some b → b ≠ q) : RO w W' gr d n vU vB qs :=
  ⟨hc.row h1 h.row, h.u.kept fun b e => hc.block b (h.u.lt e) (h2 b e), ownK h.b fun b e => hc.block b ((World.ownsRow.lt h.b b e).2) (h3 b e), h.below.trans (hc.below h.below.size fun k hk e => by omega), h.ge, h.ug, h.bg⟩
end
set_option maxHeartbeats 4000000 in
set_option maxRecDepth 100000 in
theorem ropenArg_any (w : World) (g : Nat) (dv : Int) (hd : dv < 0 ∨ 2 ≤ dv) (vu : Value) : Calls Tryd.prog 19 #[whole g 2, .int .i64 dv, vu] w fun e w' => e = .returned (.tuple #[.pointer none, .int .i64 1]) ∧ Below w.heap.size w w' := by
  have HD : Hid (dv < 0 ∨ 2 ≤ dv) := hd
  clear hd
  obtain ⟨PQ, hPQ⟩ : ∃ PQ : Ending → World → Prop, PQ = fun (e : Ending) (w' : World) => e = .returned (.tuple #[.pointer none, .int .i64 1]) ∧ Below w.heap.size w w' := ⟨_, rfl⟩
  have HPQ : Hid (PQ = fun (e : Ending) (w' : World) => e = .returned (.tuple #[.pointer none, .int .i64 1]) ∧ Below w.heap.size w w') := hPQ
  rw [← hPQ]
  clear hPQ
  go_enter Tryd.func19, Tryd.ntmps19
  go_upto_region 0 with fail
  refine wp_region_lit ?_
  refine wl rfl (.pointer none) _ (run_asZ (.const (.pointer none)) rfl (.pointer none) rfl) ?_
  simp only [Act.put, aS, aC, aZ]
  refine wl rfl (.int .i64 0) _ (run_asZ (.const (.int .i64 0)) rfl (.int .i64 0) rfl) ?_
  simp only [Act.put, aS, aC, aZ]
  refine wpList_nil ?_
  by_cases h0 : dv < 0
  · go_upto_region 1 with fail
    refine wp_region_lit ?_
    refine wl rfl (.int .i64 dv) _ (run_mvZ (.tmp 1) rfl (.int .i64 dv) rfl) ?_
    simp only [Act.put, aS, aC, aZ]
    refine wl rfl (.bool true) _ (run_lssZ (.tmp 12) (.const (.int .i64 0)) rfl dv 0 rfl rfl true (decide_eq_true h0)) ?_
    simp only [Act.put, aS, aC, aZ]
    refine wl rfl (.bool true) _ (run_mvZ (.tmp 13) rfl (.bool true) rfl) ?_
    simp only [Act.put, aS, aC, aZ]
    refine wpList_skip (by kernel_rfl) ?_
    simp only [Act.put, aS, aC, aZ]
    refine wpList_skip (by kernel_rfl) ?_
    simp only [Act.put, aS, aC, aZ]
    refine wpList_skip (by kernel_rfl) ?_
    simp only [Act.put, aS, aC, aZ]
    refine wpList_skip (by kernel_rfl) ?_
    simp only [Act.put, aS, aC, aZ]
    refine wl rfl (.bool true) _ (run_pickZ (.tmp 14) (.const (.bool true)) (.tmp 18) rfl true (.bool true) rfl rfl) ?_
    simp only [Act.put, aS, aC, aZ]
    refine wpList_nil ?_
    go_upto_region 2 with fail
    refine wp_region_lit ?_
    refine wl rfl (.pointer none) _ (run_asZ (.const (.pointer none)) rfl (.pointer none) rfl) ?_
    simp only [Act.put, aS, aC, aZ]
    refine wl rfl (.int .i64 1) _ (run_asZ (.const (.int .i64 1)) rfl (.int .i64 1) rfl) ?_
    simp only [Act.put, aS, aC, aZ]
    refine wpList_nil ?_
    go_wp2_with fail
    rw [HPQ.out]
    exact ⟨rfl, Below.refl _ _⟩
  · have h1 : ((2 : Nat) : Int) ≤ dv := HD.out.resolve_left h0
    go_upto_region 1 with fail
    refine wp_region_lit ?_
    refine wl rfl (.int .i64 dv) _ (run_mvZ (.tmp 1) rfl (.int .i64 dv) rfl) ?_
    simp only [Act.put, aS, aC, aZ]
    refine wl rfl (.bool false) _ (run_lssZ (.tmp 12) (.const (.int .i64 0)) rfl dv 0 rfl rfl false (decide_eq_false h0)) ?_
    simp only [Act.put, aS, aC, aZ]
    refine wl rfl (.bool false) _ (run_mvZ (.tmp 13) rfl (.bool false) rfl) ?_
    simp only [Act.put, aS, aC, aZ]
    refine wl (by kernel_rfl) (.int .i64 dv) _ (run_mvZ (.tmp 1) rfl (.int .i64 dv) rfl) ?_
    simp only [Act.put, aS, aC, aZ]
    refine wl (by kernel_rfl) (whole g 2) _ (run_mvZ (.tmp 0) rfl (whole g 2) rfl) ?_
    simp only [Act.put, aS, aC, aZ]
    refine wl (by kernel_rfl) (.int .i64 ((2 : Nat) : Int)) _ (run_lenZ sl31 (.tmp 16) rfl (some ⟨g, 0, none⟩) 2 2 rfl) ?_
    simp only [Act.put, aS, aC, aZ]
    refine wl (by kernel_rfl) (.bool true) _ (run_geqZ (.tmp 15) (.tmp 17) rfl dv ((2 : Nat) : Int) rfl rfl true (decide_eq_true h1)) ?_
    simp only [Act.put, aS, aC, aZ]
    refine wl rfl (.bool true) _ (run_pickZ (.tmp 14) (.const (.bool true)) (.tmp 18) rfl false (.bool true) rfl rfl) ?_
    simp only [Act.put, aS, aC, aZ]
    refine wpList_nil ?_
    go_upto_region 2 with fail
    refine wp_region_lit ?_
    refine wl rfl (.pointer none) _ (run_asZ (.const (.pointer none)) rfl (.pointer none) rfl) ?_
    simp only [Act.put, aS, aC, aZ]
    refine wl rfl (.int .i64 1) _ (run_asZ (.const (.int .i64 1)) rfl (.int .i64 1) rfl) ?_
    simp only [Act.put, aS, aC, aZ]
    refine wpList_nil ?_
    go_wp2_with fail
    rw [HPQ.out]
    exact ⟨rfl, Below.refl _ _⟩
set_option maxHeartbeats 4000000 in
set_option maxRecDepth 100000 in
theorem ropen_any {w : World} {g d n : Nat} {vu : Value} {us : List Pq} {cs : List Value} (hr : Row w g 3 cs) (hd : d < 2) (hcs : cs[d]? = some (.int .i64 (n : Nat))) (hn : n ≤ 4096) (hu : PlsIn w vu us) : Calls Tryd.prog 19 #[whole g 2, .int .i64 (d : Nat), vu] w fun e w' => Below w.heap.size w w' ∧ ((opr d (n / 16) us [] = none ∧ e = .returned (.tuple #[.pointer none, .int .i64 31])) ∨ ∃ gr vU vB qs, opr d (n / 16) us [] = some qs ∧ e = .returned (.tuple #[ptr gr, .int .i64 0]) ∧ w.heap.size ≤ gr ∧ RfU w' gr d n vU vB (qs.map (pqOf d)) ∧ Apt (n / 16) qs) := by
  have hul : us.length ≤ 140737488355328 := (by obtain ⟨_, _, _, _, h, _⟩ := hu; exact h)
  have HM : Hid (PlsIn w vu us ∧ w.cell? ⟨g, d, none⟩ = some (.int .i64 (n : Nat))) := ⟨hu, hr.at d _ hcs⟩
  clear hr hcs hu
  obtain ⟨PQ, hPQ⟩ : ∃ PQ : Ending → World → Prop, PQ = fun (e : Ending) (w' : World) => Below w.heap.size w w' ∧ ((opr d (n / 16) us [] = none ∧ e = .returned (.tuple #[.pointer none, .int .i64 31])) ∨ ∃ gr vU vB qs, opr d (n / 16) us [] = some qs ∧ e = .returned (.tuple #[ptr gr, .int .i64 0]) ∧ w.heap.size ≤ gr ∧ RfU w' gr d n vU vB (qs.map (pqOf d)) ∧ Apt (n / 16) qs) := ⟨_, rfl⟩
  have HPQ : Hid (PQ = fun (e : Ending) (w' : World) => Below w.heap.size w w' ∧ ((opr d (n / 16) us [] = none ∧ e = .returned (.tuple #[.pointer none, .int .i64 31])) ∨ ∃ gr vU vB qs, opr d (n / 16) us [] = some qs ∧ e = .returned (.tuple #[ptr gr, .int .i64 0]) ∧ w.heap.size ≤ gr ∧ RfU w' gr d n vU vB (qs.map (pqOf d)) ∧ Apt (n / 16) qs)) := hPQ
  rw [← hPQ]
  clear hPQ
  go_enter Tryd.func19, Tryd.ntmps19
  go_upto_region 0 with fail
  refine wp_region_lit ?_
  refine wl rfl (.pointer none) _ (run_asZ (.const (.pointer none)) rfl (.pointer none) rfl) ?_
  simp only [Act.put, aS, aC, aZ]
  refine wl rfl (.int .i64 0) _ (run_asZ (.const (.int .i64 0)) rfl (.int .i64 0) rfl) ?_
  simp only [Act.put, aS, aC, aZ]
  refine wpList_nil ?_
  go_upto_region 1 with fail
  refine wp_region_lit ?_
  refine wl rfl (.int .i64 (d : Nat)) _ (run_mvZ (.tmp 1) rfl (.int .i64 (d : Nat)) rfl) ?_
  simp only [Act.put, aS, aC, aZ]
  refine wl rfl (.bool false) _ (run_lssZ (.tmp 12) (.const (.int .i64 0)) rfl (d : Nat) 0 rfl rfl false (decide_eq_false (by omega))) ?_
  simp only [Act.put, aS, aC, aZ]
  refine wl rfl (.bool false) _ (run_mvZ (.tmp 13) rfl (.bool false) rfl) ?_
  simp only [Act.put, aS, aC, aZ]
  refine wl (by kernel_rfl) (.int .i64 (d : Nat)) _ (run_mvZ (.tmp 1) rfl (.int .i64 (d : Nat)) rfl) ?_
  simp only [Act.put, aS, aC, aZ]
  refine wl (by kernel_rfl) (whole g 2) _ (run_mvZ (.tmp 0) rfl (whole g 2) rfl) ?_
  simp only [Act.put, aS, aC, aZ]
  refine wl (by kernel_rfl) (.int .i64 ((2 : Nat) : Int)) _ (run_lenZ sl31 (.tmp 16) rfl (some ⟨g, 0, none⟩) 2 2 rfl) ?_
  simp only [Act.put, aS, aC, aZ]
  refine wl (by kernel_rfl) (.bool false) _ (run_geqZ (.tmp 15) (.tmp 17) rfl (d : Nat) ((2 : Nat) : Int) rfl rfl false (decide_eq_false (by omega))) ?_
  simp only [Act.put, aS, aC, aZ]
  refine wl rfl (.bool false) _ (run_pickZ (.tmp 14) (.const (.bool true)) (.tmp 18) rfl false (.bool false) rfl rfl) ?_
  simp only [Act.put, aS, aC, aZ]
  refine wpList_nil ?_
  go_upto_region 3 with fail
  refine wp_region_lit ?_
  refine wl rfl (.int .i64 (d : Nat)) _ (run_mvZ (.tmp 1) rfl (.int .i64 (d : Nat)) rfl) ?_
  simp only [Act.put, aS, aC, aZ]
  refine wl rfl (whole g 2) _ (run_mvZ (.tmp 0) rfl (whole g 2) rfl) ?_
  simp only [Act.put, aS, aC, aZ]
  refine wl rfl (.int .i64 (d : Nat)) _ (run_mvZ (.tmp 1) rfl (.int .i64 (d : Nat)) rfl) ?_
  simp only [Act.put, aS, aC, aZ]
  refine wl rfl (.pointer (some ⟨g, d, none⟩)) _ (run_idx (.tmp 21) (.tmp 22) rfl _ _ _ rfl rfl (ix31 g 2 d hd)) ?_
  simp only [Act.put, aS, aC, aZ]
  refine wl rfl (.int .i64 (n : Nat)) _ (run_load1 o3 (.tmp 23) rfl g (d) rfl (.int .i64 (n : Nat)) HM.out.2) ?_
  simp only [Act.put, aS, aC, aZ]
  refine wl rfl (.agg (rcells0 (d : Nat) (n : Nat)).toArray) _ (run_build60 (.tmp 20) (.tmp 24) rfl (d : Nat) (n : Nat) rfl rfl) ?_
  simp only [Act.put, aS, aC, aZ]
  refine wl rfl (ptr w.heap.size) _ (run_boxA (.tmp 25) rfl (rcells0 (d : Nat) (n : Nat)) rfl) ?_
  have hb_ := below_alloc w (.cells (rcells0 (d : Nat) (n : Nat)).toArray 60)
  have r_ := Row.new w 60 (rcells0 (d : Nat) (n : Nat))
  obtain ⟨w1, hW_⟩ : ∃ W, W = w.alloc (.cells (rcells0 (d : Nat) (n : Nat)).toArray 60) := ⟨_, rfl⟩
  obtain ⟨gr, hq_⟩ : ∃ q, q = w.heap.size := ⟨_, rfl⟩
  rw [← hW_] at hb_
  rw [← hW_, ← hq_] at r_
  rw [← hW_, ← hq_]
  have H1 : Hid (RO w w1 gr d n (.slice none 0 0) (.slice none 0 0) []) := ⟨r_, World.ownsRow_nil _ _ _ _, World.ownsRow_nil _ _ _ _, hb_, by omega, fun b e => (by cases e), fun b e => (by cases e)⟩
  clear r_ hb_ hW_ hq_
  simp only [Act.put, aS, aC, aZ]
  refine wl rfl (ptr gr) _ (run_asZ (.tmp 26) rfl (ptr gr) rfl) ?_
  simp only [Act.put, aS, aC, aZ]
  refine wpList_nil ?_
  go_upto_region 4 with fail
  refine wp_region_lit ?_
  refine wl rfl (.int .i64 0) _ (run_asZ (.const (.int .i64 0)) rfl (.int .i64 0) rfl) ?_
  simp only [Act.put, aS, aC, aZ]
  refine wpList_nil ?_
  go_wp2_with fail
  go_loopw [9] (fun vi W => ∃ i : Nat, vi = .int .i64 (i : Nat) ∧ i ≤ us.length ∧ Hid (∃ vU vB qs, RO w W gr d n vU vB qs ∧ opr d (n / 16) us [] = opr d (n / 16) (us.drop i) qs ∧ Apt (n / 16) qs)) (fun vi _ => us.length - (intOf vi).toNat)
  case atStart => exact ⟨0, rfl, Nat.zero_le _, ⟨_, _, _, H1.out, rfl, Apt.nil _⟩⟩
  case round =>
    obtain ⟨i, rfl, hi, HI0⟩ := hrel
    obtain ⟨vU, vB, qs, hI⟩ := HI0.out
    have hql := hI.2.2.len
    have hqm : (qs.map (pqOf d)).length = qs.length := List.length_map _
    have HI : Hid (RO w wr gr d n vU vB qs ∧ opr d (n / 16) us [] = opr d (n / 16) (us.drop i) qs ∧ Apt (n / 16) qs ∧ (qs.map (pqOf d)).length = qs.length ∧ ∀ u ∈ qs, u.1 ≤ 1000000 ∧ u.2 ≤ 1000000) := ⟨hI.1, hI.2.1, hI.2.2, hqm, fun u hu => (by have := hI.2.2.ok u hu; omega)⟩
    clear hI HI0 hqm
    by_cases hlt : i < us.length
    · go_upto_region 5 with fail
      refine wp_region_lit ?_
      refine wl rfl (.int .i64 (i : Nat)) _ (run_mvZ (.tmp 9) rfl (.int .i64 (i : Nat)) rfl) ?_
      simp only [Act.put, aS, aC, aZ]
      refine wl rfl vu _ (run_mvZ (.tmp 2) rfl vu rfl) ?_
      simp only [Act.put, aS, aC, aZ]
      refine wl rfl (.int .i64 (us.length : Nat)) _ (run_lenP HM.out.1 (.tmp 28) rfl rfl) ?_
      simp only [Act.put, aS, aC, aZ]
      refine wl rfl (.bool true) _ (run_lssZ (.tmp 27) (.tmp 29) rfl (i : Nat) (us.length : Nat) rfl rfl true (decide_eq_true (by omega))) ?_
      simp only [Act.put, aS, aC, aZ]
      refine wpList_nil ?_
      obtain ⟨bu, ju, hxu, hok, hcu⟩ := ix_pl HM.out.1 i hlt
      obtain ⟨x, hx⟩ : ∃ x, x = us.getD i default := ⟨_, rfl⟩
      rw [← hx] at hok hcu
      have HX : Hid (x = us.getD i default ∧ x.ok ∧ (∀ w', (Instr.indexAt 43 vu (.int .i64 (i : Nat))).run Tryd.prog w' = .ok (.pointer (some ⟨bu, ju, none⟩)) w') ∧ ∀ j u, x.cells[j]? = some u → wr.cell? ⟨bu, ju + j, none⟩ = some u) := ⟨hx, hok, hxu, hcu wr HI.out.1.below⟩
      clear hx hok hxu hcu
      go_upto_region 7 with fail
      refine wp_region_lit ?_
      refine wl rfl vu _ (run_mvZ (.tmp 2) rfl vu rfl) ?_
      simp only [Act.put, aS, aC, aZ]
      refine wl rfl (.int .i64 (i : Nat)) _ (run_mvZ (.tmp 9) rfl (.int .i64 (i : Nat)) rfl) ?_
      simp only [Act.put, aS, aC, aZ]
      refine wl rfl (.pointer (some ⟨bu, ju, none⟩)) _ (run_idx (.tmp 33) (.tmp 34) rfl _ _ _ rfl rfl HX.out.2.2.1) ?_
      simp only [Act.put, aS, aC, aZ]
      refine wl rfl (.agg (x.cells).toArray) _ (run_loadA ag30 (.tmp 35) rfl bu (ju) rfl (x.cells) rfl HX.out.2.2.2) ?_
      simp only [Act.put, aS, aC, aZ]
      refine wl rfl (ptr wr.heap.size) _ (run_allocA (plC 0 0 0 false) zero30 rfl) ?_
      have hb_ := below_alloc wr (.cells (plC 0 0 0 false).toArray 30)
      have r_ := Row.new wr 30 (plC 0 0 0 false)
      obtain ⟨W1, hW_⟩ : ∃ W, W = wr.alloc (.cells (plC 0 0 0 false).toArray 30) := ⟨_, rfl⟩
      obtain ⟨q, hq_⟩ : ∃ q, q = wr.heap.size := ⟨_, rfl⟩
      rw [← hW_] at hb_
      rw [← hW_, ← hq_] at r_
      rw [← hW_, ← hq_]
      have HQ : Hid (Row W1 q 30 (plC 0 0 0 false) ∧ w.heap.size ≤ q ∧ gr ≠ q ∧ (∀ b, vU.ownBlock = some b → b ≠ q) ∧ (∀ b, vB.ownBlock = some b → b ≠ q)) := ⟨r_, (by have := HI.out.1.below.size; omega), (by have := HI.out.1.row.lt; omega), fun b e => (by have := HI.out.1.u.lt e; omega), fun b e => (by have := (World.ownsRow.lt HI.out.1.b b e).2; omega)⟩
      have HA : Hid (RO w W1 gr d n vU vB qs) := HI.out.1.bel hb_
      clear r_ hb_ hW_ hq_
      simp only [Act.put, aS, aC, aZ]
      refine wlS rfl rfl _ (run_storeA ag30 (.tmp 10) (.tmp 36) rfl q 30 rfl x.cells _ rfl rfl HQ.out.1 rfl (plC_one _ _ _ _)) ?_
      have hb_ := (Ch.setRow (S := (· = q)) (Ch.refl _ W1) (Or.inl rfl) x.cells.toArray)
      have r_ := HQ.out.1.setRow x.cells
      obtain ⟨W2, hW_⟩ : ∃ W, W = W1.setRow q x.cells.toArray := ⟨_, rfl⟩
      rw [← hW_] at hb_ r_ ⊢
      replace HA : Hid (RO w W2 gr d n vU vB qs) := HA.out.put hb_ HQ.out.2.1 HQ.out.2.2.1 HQ.out.2.2.2.1 HQ.out.2.2.2.2
      replace HQ : Hid (Row W2 q 30 x.cells ∧ w.heap.size ≤ q ∧ gr ≠ q ∧ (∀ b, vU.ownBlock = some b → b ≠ q) ∧ (∀ b, vB.ownBlock = some b → b ≠ q)) := ⟨r_, HQ.out.2⟩
      clear hW_ r_ hb_
      refine wpList_nil ?_
      go_upto_region 8 with fail
      refine wp_region_lit ?_
      refine wl rfl (.pointer (some ⟨q, 0 + 3, none⟩)) _ (run_fieldOp' f30_3 (.tmp 10) rfl q (0) rfl) ?_
      simp only [Act.put, aS, aC, aZ]
      refine wlS rfl rfl _ (run_putRow (t := 4) sz4b (.tmp 37) (.const (.bool false)) rfl q (0 + 3) 30 _ rfl (.bool false) rfl ⟨rfl, rfl⟩ HQ.out.1 (by decide : 0 + 3 < 4)) ?_
      have hb_ := (Ch.refl (· = q) W2).setCell (Or.inl rfl) (0 + 3) (.bool false)
      have r_ := HQ.out.1.setCell (0 + 3) (.bool false)
      obtain ⟨W3, hW_⟩ : ∃ U_ : World, U_ = W2.setCell ⟨q, 0 + 3, none⟩ (.bool false) := ⟨_, rfl⟩
      rw [← hW_] at hb_ r_ ⊢
      replace HA : Hid (RO w W3 gr d n vU vB qs) := HA.out.put hb_ HQ.out.2.1 HQ.out.2.2.1 HQ.out.2.2.2.1 HQ.out.2.2.2.2
      replace HQ : Hid (Row W3 q 30 (plC x.dv x.at_ x.ln false) ∧ w.heap.size ≤ q ∧ gr ≠ q ∧ (∀ b, vU.ownBlock = some b → b ≠ q) ∧ (∀ b, vB.ownBlock = some b → b ≠ q)) := ⟨r_, HQ.out.2⟩
      clear hb_ r_ hW_
      refine wpList_nil ?_
      obtain ⟨pl, hpl⟩ : ∃ b, isPl d (n / 16) x.dv x.at_ x.ln = b := ⟨_, rfl⟩
      have HPL : Hid (isPl d (n / 16) x.dv x.at_ x.ln = pl) := hpl
      clear hpl
      cases pl with
      | false =>
        go_upto_region 9 with fail
        refine wp_region_lit ?_
        refine wl rfl (ptr gr) _ (run_mvZ (.tmp 8) rfl (ptr gr) rfl) ?_
        simp only [Act.put, aS, aC, aZ]
        refine wl rfl (.agg ((plC x.dv x.at_ x.ln false)).toArray) _ (run_loadA ag30 (.tmp 10) rfl q (0) rfl ((plC x.dv x.at_ x.ln false)) rfl (rows_one HQ.out.1)) ?_
        simp only [Act.put, aS, aC, aZ]
        refine wpList_callW eN38 [.tmp 38, .tmp 39] _ rfl rfl [(ptr gr), (.agg ((plC x.dv x.at_ x.ln false)).toArray)] rfl ?_
        refine (rplace_any ⟨HA.out.row, HA.out.u⟩ hn x.dv x.at_ x.ln false HX.out.2.1.2.1).mono ?_
        rintro e W4 ⟨he_, hb_⟩
        rw [HPL.out] at he_
        subst he_
        refine ⟨_, rfl, ?_⟩
        replace HQ : Hid (Row W4 q 30 (plC x.dv x.at_ x.ln false) ∧ w.heap.size ≤ q ∧ gr ≠ q ∧ (∀ b, vU.ownBlock = some b → b ≠ q) ∧ (∀ b, vB.ownBlock = some b → b ≠ q)) := ⟨HQ.out.1.later hb_ HQ.out.1.lt, HQ.out.2⟩
        replace HA : Hid (RO w W4 gr d n vU vB qs) := HA.out.bel hb_
        clear hb_
        simp only [Act.put, aS, aC, aZ]
        refine wl rfl (.bool true) _ (run_not (.tmp 40) 4 rfl false rfl) ?_
        simp only [Act.put, aS, aC, aZ]
        refine wpList_nil ?_
        go_upto_region 10 with fail
        refine wp_region_lit ?_
        refine wl rfl (.pointer none) _ (run_asZ (.const (.pointer none)) rfl (.pointer none) rfl) ?_
        simp only [Act.put, aS, aC, aZ]
        refine wl rfl (.int .i64 31) _ (run_asZ (.const (.int .i64 31)) rfl (.int .i64 31) rfl) ?_
        simp only [Act.put, aS, aC, aZ]
        refine wpList_nil ?_
        go_wp2_with fail
        rw [HPQ.out]
        refine ⟨HA.out.below, Or.inl ⟨?_, rfl⟩⟩
        rw [HI.out.2.1]
        refine opr_stop hlt fun hh => ?_
        rw [← HX.out.1] at hh
        rw [HPL.out] at hh
        exact absurd hh.1 (by decide)
      | true =>
        go_upto_region 9 with fail
        refine wp_region_lit ?_
        refine wl rfl (ptr gr) _ (run_mvZ (.tmp 8) rfl (ptr gr) rfl) ?_
        simp only [Act.put, aS, aC, aZ]
        refine wl rfl (.agg ((plC x.dv x.at_ x.ln false)).toArray) _ (run_loadA ag30 (.tmp 10) rfl q (0) rfl ((plC x.dv x.at_ x.ln false)) rfl (rows_one HQ.out.1)) ?_
        simp only [Act.put, aS, aC, aZ]
        refine wpList_callW eN38 [.tmp 38, .tmp 39] _ rfl rfl [(ptr gr), (.agg ((plC x.dv x.at_ x.ln false)).toArray)] rfl ?_
        refine (rplace_any ⟨HA.out.row, HA.out.u⟩ hn x.dv x.at_ x.ln false HX.out.2.1.2.1).mono ?_
        rintro e W4 ⟨he_, hb_⟩
        rw [HPL.out] at he_
        subst he_
        refine ⟨_, rfl, ?_⟩
        replace HQ : Hid (Row W4 q 30 (plC x.dv x.at_ x.ln false) ∧ w.heap.size ≤ q ∧ gr ≠ q ∧ (∀ b, vU.ownBlock = some b → b ≠ q) ∧ (∀ b, vB.ownBlock = some b → b ≠ q)) := ⟨HQ.out.1.later hb_ HQ.out.1.lt, HQ.out.2⟩
        replace HA : Hid (RO w W4 gr d n vU vB qs) := HA.out.bel hb_
        clear hb_
        simp only [Act.put, aS, aC, aZ]
        refine wl rfl (.bool false) _ (run_not (.tmp 40) 4 rfl true rfl) ?_
        simp only [Act.put, aS, aC, aZ]
        refine wpList_nil ?_
        have hpn := isPl_nat HPL.out
        obtain ⟨A, hA⟩ : ∃ A, A = x.at_.toNat := ⟨_, rfl⟩
        obtain ⟨l, hl⟩ : ∃ l, l = x.ln.toNat := ⟨_, rfl⟩
        rw [← hA, ← hl] at hpn
        have HP : Hid ((plC x.dv x.at_ x.ln false) = plC (d : Nat) (A : Nat) (l : Nat) false ∧ natP x = (A, l) ∧ A ≤ 100000 ∧ l ≤ 16) := ⟨by rw [hpn.1, hpn.2.1, hpn.2.2.1], by unfold natP; rw [← hA, ← hl], by omega, by omega⟩
        have hAl : A ≤ 100000 ∧ l ≤ 16 := HP.out.2.2
        clear hpn hA hl
        go_upto_region 11 with fail
        refine wp_region_lit ?_
        refine wl rfl (.int .i64 0) _ (run_asZ (.const (.int .i64 0)) rfl (.int .i64 0) rfl) ?_
        simp only [Act.put, aS, aC, aZ]
        refine wpList_nil ?_
        obtain ⟨WO, hWO⟩ : ∃ U_ : World, U_ = W4 := ⟨_, rfl⟩
        clear hWO
        go_wp2_with fail
        go_loopw [11] (fun vk W => ∃ k : Nat, vk = .int .i64 (k : Nat) ∧ k ≤ qs.length ∧ Hid (RO w W gr d n vU vB qs ∧ Row W q 30 (plC (d : Nat) (A : Nat) (l : Nat) false) ∧ ∀ j, j < k → ¬ ((qs.getD j default).1 < A + l ∧ A < (qs.getD j default).1 + (qs.getD j default).2))) (fun vk _ => qs.length - (intOf vk).toNat)
        case atStart => exact ⟨0, rfl, Nat.zero_le _, ⟨HA.out, (by rw [← HP.out.1]; exact HQ.out.1), fun j hj => absurd hj (Nat.not_lt_zero _)⟩⟩
        case round =>
          obtain ⟨k, rfl, hk, HJ⟩ := hrel
          by_cases hkl : k < qs.length
          · go_upto_region 12 with fail
            refine wp_region_lit ?_
            refine wl rfl (.int .i64 (k : Nat)) _ (run_mvZ (.tmp 11) rfl (.int .i64 (k : Nat)) rfl) ?_
            simp only [Act.put, aS, aC, aZ]
            refine wl rfl (ptr gr) _ (run_mvZ (.tmp 8) rfl (ptr gr) rfl) ?_
            simp only [Act.put, aS, aC, aZ]
            refine wl rfl (ptr gr) _ (run_nil (.tmp 43) rfl ⟨gr, 0, none⟩ rfl) ?_
            simp only [Act.put, aS, aC, aZ]
            refine wl rfl (.pointer (some ⟨gr, 0 + 2, none⟩)) _ (run_fieldOp' f60_2 (.tmp 44) rfl gr (0) rfl) ?_
            simp only [Act.put, aS, aC, aZ]
            refine wl rfl vU _ (run_load1 o43 (.tmp 45) rfl gr (0 + 2) rfl vU (HJ.out.1.row.at 2 _ rfl)) ?_
            simp only [Act.put, aS, aC, aZ]
            refine wl rfl (.int .i64 (qs.length : Nat)) _ (run_lenPI HJ.out.1.u HI.out.2.2.2.1 (.tmp 46) rfl rfl) ?_
            simp only [Act.put, aS, aC, aZ]
            refine wl rfl (.bool true) _ (run_lssZ (.tmp 42) (.tmp 47) rfl (k : Nat) (qs.length : Nat) rfl rfl true (decide_eq_true (by omega))) ?_
            simp only [Act.put, aS, aC, aZ]
            refine wpList_nil ?_
            obtain ⟨bF, _, hx_, hc_⟩ := HJ.out.1.u.ix k (by rw [HI.out.2.2.2.1]; exact hkl)
            rw [pqOf_at d hkl] at hc_
            obtain ⟨u, hu⟩ : ∃ u, u = qs.getD k default := ⟨_, rfl⟩
            rw [← hu] at hc_
            have hub : u.1 ≤ 1000000 ∧ u.2 ≤ 1000000 := (by rw [hu, List.getD_eq_getElem?_getD, List.getElem?_eq_getElem hkl]; exact HI.out.2.2.2.2 _ (List.getElem_mem hkl))
            have HY : Hid ((∀ w', (Instr.indexAt 43 vU (.int .i64 (k : Nat))).run Tryd.prog w' = .ok (.pointer (some ⟨bF, k * 4, none⟩)) w') ∧ (∀ W : World, PlO W vU (qs.map (pqOf d)) → ∀ (j : Nat) x, (pqOf d u).cells[j]? = some x → W.cell? ⟨bF, k * 4 + j, none⟩ = some x) ∧ u = qs.getD k default) := ⟨hx_, hc_, hu⟩
            clear hx_ hc_ hu
            obtain ⟨mb, hmb⟩ : ∃ b, decide (u.1 < A + l ∧ A < u.1 + u.2) = b := ⟨_, rfl⟩
            have HMB : Hid (decide (u.1 < A + l ∧ A < u.1 + u.2) = mb) := hmb
            clear hmb
            go_upto_region 14 with fail
            refine wp_region_held (S := fun X => Row X gr 60 [.int .i64 (d : Nat), .int .i64 (n : Nat), vU, vB] ∧ PlO X vU (qs.map (pqOf d)) ∧ Row X q 30 (plC (d : Nat) (A : Nat) (l : Nat) false)) (by kernel_rfl) ?_
            show wpAnyH _ _ _ _ _ 9 (Array.replicate 9 false) _ _
            obtain ⟨X, hX⟩ : ∃ X : World, X = { wr with drawn := wr.drawn + 1 } := ⟨_, rfl⟩
            rw [← hX]
            have HBX : Hid (Below wr.heap.size wr X) := (by rw [hX]; exact ⟨rfl, rfl, rfl, Nat.le_refl _, fun _ _ => rfl⟩)
            have HJX : Hid (RO w X gr d n vU vB qs) := HJ.out.1.bel HBX.out
            have HS_ : Row X gr 60 [.int .i64 (d : Nat), .int .i64 (n : Nat), vU, vB] ∧ PlO X vU (qs.map (pqOf d)) ∧ Row X q 30 (plC (d : Nat) (A : Nat) (l : Nat) false) := ⟨HJX.out.row, HJX.out.u, HJ.out.2.1.later HBX.out HJ.out.2.1.lt⟩
            clear hX
            refine takeH (i := 0) (some 51) rfl rfl (by kernel_rfl) (by kernel_rfl) (by kernel_rfl) (fun _ _ _ h => h) (gRun rfl (ptr gr) fun _ h => run_mvZ (.tmp 8) rfl (ptr gr) rfl) HS_ ?_
            simp only [Act.put, aS, aC, aZ]
            refine takeH (i := 1) (some 52) rfl rfl (by kernel_rfl) (by kernel_rfl) (by kernel_rfl) (fun _ _ _ h => h) (gRun rfl (ptr gr) fun _ h => run_nil (.tmp 51) rfl ⟨gr, 0, none⟩ rfl) HS_ ?_
            simp only [Act.put, aS, aC, aZ]
            refine takeH (i := 2) (some 53) rfl rfl (by kernel_rfl) (by kernel_rfl) (by kernel_rfl) (fun _ _ _ h => h) (gRun rfl (.pointer (some ⟨gr, 0 + 2, none⟩)) fun _ h => run_fieldOp' f60_2 (.tmp 52) rfl gr (0) rfl) HS_ ?_
            simp only [Act.put, aS, aC, aZ]
            refine takeH (i := 3) (some 54) rfl rfl (by kernel_rfl) (by kernel_rfl) (by kernel_rfl) (fun _ _ _ h => h) (gRun rfl vU fun _ h => run_load1 o43 (.tmp 53) rfl gr (0 + 2) rfl vU (h.1.at 2 _ rfl)) HS_ ?_
            simp only [Act.put, aS, aC, aZ]
            refine takeH (i := 4) (some 55) rfl rfl (by kernel_rfl) (by kernel_rfl) (by kernel_rfl) (fun _ _ _ h => h) (gRun rfl (.int .i64 (k : Nat)) fun _ h => run_mvZ (.tmp 11) rfl (.int .i64 (k : Nat)) rfl) HS_ ?_
            simp only [Act.put, aS, aC, aZ]
            refine takeH (i := 5) (some 56) rfl rfl (by kernel_rfl) (by kernel_rfl) (by kernel_rfl) (fun _ _ _ h => h) (gRun rfl (.pointer (some ⟨bF, k * 4, none⟩)) fun _ h => run_idx (.tmp 54) (.tmp 55) rfl _ _ _ rfl rfl HY.out.1) HS_ ?_
            simp only [Act.put, aS, aC, aZ]
            refine takeH (i := 6) (some 57) rfl rfl (by kernel_rfl) (by kernel_rfl) (by kernel_rfl) (fun _ _ _ h => h) (gRun rfl (.agg ((pqOf d u).cells).toArray) fun _ h => run_loadA ag30 (.tmp 56) rfl bF (k * 4) rfl ((pqOf d u).cells) rfl (HY.out.2.1 _ h.2.1)) HS_ ?_
            simp only [Act.put, aS, aC, aZ]
            refine takeH (i := 7) (some 58) rfl rfl (by kernel_rfl) (by kernel_rfl) (by kernel_rfl) (fun _ _ _ h => h) (gRun rfl (.agg ((plC (d : Nat) (A : Nat) (l : Nat) false)).toArray) fun _ h => run_loadA ag30 (.tmp 10) rfl q (0) rfl ((plC (d : Nat) (A : Nat) (l : Nat) false)) rfl (rows_one h.2.2)) HS_ ?_
            simp only [Act.put, aS, aC, aZ]
            refine oneH (i := 8) (by kernel_rfl) ?_
            refine opCallG (some 59) rfl rfl rfl 39 _ (run_call eN39 [.tmp 57, .tmp 58] _ rfl [(.agg ((pqOf d u).cells).toArray), (.agg ((plC (d : Nat) (A : Nat) (l : Nat) false)).toArray)] rfl) ?_
            refine (meet_any X (d : Nat) (d : Nat) u.1 u.2 A l false false ⟨by omega, by omega, by omega, by omega⟩).mono ?_
            rintro e Y5 ⟨he_, hb_⟩
            rw [HMB.out] at he_
            subst he_
            replace HS_ : Row Y5 gr 60 [.int .i64 (d : Nat), .int .i64 (n : Nat), vU, vB] ∧ PlO Y5 vU (qs.map (pqOf d)) ∧ Row Y5 q 30 (plC (d : Nat) (A : Nat) (l : Nat) false) := ⟨HS_.1.later hb_ HS_.1.lt, HS_.2.1.kept fun b e => hb_.block b (HS_.2.1.lt e), HS_.2.2.later hb_ HS_.2.2.lt⟩
            have H5 : Hid (RO w Y5 gr d n vU vB qs ∧ Row Y5 q 30 (plC (d : Nat) (A : Nat) (l : Nat) false)) := ⟨HJX.out.bel hb_, HS_.2.2⟩
            clear hb_
            refine ⟨_, rfl, ?_⟩
            refine ⟨HS_, ?_⟩
            simp only [Act.put, aS, aC, aZ]
            refine wpAnyH_done (by kernel_rfl) ?_ _
            cases mb with
            | false =>
              go_wp2_with fail
              refine ⟨⟨k + 1, by go_num, by omega, ⟨H5.out.1, H5.out.2, fun j hj => ?_⟩⟩, ?_⟩
              · rcases Nat.lt_or_ge j k with q_ | q_
                · exact HJ.out.2.2 j q_
                · have ej : j = k := (by omega)
                  rw [ej, ← HY.out.2.2]
                  exact of_decide_eq_false HMB.out
              · simp [intOf]; omega
            | true =>
              go_upto_region 15 with fail
              refine wp_region_lit ?_
              refine wl rfl (.pointer none) _ (run_asZ (.const (.pointer none)) rfl (.pointer none) rfl) ?_
              simp only [Act.put, aS, aC, aZ]
              refine wl rfl (.int .i64 31) _ (run_asZ (.const (.int .i64 31)) rfl (.int .i64 31) rfl) ?_
              simp only [Act.put, aS, aC, aZ]
              refine wpList_nil ?_
              replace HA : Hid (RO w Y5 gr d n vU vB qs) := H5.out.1
              go_wp2_with fail
              rw [HPQ.out]
              refine ⟨HA.out.below, Or.inl ⟨?_, rfl⟩⟩
              rw [HI.out.2.1]
              refine opr_stop hlt fun hh => ?_
              rw [← HX.out.1] at hh
              have h1 := of_decide_eq_true HMB.out
              have h2 := hh.2 u (by rw [HY.out.2.2, List.getD_eq_getElem?_getD, List.getElem?_eq_getElem hkl]; exact List.getElem_mem hkl)
              rw [HP.out.2.1] at h2
              have h2 : u.1 + u.2 ≤ A ∨ A + l ≤ u.1 := h2
              omega
          · go_upto_region 12 with fail
            refine wp_region_lit ?_
            refine wl rfl (.int .i64 (k : Nat)) _ (run_mvZ (.tmp 11) rfl (.int .i64 (k : Nat)) rfl) ?_
            simp only [Act.put, aS, aC, aZ]
            refine wl rfl (ptr gr) _ (run_mvZ (.tmp 8) rfl (ptr gr) rfl) ?_
            simp only [Act.put, aS, aC, aZ]
            refine wl rfl (ptr gr) _ (run_nil (.tmp 43) rfl ⟨gr, 0, none⟩ rfl) ?_
            simp only [Act.put, aS, aC, aZ]
            refine wl rfl (.pointer (some ⟨gr, 0 + 2, none⟩)) _ (run_fieldOp' f60_2 (.tmp 44) rfl gr (0) rfl) ?_
            simp only [Act.put, aS, aC, aZ]
            refine wl rfl vU _ (run_load1 o43 (.tmp 45) rfl gr (0 + 2) rfl vU (HJ.out.1.row.at 2 _ rfl)) ?_
            simp only [Act.put, aS, aC, aZ]
            refine wl rfl (.int .i64 (qs.length : Nat)) _ (run_lenPI HJ.out.1.u HI.out.2.2.2.1 (.tmp 46) rfl rfl) ?_
            simp only [Act.put, aS, aC, aZ]
            refine wl rfl (.bool false) _ (run_lssZ (.tmp 42) (.tmp 47) rfl (k : Nat) (qs.length : Nat) rfl rfl false (decide_eq_false (by omega))) ?_
            simp only [Act.put, aS, aC, aZ]
            refine wpList_nil ?_
            have HF : Hid (∀ u ∈ qs, u.1 + u.2 ≤ A ∨ A + l ≤ u.1) := (fun u hu => by
              obtain ⟨j, hj, e_⟩ := List.getElem_of_mem hu
              have h2 := HJ.out.2.2 j (by omega)
              rw [List.getD_eq_getElem?_getD, List.getElem?_eq_getElem hj, Option.getD_some, e_] at h2
              omega)
            obtain ⟨WP, hWP⟩ : ∃ U_ : World, U_ = wr := ⟨_, rfl⟩
            clear hWP
            go_upto_region 16 with fail
            refine wp_region_until (S := fun X => Row X gr 60 [.int .i64 (d : Nat), .int .i64 (n : Nat), vU, vB] ∧ Row X q 30 (plC (d : Nat) (A : Nat) (l : Nat) false)) 10 (by kernel_rfl) ?_
            show wpAnyU _ _ _ _ _ _ 11 (Array.replicate 11 false) _ _
            obtain ⟨X, hX⟩ : ∃ X : World, X = { wr with drawn := wr.drawn + 1 } := ⟨_, rfl⟩
            rw [← hX]
            have HBX : Hid (Below wr.heap.size wr X) := (by rw [hX]; exact ⟨rfl, rfl, rfl, Nat.le_refl _, fun _ _ => rfl⟩)
            have HAX : Hid (RO w X gr d n vU vB qs) := HJ.out.1.bel HBX.out
            have HS_ : Row X gr 60 [.int .i64 (d : Nat), .int .i64 (n : Nat), vU, vB] ∧ Row X q 30 (plC (d : Nat) (A : Nat) (l : Nat) false) := ⟨HAX.out.row, HJ.out.2.1.later HBX.out HJ.out.2.1.lt⟩
            clear hX
            refine takeV (i := 0) [10] (some 60) rfl rfl (by kernel_rfl) (by kernel_rfl) (by kernel_rfl) (by kernel_rfl) (fun _ _ _ h => h) (gRun rfl (ptr gr) fun _ h => run_mvZ (.tmp 8) rfl (ptr gr) rfl) HS_ ?_
            simp only [Act.put, aS, aC, aZ]
            refine takeV (i := 1) [10] (some 61) rfl rfl (by kernel_rfl) (by kernel_rfl) (by kernel_rfl) (by kernel_rfl) (fun _ _ _ h => h) (gRun rfl (ptr gr) fun _ h => run_mvZ (.tmp 8) rfl (ptr gr) rfl) HS_ ?_
            simp only [Act.put, aS, aC, aZ]
            refine takeV (i := 2) [10] (some 62) rfl rfl (by kernel_rfl) (by kernel_rfl) (by kernel_rfl) (by kernel_rfl) (fun _ _ _ h => h) (gRun rfl (ptr gr) fun _ h => run_nil (.tmp 61) rfl ⟨gr, 0, none⟩ rfl) HS_ ?_
            simp only [Act.put, aS, aC, aZ]
            refine takeV (i := 3) [10] (some 63) rfl rfl (by kernel_rfl) (by kernel_rfl) (by kernel_rfl) (by kernel_rfl) (fun _ _ _ h => h) (gRun rfl (.pointer (some ⟨gr, 0 + 2, none⟩)) fun _ h => run_fieldOp' f60_2 (.tmp 62) rfl gr (0) rfl) HS_ ?_
            simp only [Act.put, aS, aC, aZ]
            refine takeV (i := 4) [10] (some 64) rfl rfl (by kernel_rfl) (by kernel_rfl) (by kernel_rfl) (by kernel_rfl) (fun _ _ _ h => h) (gRun rfl vU fun _ h => run_load1 o43 (.tmp 63) rfl gr (0 + 2) rfl vU (h.1.at 2 _ rfl)) HS_ ?_
            simp only [Act.put, aS, aC, aZ]
            refine takeV (i := 5) [10] (some 65) rfl rfl (by kernel_rfl) (by kernel_rfl) (by kernel_rfl) (by kernel_rfl) (fun _ _ _ h => h) (gRun rfl (.agg ((plC (d : Nat) (A : Nat) (l : Nat) false)).toArray) fun _ h => run_loadA ag30 (.tmp 10) rfl q (0) rfl ((plC (d : Nat) (A : Nat) (l : Nat) false)) rfl (rows_one h.2)) HS_ ?_
            simp only [Act.put, aS, aC, aZ]
            refine oneU (i := 6) (by kernel_rfl) ?_
            refine opValueG (some 66) rfl rfl rfl (whole X.heap.size 1) _ (run_lit43 (.tmp 65) rfl (d : Nat) (A : Nat) (l : Nat) false rfl) ?_
            have hb_ := below_alloc X (.cells (plC (d : Nat) (A : Nat) (l : Nat) false).toArray 30)
            have r_ := Row.new X 30 (plC (d : Nat) (A : Nat) (l : Nat) false)
            obtain ⟨Y1, hW_⟩ : ∃ U_ : World, U_ = X.alloc (.cells (plC (d : Nat) (A : Nat) (l : Nat) false).toArray 30) := ⟨_, rfl⟩
            obtain ⟨ql, hq_⟩ : ∃ q, q = X.heap.size := ⟨_, rfl⟩
            rw [← hW_] at hb_
            rw [← hW_, ← hq_] at r_
            rw [← hW_, ← hq_]
            have HL1 : Hid (Row Y1 ql 30 (pqOf d (A, l)).cells) := r_
            have HA1 : Hid (RO w Y1 gr d n vU vB qs) := HAX.out.bel hb_
            replace HS_ : Row Y1 gr 60 [.int .i64 (d : Nat), .int .i64 (n : Nat), vU, vB] ∧ Row Y1 q 30 (plC (d : Nat) (A : Nat) (l : Nat) false) := ⟨HS_.1.later hb_ HS_.1.lt, HS_.2.later hb_ HS_.2.lt⟩
            clear r_ hb_ hW_ hq_
            refine ⟨fun _ => HS_, ?_⟩
            simp only [Act.put, aS, aC, aZ]
            refine oneU (i := 7) (by kernel_rfl) ?_
            obtain ⟨vU2, Y2, hr_, hp_, hg_, hat_⟩ := papp_one (w := Y1) 43 vU _ HA1.out.u HL1.out (by rw [HI.out.2.2.2.1]; omega)
            refine opValueG (some 67) rfl rfl rfl vU2 Y2 (run_append (.tmp 64) (.tmp 66) rfl vU (whole ql 1) vU2 rfl rfl ((appTy _ 43 _ _).trans hr_)) ?_
            have hc_ : Ch (fun b => vU.ownBlock = some b) Y1 Y2 := (Ch.refl _ Y1).grown hg_ fun k e => Or.inl e
            have HB1 : Hid (PlO Y2 vU2 ((qs ++ [(A, l)]).map (pqOf d)) ∧ (∀ b, vU2.ownBlock = some b → w.heap.size ≤ b) ∧ BsO Y2 vB qs.length ∧ Row Y2 gr 60 [.int .i64 (d : Nat), .int .i64 (n : Nat), vU, vB] ∧ Below w.heap.size w Y2) := ⟨(by rw [List.map_append]; exact hp_), fun b e => (by rcases hat_ with h | h; exact HA1.out.ug b (h ▸ e); (rw [h] at e; injection e with e; have := HA1.out.below.size; omega)), ownK HA1.out.b fun b e => hc_.block b ((World.ownsRow.lt HA1.out.b b e).2) (fun e' => own_ne2 HA1.out.u HA1.out.b e' e (by decide)), hc_.row (fun e => HA1.out.u.ne e HA1.out.row (by decide)) HA1.out.row, HA1.out.below.trans (hc_.below HA1.out.below.size fun k hk e => by have := HA1.out.ug k e; omega)⟩
            replace HS_ : Row Y2 gr 60 [.int .i64 (d : Nat), .int .i64 (n : Nat), vU, vB] ∧ Row Y2 q 30 (plC (d : Nat) (A : Nat) (l : Nat) false) := ⟨HB1.out.2.2.2.1, hc_.row (fun e => HQ.out.2.2.2.1 q e rfl) HS_.2⟩
            clear hr_ hp_ hg_ hat_ hc_
            refine ⟨fun _ => HS_, ?_⟩
            simp only [Act.put, aS, aC, aZ]
            refine takeV (i := 8) [9, 10] (some 68) rfl rfl (by kernel_rfl) (by kernel_rfl) (by kernel_rfl) (by kernel_rfl) (fun _ _ _ h => h) (gRun rfl (ptr gr) fun _ h => run_nil (.tmp 60) rfl ⟨gr, 0, none⟩ rfl) HS_ ?_
            simp only [Act.put, aS, aC, aZ]
            refine takeV (i := 9) [10] (some 69) rfl rfl (by kernel_rfl) (by kernel_rfl) (by kernel_rfl) (by kernel_rfl) (fun _ _ _ h => h) (gRun rfl (.pointer (some ⟨gr, 0 + 2, none⟩)) fun _ h => run_fieldOp' f60_2 (.tmp 68) rfl gr (0) rfl) HS_ ?_
            simp only [Act.put, aS, aC, aZ]
            refine oneU (i := 10) (by kernel_rfl) ?_
            refine opSkipZ rfl rfl rfl _ (run_putRow (t := 43) sz43 (.tmp 69) (.tmp 67) rfl gr (0 + 2) 60 _ rfl vU2 rfl (own_cells HB1.out.1) HB1.out.2.2.2.1 (by decide : 0 + 2 < 4)) ?_
            refine ⟨(fun h => absurd (show true = false from h) (by decide)), ?_⟩
            have hb_ := (Ch.refl (· = gr) Y2).setCell (Or.inl rfl) (0 + 2) vU2
            have r_ := HB1.out.2.2.2.1.setCell (0 + 2) vU2
            obtain ⟨Y3, hW_⟩ : ∃ U_ : World, U_ = Y2.setCell ⟨gr, 0 + 2, none⟩ vU2 := ⟨_, rfl⟩
            rw [← hW_] at hb_ r_ ⊢
            have HB2 : Hid (Row Y3 gr 60 [.int .i64 (d : Nat), .int .i64 (n : Nat), vU2, vB] ∧ PlO Y3 vU2 ((qs ++ [(A, l)]).map (pqOf d)) ∧ (∀ b, vU2.ownBlock = some b → w.heap.size ≤ b) ∧ BsO Y3 vB qs.length ∧ Below w.heap.size w Y3) := ⟨r_, HB1.out.1.kept fun b e => hb_.block b (HB1.out.1.lt e) (fun e' => HB1.out.1.ne (e' ▸ e) HB1.out.2.2.2.1 (by decide)), HB1.out.2.1, ownK HB1.out.2.2.1 fun b e => hb_.block b ((World.ownsRow.lt HB1.out.2.2.1 b e).2) (fun e' => own_ne HB1.out.2.2.1 (e' ▸ e) HB1.out.2.2.2.1 (by decide)), HB1.out.2.2.2.2.trans (hb_.below HB1.out.2.2.2.2.size fun k hk e => by have := HA1.out.ge; omega)⟩
            clear hb_ r_ hW_
            refine wpAnyU_done (by kernel_rfl) ?_ _
            go_upto_region 17 with fail
            refine wp_region_lit ?_
            refine wl rfl (ptr gr) _ (run_mvZ (.tmp 8) rfl (ptr gr) rfl) ?_
            simp only [Act.put, aS, aC, aZ]
            refine wl rfl (ptr gr) _ (run_mvZ (.tmp 8) rfl (ptr gr) rfl) ?_
            simp only [Act.put, aS, aC, aZ]
            refine wl rfl (ptr gr) _ (run_nil (.tmp 71) rfl ⟨gr, 0, none⟩ rfl) ?_
            simp only [Act.put, aS, aC, aZ]
            refine wl rfl (.pointer (some ⟨gr, 0 + 3, none⟩)) _ (run_fieldOp' f60_3 (.tmp 72) rfl gr (0) rfl) ?_
            simp only [Act.put, aS, aC, aZ]
            refine wl rfl vB _ (run_load1 o57 (.tmp 73) rfl gr (0 + 3) rfl vB (HB2.out.1.at 3 _ rfl)) ?_
            simp only [Act.put, aS, aC, aZ]
            refine wl rfl (whole Y3.heap.size 1) _ (run_lit57n rfl) ?_
            have hb_ := below_alloc Y3 (.cells ([.slice none 0 0] : List Value).toArray 28)
            have r_ := Row.new Y3 28 ([.slice none 0 0] : List Value)
            obtain ⟨Y4, hW_⟩ : ∃ U_ : World, U_ = Y3.alloc (.cells ([.slice none 0 0] : List Value).toArray 28) := ⟨_, rfl⟩
            obtain ⟨qm, hq_⟩ : ∃ q, q = Y3.heap.size := ⟨_, rfl⟩
            rw [← hW_] at hb_
            rw [← hW_, ← hq_] at r_
            rw [← hW_, ← hq_]
            have HB3 : Hid (Row Y4 gr 60 [.int .i64 (d : Nat), .int .i64 (n : Nat), vU2, vB] ∧ PlO Y4 vU2 ((qs ++ [(A, l)]).map (pqOf d)) ∧ BsO Y4 vB qs.length ∧ Below w.heap.size w Y4 ∧ Row Y4 qm 28 [.slice none 0 0]) := ⟨HB2.out.1.later hb_ HB2.out.1.lt, HB2.out.2.1.kept fun b e => hb_.block b (HB2.out.2.1.lt e), ownK HB2.out.2.2.2.1 fun b e => hb_.block b ((World.ownsRow.lt HB2.out.2.2.2.1 b e).2), HB2.out.2.2.2.2.trans (hb_.mono HB2.out.2.2.2.2.size), r_⟩
            clear r_ hb_ hW_ hq_
            simp only [Act.put, aS, aC, aZ]
            obtain ⟨vB2, Y5, hr_, hp_, hg_, hat_⟩ := app_one (w := Y4) und57 info28z 57 vB qs.length _ HB3.out.2.2.1 qm (.slice none 0 0) rfl HB3.out.2.2.2.2 (by omega)
            refine wl rfl vB2 Y5 (run_append (.tmp 74) (.tmp 75) rfl vB (whole qm 1) vB2 rfl rfl ((appTy57 _ 57 _ _).trans hr_)) ?_
            have hc_ : Ch (fun b => vB.ownBlock = some b) Y4 Y5 := (Ch.refl _ Y4).grown hg_ fun k e => Or.inl e
            have HB4 : Hid (Row Y5 gr 60 [.int .i64 (d : Nat), .int .i64 (n : Nat), vU2, vB] ∧ PlO Y5 vU2 ((qs ++ [(A, l)]).map (pqOf d)) ∧ BsO Y5 vB2 (qs.length + 1) ∧ Below w.heap.size w Y5 ∧ (∀ b, vB2.ownBlock = some b → w.heap.size ≤ b)) := ⟨hc_.row (fun e => own_ne HB3.out.2.2.1 e HB3.out.1 (by decide)) HB3.out.1, HB3.out.2.1.kept fun b e => hc_.block b (HB3.out.2.1.lt e) (fun e' => own_ne2 HB3.out.2.1 HB3.out.2.2.1 e e' (by decide)), (by unfold BsO; rw [List.replicate_succ']; exact hp_), HB3.out.2.2.2.1.trans (hc_.below HB3.out.2.2.2.1.size fun k hk e => by have := HA1.out.bg k e; omega), fun b e => (by rcases hat_ with h | h; exact HA1.out.bg b (h ▸ e); (rw [h] at e; injection e with e; have := HB3.out.2.2.2.1.size; omega))⟩
            clear hr_ hp_ hg_ hat_ hc_
            simp only [Act.put, aS, aC, aZ]
            refine wl rfl (ptr gr) _ (run_nil (.tmp 70) rfl ⟨gr, 0, none⟩ rfl) ?_
            simp only [Act.put, aS, aC, aZ]
            refine wl rfl (.pointer (some ⟨gr, 0 + 3, none⟩)) _ (run_fieldOp' f60_3 (.tmp 77) rfl gr (0) rfl) ?_
            simp only [Act.put, aS, aC, aZ]
            refine wlS rfl rfl _ (run_putRow (t := 57) sz57 (.tmp 78) (.tmp 76) rfl gr (0 + 3) 60 _ rfl vB2 rfl (own_cells HB4.out.2.2.1) HB4.out.1 (by decide : 0 + 3 < 4)) ?_
            have hb_ := (Ch.refl (· = gr) Y5).setCell (Or.inl rfl) (0 + 3) vB2
            have r_ := HB4.out.1.setCell (0 + 3) vB2
            obtain ⟨Y6, hW_⟩ : ∃ U_ : World, U_ = Y5.setCell ⟨gr, 0 + 3, none⟩ vB2 := ⟨_, rfl⟩
            rw [← hW_] at hb_ r_ ⊢
            have HB5 : Hid (RO w Y6 gr d n vU2 vB2 (qs ++ [(A, l)])) := ⟨r_, HB4.out.2.1.kept fun b e => hb_.block b (HB4.out.2.1.lt e) (fun e' => HB4.out.2.1.ne (e' ▸ e) HB4.out.1 (by decide)), (by rw [List.length_append]; exact ownK HB4.out.2.2.1 fun b e => hb_.block b ((World.ownsRow.lt HB4.out.2.2.1 b e).2) (fun e' => own_ne HB4.out.2.2.1 (e' ▸ e) HB4.out.1 (by decide))), HB4.out.2.2.2.1.trans (hb_.below HB4.out.2.2.2.1.size fun k hk e => by have := HA1.out.ge; omega), HA1.out.ge, HB2.out.2.2.1, HB4.out.2.2.2.2⟩
            clear hb_ r_ hW_
            refine wpList_nil ?_
            have hstp : opr d (n / 16) (us.drop i) qs = opr d (n / 16) (us.drop (i + 1)) (qs ++ [(A, l)]) := (by
              rw [← HP.out.2.1, HX.out.1]
              exact opr_step hlt (by rw [← HX.out.1]; exact HPL.out) (by rw [← HX.out.1, HP.out.2.1]; exact HF.out))
            have hapt : Apt (n / 16) (qs ++ [(A, l)]) := (by rw [← HP.out.2.1]; exact HI.out.2.2.1.add HPL.out (by rw [HP.out.2.1]; exact HF.out))
            have HST : Hid (opr d (n / 16) (us.drop i) qs = opr d (n / 16) (us.drop (i + 1)) (qs ++ [(A, l)]) ∧ Apt (n / 16) (qs ++ [(A, l)])) := ⟨hstp, hapt⟩
            clear hstp hapt
            go_wp2_with fail
            refine ⟨⟨i + 1, by go_num, by omega, ⟨vU2, vB2, _, HB5.out, HI.out.2.1.trans HST.out.1, HST.out.2⟩⟩, ?_⟩
            simp [intOf]; omega
    · go_upto_region 5 with fail
      refine wp_region_lit ?_
      refine wl rfl (.int .i64 (i : Nat)) _ (run_mvZ (.tmp 9) rfl (.int .i64 (i : Nat)) rfl) ?_
      simp only [Act.put, aS, aC, aZ]
      refine wl rfl vu _ (run_mvZ (.tmp 2) rfl vu rfl) ?_
      simp only [Act.put, aS, aC, aZ]
      refine wl rfl (.int .i64 (us.length : Nat)) _ (run_lenP HM.out.1 (.tmp 28) rfl rfl) ?_
      simp only [Act.put, aS, aC, aZ]
      refine wl rfl (.bool false) _ (run_lssZ (.tmp 27) (.tmp 29) rfl (i : Nat) (us.length : Nat) rfl rfl false (decide_eq_false (by omega))) ?_
      simp only [Act.put, aS, aC, aZ]
      refine wpList_nil ?_
      go_upto_region 18 with fail
      refine wp_region_lit ?_
      refine wl rfl (ptr gr) _ (run_mvZ (.tmp 8) rfl (ptr gr) rfl) ?_
      simp only [Act.put, aS, aC, aZ]
      refine wl rfl (ptr gr) _ (run_asZ (.tmp 79) rfl (ptr gr) rfl) ?_
      simp only [Act.put, aS, aC, aZ]
      refine wl rfl (.int .i64 0) _ (run_asZ (.const (.int .i64 0)) rfl (.int .i64 0) rfl) ?_
      simp only [Act.put, aS, aC, aZ]
      refine wpList_nil ?_
      go_wp2_with fail
      rw [HPQ.out]
      have ei : us.drop i = [] := List.drop_of_length_le (by omega)
      refine ⟨HI.out.1.below, Or.inr ⟨gr, vU, vB, qs, ?_, rfl, HI.out.1.ge, ⟨HI.out.1.row, HI.out.1.u⟩, HI.out.2.2.1⟩⟩
      rw [HI.out.2.1, ei]
      rfl

end Go.Proofs.YtofocpmpnjjnkaaDoor

/- Layer 8: a plant is made; a desk begins. Layer 8: the document's examples: the calls, one by one. -/
import Derived.Test.YtgcecejamcnkiaaDoorZ39
namespace Go.Proofs.YtgcecejamcnkiaaDoor
open Go.RowKit Go.Maps

theorem wl_ext {w : World} {ops : Array Oper} {rest : List Oper} {o : Oper} {a : Act} {Q : Exit → Act → World → Prop} (x : Operand) (i : Nat) (hgd : Region.wanted o (yielded ops a.tmps) = true) (ho : o.op = .extract x i) (vs : Array Value) (hx : a.eval x = .tuple vs) (v : Value) (hv : vs[i]? = some v) (h : wpList Tryd.prog ops Q rest (a.put o.dst v) w) : wpList Tryd.prog ops Q (o :: rest) a w := wl hgd v w (by simp [execOp, ho, hx, Instr.extract, hv]) h
theorem app_int {w : World} (v : Value) (n : Nat) (xs : List Value) (hown : w.ownsRow 0 3 1 v n xs) (b : Nat) (x : Int) (hb : Row w b 3 [.int .i64 x]) (hn : n ≤ 1000) :
    ∃ v' w', (Builtin.append_ #[31, 31] 31 #[v, .slice (some ⟨b, 0, none⟩) 1 1]).run Tryd.prog w = .ok v' w' ∧ w'.ownsRow 0 3 1 v' (n + 1) (xs ++ [.int .i64 x]) ∧ w.grownBy w' v.ownBlock ∧ (v'.ownBlock = v.ownBlock ∨ v'.ownBlock = some w.heap.size) := by
  obtain ⟨i, hi, hz0, hz1, hz2⟩ := info_parts info3
  obtain ⟨v', w', hr, h2, h3, _, h5⟩ := run_append_own_at (P := Tryd.prog) (w := w) 0 31 31 3 i (.int .i64 0) 1 8 Tryd.underlying31 hi hz0 hz1 hz2 rfl (by decide) v n xs hown
    ⟨b, 0, none⟩ 1 1 [.int .i64 x] (by simp) (fun j y hy => by rw [add_none, Nat.zero_add]; exact hb.at j y hy) (by intro y hy; rw [List.mem_singleton.1 hy]; rfl) (by unfold maxLen; omega) (by omega) (Nat.zero_le _)
  exact ⟨v', w', hr, h2, h3, h5⟩
theorem run_lit31 {w : World} {a : Act} {o : Oper} (x : Operand) (ho : o.op = .buildSlice 31 1 #[(0, x)]) (u : Int) (hx : a.eval x = .int .i64 u) : (execOp a.eval o).run Tryd.prog w = .ok (.value (.slice (some ⟨w.heap.size, 0, none⟩) 1 1)) (w.alloc (.cells #[.int .i64 u] 3)) := by
  simp only [execOp, ho, List.map_toArray, List.map_cons, List.map_nil, hx, run_oneInt, Sem.run_bind, Sem.run_pure, Result.andThen_ok]
theorem agg50' : AggT 50 2 := ⟨Or.inl ⟨_, Tryd.underlying50⟩, by kernel_rfl⟩
theorem eN17 : EntersF 17 := Go.Proofs.enters_of Tryd.func17 (by kernel_rfl) rfl
theorem f50_0 : FieldAt 50 0 0 := fun w g off => by kernel_rfl
theorem s31 : (Tryd.prog.info? 31).map (·.size) = some 1 := by kernel_rfl
theorem run_build50 {w : World} {a : Act} {o : Oper} (ho : o.op = .build 50 #[]) : (execOp a.eval o).run Tryd.prog w = .ok (.value (.agg ([.slice none 0 0, .slice none 0 0] : List Value).toArray)) w := by
  have hr : (Instr.build 50 #[]).run Tryd.prog w = .ok (.agg ([.slice none 0 0, .slice none 0 0] : List Value).toArray) w := by kernel_rfl
  simp only [execOp, ho, List.map_toArray, List.map_nil, hr, Sem.run_bind, Sem.run_pure, Result.andThen_ok]
/-- the shape that is made: k disks so far -/
structure MdSt (w : World) (gs n k : Nat) (v : Value) (W : World) : Prop where
  below : Below w.heap.size w W
  ge : w.heap.size ≤ gs
  row : Row W gs 50 [v, .slice none 0 0]
  own : W.ownsRow 0 3 1 v k (List.replicate k (.int .i64 (n : Nat)))
  ap : ∀ b, v.ownBlock = some b → w.heap.size ≤ b ∧ b ≠ gs
theorem MdSt.ints {w : World} {gs n k : Nat} {v : Value} {W : World} (h : MdSt w gs n k v W) (hk : k ≤ 1000) : IntsIn W v (List.replicate k (n : Int)) := by
  rcases h.own.2 with ⟨e, h0⟩ | ⟨g, cap, cur, e, _, hg, hcap, _, hsz, _⟩
  · subst h0
    exact ⟨none, 0, e, Nat.le_refl _, by simp, Or.inl rfl⟩
  · refine ⟨some ⟨g, 0, none⟩, cap, by rw [e, List.length_replicate], by rw [List.length_replicate]; exact hcap, by rw [List.length_replicate]; omega, Or.inr ⟨g, 0, rfl, fun j hj => ?_⟩⟩
    rw [List.length_replicate] at hj
    have h2 := h.own.cells (g := g) (by rw [e]; rfl) j (.int .i64 (n : Nat)) (by simp [hj])
    rw [add_none] at h2
    rw [h2]
    simp [hj]
theorem shapeOk_rep (k n : Nat) (hk : 1 ≤ k ∧ k ≤ 12) (hn : 1 ≤ n ∧ n ≤ 4096) : shapeOk (List.replicate k (n : Int)) [] = true := by
  unfold shapeOk
  simp only [Bool.and_eq_true, decide_eq_true_eq, List.length_replicate, List.length_nil]
  refine ⟨by omega, by omega, ?_, rfl⟩
  unfold sizesOk
  simp only [List.all_eq_true, List.mem_replicate, Bool.and_eq_true, decide_eq_true_eq]
  rintro x ⟨_, rfl⟩
  omega
theorem newPl_rep (k n : Nat) : ShapeOf (newPl (List.replicate k (n : Int)) []) (List.replicate k n) [] := by
  unfold ShapeOf newPl
  simp
set_option maxHeartbeats 4000000 in
set_option maxRecDepth 100000 in
theorem made_any (w : World) (c : Nat → Colour) (t dk n : Nat) (hd : 1 ≤ dk ∧ dk ≤ 12) (hn : 1 ≤ n ∧ n ≤ 4096) :
    Calls Tryd.prog 11 #[.int .i64 (dk : Nat), .int .i64 (n : Nat)] w fun e w' => ∃ g c', e = .returned (ptr g) ∧ w.heap.size ≤ g ∧ (∀ b, b < w.heap.size → c' b = c b) ∧ Live w' c' t g (newPl (List.replicate dk (n : Int)) []) ∧ Below w.heap.size w w' := by
  have HOK : Hid (shapeOk (List.replicate dk (n : Int)) [] = true) := shapeOk_rep dk n hd hn
  obtain ⟨PQ, hPQ⟩ : ∃ PQ : Ending → World → Prop, PQ = fun (e : Ending) (w' : World) => ∃ g c', e = .returned (ptr g) ∧ w.heap.size ≤ g ∧ (∀ b, b < w.heap.size → c' b = c b) ∧ Live w' c' t g (newPl (List.replicate dk (n : Int)) []) ∧ Below w.heap.size w w' := ⟨_, rfl⟩
  have HPQ : Hid (PQ = fun (e : Ending) (w' : World) => ∃ g c', e = .returned (ptr g) ∧ w.heap.size ≤ g ∧ (∀ b, b < w.heap.size → c' b = c b) ∧ Live w' c' t g (newPl (List.replicate dk (n : Int)) []) ∧ Below w.heap.size w w') := hPQ
  rw [← hPQ]
  clear hPQ
  go_enter Tryd.func11, Tryd.ntmps11
  go_upto_region 1 with fail
  refine wp_region_lit ?_
  refine wl rfl _ w (run_build50 rfl) ?_
  simp only [Act.put, List.setIfInBounds_toArray, List.set_cons_succ, List.set_cons_zero]
  refine wpList_alloc_store agg50' _ zero24 rfl rfl rfl rfl rfl (.tmp 9) rfl [.slice none 0 0, .slice none 0 0] rfl rfl (by intro v hv; simp at hv; rw [hv]; rfl) (fun _ => rfl) (fun _ => rfl) ?_
  intro w1 r1 s1 b1
  obtain ⟨gs, hgs⟩ : ∃ gs, gs = w.heap.size := ⟨_, rfl⟩
  rw [← hgs] at r1 s1 ⊢
  have H0 : Hid (MdSt w gs n 0 (.slice none 0 0) w1) := ⟨b1, by omega, r1, World.ownsRow_nil _ _ _ _, fun b hb => by cases hb⟩
  clear r1 s1 b1 hgs
  simp only [Act.put, List.setIfInBounds_toArray, List.set_cons_succ, List.set_cons_zero]
  refine wpList_nil ?_
  go_upto_region 2 with fail
  go_wp2_with fail
  go_loopw [6] (fun vi W => ∃ k : Nat, vi = .int .i64 (k : Nat) ∧ k ≤ dk ∧ ∃ v, MdSt w gs n k v W) (fun vi _ => dk - (intOf vi).toNat)
  case atStart => exact ⟨0, rfl, Nat.zero_le _, _, H0.out⟩
  case round =>
    obtain ⟨k, rfl, hk, v, hI⟩ := hrel
    have HI : Hid (MdSt w gs n k v wr) := hI
    clear hI H0
    by_cases hlt : k < dk
    · have t1 : decide ((k : Int) < (dk : Int)) = true := decide_eq_true (by omega)
      have b2 : Below wr.heap.size wr (wr.alloc (.cells #[.int .i64 (n : Nat)] 3)) := below_alloc wr _
      have r2 : Row (wr.alloc (.cells #[.int .i64 (n : Nat)] 3)) wr.heap.size 3 [.int .i64 (n : Nat)] := Row.new wr 3 _
      obtain ⟨v2, w2, e2, o2, g2, l2⟩ := app_int v k _ (ownK HI.out.own fun b hb => b2.block b (World.ownsRow.lt HI.out.own b hb).2) wr.heap.size (n : Nat) r2 (by omega)
      have hch : Ch (fun b => v.ownBlock = some b) wr w2 := (Ch.of_below b2).grown g2 fun k hk => Or.inl hk
      have z2 : (wr.alloc (.cells #[.int .i64 (n : Nat)] 3)).heap.size = wr.heap.size + 1 := World.size_alloc _ _
      have s2 := g2.size
      have HE : Hid ((Builtin.append_ #[31, 31] 31 #[v, .slice (some ⟨wr.heap.size, 0, none⟩) 1 1]).run Tryd.prog (wr.alloc (.cells #[.int .i64 (n : Nat)] 3)) = .ok v2 w2 ∧ Row w2 gs 50 [v, .slice none 0 0] ∧ (v2.cells = #[v2] ∧ v2.oneCell' = true)) := ⟨e2, hch.row (fun e => (HI.out.ap gs e).2 rfl) HI.out.row, own_cells o2⟩
      have hap : ∀ b, v2.ownBlock = some b → w.heap.size ≤ b ∧ b ≠ gs := fun b hb => by
        rcases l2 with e | e
        · exact HI.out.ap b (by rw [← e]; exact hb)
        · rw [hb] at e; injection e with e
          have := HI.out.row.lt
          have := HI.out.below.size
          exact ⟨by omega, by omega⟩
      have R3 : Hid (MdSt w gs n (k + 1) v2 (w2.setCell ⟨gs, 0 + 0, none⟩ v2)) := by
        have hc3 : Ch (· = gs) w2 (w2.setCell ⟨gs, 0 + 0, none⟩ v2) := (Ch.refl (· = gs) w2).setCell (Or.inl rfl) _ _
        refine ⟨HI.out.below.trans ((hch.below HI.out.below.size fun b hb e => by have := (HI.out.ap b e).1; omega).trans (hc3.below (Nat.le_trans HI.out.below.size hch.size) fun b hb e => by have := HI.out.ge; omega)), HI.out.ge, ?_, ?_, hap⟩
        · have h6 := row_cell' (i := 0 + 0) HE.out.2.1 v2
          simpa using h6
        · rw [List.replicate_succ']
          exact ownK o2 fun b hb => hc3.block b (World.ownsRow.lt o2 b hb).2 (hap b hb).2
      clear b2 r2 e2 o2 g2 l2 hch z2 s2 hap
      go_upto_region 5 with fail
      refine wp_region_lit ?_
      refine wl_fld f50_0 (.tmp 5) rfl rfl gs 0 rfl ?_
      simp only [Act.put, List.setIfInBounds_toArray, List.set_cons_succ, List.set_cons_zero]
      refine wl_ld o31 (.tmp 15) rfl rfl gs (0 + 0) rfl v (HI.out.row.at 0 _ rfl) ?_
      simp only [Act.put, List.setIfInBounds_toArray, List.set_cons_succ, List.set_cons_zero]
      refine wl_mv (.tmp 1) rfl rfl (.int .i64 (n : Nat)) rfl ?_
      simp only [Act.put, List.setIfInBounds_toArray, List.set_cons_succ, List.set_cons_zero]
      refine wl rfl _ _ (run_lit31 (.tmp 17) rfl (n : Nat) rfl) ?_
      simp only [Act.put, List.setIfInBounds_toArray, List.set_cons_succ, List.set_cons_zero]
      refine wl_app (.tmp 16) (.tmp 18) rfl rfl v _ v2 rfl rfl HE.out.1 ?_
      simp only [Act.put, List.setIfInBounds_toArray, List.set_cons_succ, List.set_cons_zero]
      refine wl_fld f50_0 (.tmp 5) rfl rfl gs 0 rfl ?_
      simp only [Act.put, List.setIfInBounds_toArray, List.set_cons_succ, List.set_cons_zero]
      refine wl_put s31 (.tmp 20) (.tmp 19) rfl rfl rfl gs (0 + 0) 50 [v, .slice none 0 0] rfl v2 rfl HE.out.2.2 HE.out.2.1 (show 0 + 0 < 2 by decide) ?_
      refine wpList_nil ?_
      clear HE HI
      obtain ⟨w4, hw4⟩ : ∃ w4, w4 = w2.setCell ⟨gs, 0 + 0, none⟩ v2 := ⟨_, rfl⟩
      rw [← hw4] at R3 ⊢
      clear hw4
      go_wp2_with fail
      refine ⟨⟨k + 1, by go_num, by omega, v2, R3.out⟩, ?_⟩
      simp [intOf]; omega
    · obtain rfl : dk = k := by omega
      have t1 : decide ((dk : Int) < (dk : Int)) = false := decide_eq_false (by omega)
      have HN : Hid (Calls Tryd.prog 17 #[.agg #[v, .slice none 0 0]] wr fun e w' => ∃ g, e = .returned (.tuple #[ptr g, .int .i64 0]) ∧ PQ (.returned (ptr g)) w') := by
        refine (Live.new wr c t v (.slice none 0 0) _ [] (HI.out.ints (by omega)) ⟨none, 0, rfl, Nat.le_refl _, by decide, Or.inl rfl⟩ HOK.out).mono ?_
        rintro e w' ⟨g, c', rfl, h1, h2, _, h4, h5⟩
        refine ⟨g, rfl, ?_⟩
        rw [HPQ.out]
        exact ⟨g, c', rfl, Nat.le_trans HI.out.below.size h1, fun b hb => h2 b (Nat.lt_of_lt_of_le hb HI.out.below.size), h4, HI.out.below.trans (h5.mono HI.out.below.size)⟩
      go_upto_region 6 with fail
      refine wp_region_lit ?_
      refine wl_ldA agg50' (.tmp 5) rfl rfl gs 0 rfl [v, .slice none 0 0] rfl (fun j v hj => by rw [Nat.zero_add]; exact HI.out.row.at j v hj) ?_
      simp only [Act.put, List.setIfInBounds_toArray, List.set_cons_succ, List.set_cons_zero]
      refine wpList_callF eN17 [.tmp 22] _ rfl rfl [.agg #[v, .slice none 0 0]] rfl ?_
      refine HN.out.mono ?_
      rintro e w2 ⟨g, rfl, hQ⟩
      have HQ : Hid (PQ (.returned (ptr g)) w2) := hQ
      clear hQ HN HI
      refine ⟨_, rfl, ?_⟩
      simp only [Act.put, List.setIfInBounds_toArray, List.set_cons_succ, List.set_cons_zero]
      refine wl_mv (.tmp 23) rfl rfl (.tuple #[ptr g, .int .i64 0]) rfl ?_
      simp only [Act.put, List.setIfInBounds_toArray, List.set_cons_succ, List.set_cons_zero]
      refine wl_ext (.tmp 21) 0 rfl rfl #[ptr g, .int .i64 0] rfl (ptr g) rfl ?_
      simp only [Act.put, List.setIfInBounds_toArray, List.set_cons_succ, List.set_cons_zero]
      refine wl_ext (.tmp 21) 1 rfl rfl #[ptr g, .int .i64 0] rfl (.int .i64 0) rfl ?_
      simp only [Act.put, List.setIfInBounds_toArray, List.set_cons_succ, List.set_cons_zero]
      refine wl_as (.tmp 24) rfl rfl (ptr g) rfl ?_
      simp only [Act.put, List.setIfInBounds_toArray, List.set_cons_succ, List.set_cons_zero]
      refine wl_as (.tmp 25) rfl rfl (.int .i64 0) rfl ?_
      simp only [Act.put, List.setIfInBounds_toArray, List.set_cons_succ, List.set_cons_zero]
      refine wpList_nil ?_
      go_wp2_with fail
      exact HQ.out
/-- a desk begins -/
structure Beg (w : World) (c : Nat → Colour) (t g : Nat) (m : Pl) (ds ts : List Nat) (i n : Nat) (w' : World) (c' : Nat → Colour) (gd gw : Nat) (m' : Pl) (S E : Nat) : Prop where
  desk : Desk w' c' t gd gw g m' ds ts i n S E [] (.slice none 0 0) 0
  cc : ∀ b, b < w.heap.size → c' b = c b
  ch : Ch (fun b => (c b).1 = t) w w'
  gd : w.heap.size ≤ gd
  gw : w.heap.size ≤ gw
  rel : Rel m m' i
  fuse : m'.fuse < 0
  le : m'.steps ≤ m.steps + 6000
theorem run_build40 {w : World} {a : Act} {o : Oper} (x0 x1 x2 x3 : Operand) (ho : o.op = .build 40 #[(0, x0), (1, x1), (2, x2), (5, x3)]) (g i gw n : Nat) (h0 : a.eval x0 = ptr g) (h1 : a.eval x1 = .int .i64 (i : Nat)) (h2 : a.eval x2 = ptr gw) (h3 : a.eval x3 = .int .i64 (n : Nat)) : (execOp a.eval o).run Tryd.prog w = .ok (.value (.agg (dkCells g i (ptr gw) (.slice none 0 0) 0 n 0).toArray)) w := by
  have hr : (Instr.build 40 #[(0, ptr g), (1, .int .i64 (i : Nat)), (2, ptr gw), (5, .int .i64 (n : Nat))]).run Tryd.prog w = .ok (.agg (dkCells g i (ptr gw) (.slice none 0 0) 0 n 0).toArray) w := by kernel_rfl
  simp only [execOp, ho, List.map_toArray, List.map_cons, List.map_nil, h0, h1, h2, h3, hr, Sem.run_bind, Sem.run_pure, Result.andThen_ok]
set_option maxHeartbeats 4000000 in
set_option maxRecDepth 100000 in
theorem begun_any {w : World} {c : Nat → Colour} {t g : Nat} {m : Pl} (h : Live w c t g m) {ds ts : List Nat} {i n : Nat} (hsh : ShapeOf m ds ts) (hi : i < ds.length) (hn : ds.getD i 0 = n) (h8 : 8 ≤ n) (hon : m.on = true) (hf : m.fuse < 0) (ht : Fr.TabIn w) (htc : (c 0).1 ≠ t) (hst : m.steps + 30000 < 1099511627775) :
    Calls Tryd.prog 12 #[ptr g, .int .i64 (i : Nat), .int .i64 (n : Nat)] w fun e w' => ∃ c' gd gw m' S E, e = .returned (ptr gd) ∧ Beg w c t g m ds ts i n w' c' gd gw m' S E := by
  have hlt : i < m.n := by have := hsh.n; omega
  have hn4 : n ≤ 4096 := by have h1 := (h.2.1.sizes i hlt).2; rw [(hsh.disk i hi).2, hn] at h1; exact h1
  have HF : Hid (Calls Tryd.prog 19 #[ptr g, .int .i64 (i : Nat)] w fun e w' => e = .returned (.int .i64 0) ∧ ∃ c' m', (∀ b, b < w.heap.size → c' b = c b) ∧ Live w' c' t g m' ∧ Ch (fun b => (c b).1 = t) w w' ∧ Rel m m' i ∧ m'.steps ≤ m.steps + 5000 ∧ Jc m' i n [] ∧ m'.fuse < 0) := by
    refine (formatJ_any h hsh hi hn h8 hon ht htc (by omega)).mono ?_
    rintro e w' ⟨c', m', q1, q2, q3, q4, q5, q6⟩
    rcases q6 with ⟨q6, q7, q8⟩ | q6
    · exact ⟨q6, c', m', q1, q2, q3, q4, q5, q7, q8 hf⟩
    · exact absurd q6.1 (by omega)
  have HL : Hid (Live w c t g m ∧ ShapeOf m ds ts ∧ i < ds.length ∧ ds.getD i 0 = n ∧ 8 ≤ n ∧ Fr.TabIn w ∧ (c 0).1 ≠ t ∧ m.steps + 30000 < 1099511627775) := ⟨h, hsh, hi, hn, h8, ht, htc, hst⟩
  obtain ⟨PQ, hPQ⟩ : ∃ PQ : Ending → World → Prop, PQ = fun (e : Ending) (w' : World) => ∃ c' gd gw m' S E, e = .returned (ptr gd) ∧ Beg w c t g m ds ts i n w' c' gd gw m' S E := ⟨_, rfl⟩
  have HPQ : Hid (PQ = fun (e : Ending) (w' : World) => ∃ c' gd gw m' S E, e = .returned (ptr gd) ∧ Beg w c t g m ds ts i n w' c' gd gw m' S E) := hPQ
  rw [← hPQ]
  clear hPQ h hsh hi hn h8 hon hf ht htc hst hlt
  go_enter Tryd.func12, Tryd.ntmps12
  go_upto_region 2 with (go_at_call 19; refine HF.out.mono ?_; rintro e w2 ⟨rfl, c2, m2, q1, q2, q3, q4, q5, q6, q7⟩; have R2 : Hid ((∀ b, b < w.heap.size → c2 b = c b) ∧ Live w2 c2 t g m2 ∧ Ch (fun b => (c b).1 = t) w w2 ∧ Rel m m2 i ∧ m2.steps ≤ m.steps + 5000 ∧ Jc m2 i n [] ∧ m2.fuse < 0) := ⟨q1, q2, q3, q4, q5, q6, q7⟩; clear q1 q2 q3 q4 q5 q6 q7)
  have htab : Fr.TabIn w2 := TabIn.ch HL.out.2.2.2.2.2.1 R2.out.2.2.1 HL.out.2.2.2.2.2.2.1
  have hsh2 : ShapeOf m2 ds ts := by unfold ShapeOf; rw [R2.out.2.2.2.1.sh]; exact HL.out.2.1
  have htc2 : (c2 0).1 ≠ t := by rw [R2.out.1 0 (tab_lt HL.out.2.2.2.2.2.1)]; exact HL.out.2.2.2.2.2.2.1
  have HOP : Hid (Calls Tryd.prog 20 #[ptr g, .int .i64 (i : Nat)] w2 fun e w' => ∃ gw tv S E c' m', e = .returned (.tuple #[ptr gw, tv, .int .i64 0]) ∧ (∃ p cap, tv = .slice p 0 cap) ∧ (∀ b, b < w2.heap.size → c' b = c2 b) ∧ Live w' c' t g m' ∧ Ch (fun b => (c2 b).1 = t) w2 w' ∧ Rel m2 m' i ∧ m'.steps ≤ m2.steps + 2 ∧ w2.heap.size ≤ gw ∧ WalAt w' c' t gw g (i : Int) S E ∧ Jo m' i n S E [] ∧ m'.fuse < 0) := by
    have hst := HL.out.2.2.2.2.2.2.2
    have hs5 := R2.out.2.2.2.2.1
    refine (openJ_any R2.out.2.1 ⟨hsh2, HL.out.2.2.1, by rw [HL.out.2.2.2.1]; exact HL.out.2.2.2.2.1, R2.out.2.2.2.2.2.1.lv.1.on, by omega⟩ HL.out.2.2.2.1 htab htc2 R2.out.2.2.2.2.2.1).mono ?_
    rintro e w' ⟨c', m', q1, q2, q3, q4, q5, q6⟩
    rcases q6 with ⟨gw, tv, S, E, q6, q7, q8, q9, q10, us, q11⟩ | q6
    · refine ⟨gw, tv, S, E, c', m', q6, ?_, q1, q2, q3, q4, q5, q7, q8, q9, q10 R2.out.2.2.2.2.2.2⟩
      obtain ⟨p, cap, e, _⟩ := q11.now
      exact ⟨p, cap, e⟩
    · exact absurd q6.1 (by have := R2.out.2.2.2.2.2.2; omega)
  have RS : Hid (Fr.TabIn w2 ∧ ShapeOf m2 ds ts ∧ (c2 0).1 ≠ t) := ⟨htab, hsh2, htc2⟩
  clear htab hsh2 htc2 HF
  refine wp_region_lit ?_
  refine wl_mv (.tmp 0) rfl rfl (ptr g) rfl ?_
  simp only [Act.put, List.setIfInBounds_toArray, List.set_cons_succ, List.set_cons_zero]
  refine wl_mv (.tmp 1) rfl rfl (.int .i64 (i : Nat)) rfl ?_
  simp only [Act.put, List.setIfInBounds_toArray, List.set_cons_succ, List.set_cons_zero]
  refine wpList_callF eN20 [.tmp 15, .tmp 16] _ rfl rfl [ptr g, .int .i64 (i : Nat)] rfl ?_
  refine HOP.out.mono ?_
  rintro e w3 ⟨gw, tv, S, E, c3, m3, rfl, ⟨pt, ct, rfl⟩, q1, q2, q3, q4, q5, q6, q7, q8, q9⟩
  refine ⟨_, rfl, ?_⟩
  have R3 : Hid ((∀ b, b < w2.heap.size → c3 b = c2 b) ∧ Live w3 c3 t g m3 ∧ Ch (fun b => (c2 b).1 = t) w2 w3 ∧ Rel m2 m3 i ∧ m3.steps ≤ m2.steps + 2 ∧ w2.heap.size ≤ gw ∧ WalAt w3 c3 t gw g (i : Int) S E ∧ Jo m3 i n S E [] ∧ m3.fuse < 0) := ⟨q1, q2, q3, q4, q5, q6, q7, q8, q9⟩
  clear q1 q2 q3 q4 q5 q6 q7 q8 q9 HOP
  simp only [Act.put, List.setIfInBounds_toArray, List.set_cons_succ, List.set_cons_zero]
  refine wl_mv (.tmp 17) rfl rfl (.tuple #[(ptr gw), (.slice pt 0 ct), (.int .i64 0)]) rfl ?_
  simp only [Act.put, List.setIfInBounds_toArray, List.set_cons_succ, List.set_cons_zero]
  refine wl_ext (.tmp 14) 0 rfl rfl #[(ptr gw), (.slice pt 0 ct), (.int .i64 0)] rfl (ptr gw) rfl ?_
  simp only [Act.put, List.setIfInBounds_toArray, List.set_cons_succ, List.set_cons_zero]
  refine wl_ext (.tmp 14) 1 rfl rfl #[(ptr gw), (.slice pt 0 ct), (.int .i64 0)] rfl (.slice pt 0 ct) rfl ?_
  simp only [Act.put, List.setIfInBounds_toArray, List.set_cons_succ, List.set_cons_zero]
  refine wl_ext (.tmp 14) 2 rfl rfl #[(ptr gw), (.slice pt 0 ct), (.int .i64 0)] rfl (.int .i64 0) rfl ?_
  simp only [Act.put, List.setIfInBounds_toArray, List.set_cons_succ, List.set_cons_zero]
  refine wl_as (.tmp 18) rfl rfl (ptr gw) rfl ?_
  simp only [Act.put, List.setIfInBounds_toArray, List.set_cons_succ, List.set_cons_zero]
  refine wl_as (.tmp 19) rfl rfl (.slice pt 0 ct) rfl ?_
  simp only [Act.put, List.setIfInBounds_toArray, List.set_cons_succ, List.set_cons_zero]
  refine wl_as (.tmp 20) rfl rfl (.int .i64 0) rfl ?_
  simp only [Act.put, List.setIfInBounds_toArray, List.set_cons_succ, List.set_cons_zero]
  refine wpList_nil ?_
  go_upto_region 5 with (refine wl_sl sl38 (.tmp 32) rfl rfl pt 0 ct rfl ?_)
  refine wp_region_lit ?_
  refine wl_mv (.tmp 0) rfl rfl (ptr g) rfl ?_
  simp only [Act.put, List.setIfInBounds_toArray, List.set_cons_succ, List.set_cons_zero]
  refine wl_mv (.tmp 1) rfl rfl (.int .i64 (i : Nat)) rfl ?_
  simp only [Act.put, List.setIfInBounds_toArray, List.set_cons_succ, List.set_cons_zero]
  refine wl_mv (.tmp 8) rfl rfl (ptr gw) rfl ?_
  simp only [Act.put, List.setIfInBounds_toArray, List.set_cons_succ, List.set_cons_zero]
  refine wl_mv (.tmp 2) rfl rfl (.int .i64 (n : Nat)) rfl ?_
  simp only [Act.put, List.setIfInBounds_toArray, List.set_cons_succ, List.set_cons_zero]
  refine wl rfl _ _ (run_build40 (.tmp 36) (.tmp 37) (.tmp 38) (.tmp 39) rfl g i gw n rfl rfl rfl rfl) ?_
  simp only [Act.put, List.setIfInBounds_toArray, List.set_cons_succ, List.set_cons_zero]
  refine wpList_box (.tmp 40) rfl rfl (dkCells g i (ptr gw) (.slice none 0 0) 0 n 0) rfl ?_
  intro w4 r4 s4 b4
  obtain ⟨gd, hgd⟩ : ∃ gd, gd = w3.heap.size := ⟨_, rfl⟩
  rw [← hgd] at r4 s4 ⊢
  have HD : Hid (Beg w c t g m ds ts i n w4 c3 gd gw m3 S E) := by
    have hcc : ∀ b, b < w.heap.size → c3 b = c b := fun b hb => by rw [R3.out.1 b (Nat.lt_of_lt_of_le hb R2.out.2.2.1.size)]; exact R2.out.1 b hb
    have hch : Ch (fun b => (c b).1 = t) w w4 := (R2.out.2.2.1.trans' R3.out.2.2.1 fun b hb e => by rw [← R2.out.1 b hb]; exact e).trans (Ch.of_below b4)
    have hgw := R3.out.2.2.2.2.2.2.1
    refine ⟨⟨⟨R3.out.2.1.below b4, r4, R3.out.2.1.2.2 gd (by omega), TabIn.later hgw.tab b4, hgw.tap, by unfold ShapeOf; rw [R3.out.2.2.2.1.sh]; exact RS.out.2.1, HL.out.2.2.1, HL.out.2.2.2.1, by decide⟩, hgw.below b4, by have := hgw.row.lt; omega, R3.out.2.2.2.2.2.2.2.1, [], fun W _ _ => TxsC.nil W⟩, hcc, hch, by have := R2.out.2.2.1.size; have := R3.out.2.2.1.size; omega, by have := R2.out.2.2.1.size; have := R3.out.2.2.2.2.2.1; omega, R2.out.2.2.2.1.trans R3.out.2.2.2.1, R3.out.2.2.2.2.2.2.2.2, by have := R2.out.2.2.2.2.1; have := R3.out.2.2.2.2.1; omega⟩
  clear r4 s4 b4 hgd R2 R3
  simp only [Act.put, List.setIfInBounds_toArray, List.set_cons_succ, List.set_cons_zero]
  refine wl_as (.tmp 41) rfl rfl (ptr gd) rfl ?_
  simp only [Act.put, List.setIfInBounds_toArray, List.set_cons_succ, List.set_cons_zero]
  refine wpList_nil ?_
  go_wp2_with fail
  rw [HPQ.out]
  exact ⟨c3, gd, gw, m3, S, E, rfl, HD.out⟩
end Go.Proofs.YtgcecejamcnkiaaDoor

namespace Go.Proofs.YtgcecejamcnkiaaDoor
open Go.RowKit Go.Maps

/-- within the examples: a plant of one disk of 64 sectors; nothing that was there is turned -/
structure Sw (w0 W : World) (c : Nat → Colour) (g n : Nat) (m : Pl) (K : Nat) : Prop where
  live : Live W c 2 g m
  tab : Fr.TabIn W
  cc : ∀ b, b < w0.heap.size → c b = (0, 0)
  below : Below w0.heap.size w0 W
  shape : ShapeOf m [n] []
  le : m.steps ≤ K
  tab0 : 0 < w0.heap.size
theorem Sw.c0 {w0 W : World} {c : Nat → Colour} {g n : Nat} {m : Pl} {K : Nat} (h : Sw w0 W c g n m K) : (c 0).1 ≠ 2 := by rw [h.cc 0 h.tab0]; decide
theorem Sw.next {w0 W W' : World} {c c' : Nat → Colour} {g n gw : Nat} {m m' : Pl} {K K' : Nat} (h : Sw w0 W c g n m K) (hcc : ∀ b, b < W.heap.size → c' b = c b) (hl : Live W' c' 2 g m') (hch : Ch (fun b => (c b).1 = 2 ∨ b = gw) W W') (hgw : w0.heap.size ≤ gw) (hsh : m'.sh = m.sh) (hs : m'.steps ≤ K') : Sw w0 W' c' g n m' K' :=
  ⟨hl, TabIn.ch h.tab hch (fun e => e.elim h.c0 (fun e => by have := h.tab0; omega)), fun b hb => by rw [hcc b (Nat.lt_of_lt_of_le hb h.below.size)]; exact h.cc b hb, h.below.trans (hch.below h.below.size fun b hb e => e.elim (fun e => by rw [h.cc b hb] at e; exact absurd e (by decide)) (fun e => by omega)), by unfold ShapeOf; rw [hsh]; exact h.shape, hs, h.tab0⟩
theorem Sw.nx {w0 W W' : World} {c c' : Nat → Colour} {g n : Nat} {m m' : Pl} {K K' : Nat} (h : Sw w0 W c g n m K) (hcc : ∀ b, b < W.heap.size → c' b = c b) (hl : Live W' c' 2 g m') (hch : Ch (fun b => (c b).1 = 2) W W') (hsh : m'.sh = m.sh) (hs : m'.steps ≤ K') : Sw w0 W' c' g n m' K' :=
  h.next (gw := w0.heap.size) hcc hl (hch.mono fun _ _ e => Or.inl e) (Nat.le_refl _) hsh hs
theorem Sw.bel {w0 W W' : World} {c : Nat → Colour} {g n : Nat} {m : Pl} {K : Nat} (h : Sw w0 W c g n m K) (hb : Below W.heap.size W W') : Sw w0 W' c g n m K := h.nx (fun _ _ => rfl) (h.live.below hb) (Ch.of_below hb) rfl h.le
theorem Sw.disk {w0 W : World} {c : Nat → Colour} {g n : Nat} {m : Pl} {K : Nat} (h : Sw w0 W c g n m K) (h8 : 8 ≤ n) (hon : m.on = true) (hK : K ≤ 1000000) : DiskOn m [n] [] 0 := ⟨h.shape, by simp, h8, hon, by have := h.le; omega⟩
section
variable {w0 W : World} {c : Nat → Colour} {g n : Nat} {m : Pl} {K : Nat}
theorem sOpenB (h : Sw w0 W c g n m K) (hK : K ≤ 1000000) (hb : Blank m 0 n) : Calls Tryd.prog 20 #[ptr g, .int .i64 0] W fun e W' => e = .returned (.tuple #[.pointer none, .slice none 0 0, .int .i64 4]) ∧ ∃ c', Sw w0 W' c' g n m K := by
  refine (openB_any h.live (h.disk hb.big hb.lv.on hK) rfl h.tab h.c0 hb).mono ?_
  rintro e W' ⟨rfl, c', q1, q2, q3⟩
  exact ⟨rfl, c', h.nx q1 q2 q3 rfl h.le⟩
theorem sFormat (h : Sw w0 W c g n m K) (hK : K ≤ 1000000) (h8 : 8 ≤ n) (hon : m.on = true) (hf : m.fuse < 0) : Calls Tryd.prog 19 #[ptr g, .int .i64 0] W fun e W' => e = .returned (.int .i64 0) ∧ ∃ c' m', Sw w0 W' c' g n m' (K + 5000) ∧ Jc m' 0 n [] ∧ m'.fuse < 0 := by
  have hle := h.le
  refine (formatJ_any (i := 0) h.live h.shape (by simp) rfl h8 hon h.tab h.c0 (by omega)).mono ?_
  rintro e W' ⟨c', m', q1, q2, q3, q4, q5, q6⟩
  rcases q6 with ⟨rfl, q7, q8⟩ | q6
  · exact ⟨rfl, c', m', h.nx q1 q2 q3 q4.sh (by omega), q7, q8 hf⟩
  · exact absurd q6.1 (by omega)
theorem sOpen (h : Sw w0 W c g n m K) (hK : K ≤ 1000000) {D : List (List (List Nat))} (hj : Jc m 0 n D) (hf : m.fuse < 0) : Calls Tryd.prog 20 #[ptr g, .int .i64 0] W fun e W' => ∃ gw p cap S E c' m', e = .returned (.tuple #[ptr gw, .slice p D.length cap, .int .i64 0]) ∧ Sw w0 W' c' g n m' (K + 2) ∧ W.heap.size ≤ gw ∧ WalAt W' c' 2 gw g (0 : Nat) S E ∧ Jo m' 0 n S E D ∧ m'.fuse < 0 ∧ (∀ b, b < W.heap.size → c' b = c b) ∧ Ch (fun b => (c b).1 = 2) W W' ∧ ∃ us, Rob (fun b => W.heap.size ≤ b ∧ b < gw ∧ (c' b).1 ≠ 2) (fun W => TxsC W (.slice p D.length cap) D us) W' := by
  have hle := h.le
  refine (openJ_any h.live (h.disk hj.lv.2.2.2 hj.lv.1.on hK) rfl h.tab h.c0 hj).mono ?_
  rintro e W' ⟨c', m', q1, q2, q3, q4, q5, q6⟩
  rcases q6 with ⟨gw, tv, S, E, rfl, q7, q8, q9, q10, us, q11⟩ | q6
  · obtain ⟨p, cap, e, _⟩ := q11.now
    subst e
    exact ⟨gw, p, cap, S, E, c', m', rfl, h.nx q1 q2 q3 q4.sh (by omega), q7, q8, q9, q10 hf, q1, q3, us, q11⟩
  · exact absurd q6.1 (by omega)
/-- an Append that has room, the fuse not burning -/
theorem app_ok {S E : Nat} {D : List (List (List Nat))} (h : Jo m 0 n S E D) (hst : m.steps < 1099511627775) (L : List (List Nat)) (hb : ∀ r ∈ L, ∀ c ∈ r, c < 256) (hl : longTx L = false) (hr : costs D + costOf L ≤ n - 1) (hf : m.fuse < 0) : ∃ M un, m.app 0 S E n L = (0, M, un) ∧ Jo M 0 n S un (D ++ [L]) ∧ Rel m M 0 ∧ M.steps ≤ m.steps + 100 ∧ M.fuse < 0 := by
  have hle := h.le
  obtain ⟨F, rows, hJ, hD, hE⟩ := h
  subst hE
  have hS := hJ.lt (by omega)
  have hsc := secs_cost L
  have hK : (rowSecs S (bodyOf L)).length ≤ 90 := by rw [rowSecs_length, bodyOf_length]; have := (notLong hl).2.2.1; unfold secsOf; omega
  rcases hJ.appC hS L hl hb (by omega) with ⟨k1, k2, k3, k4⟩ | ⟨k1, k2, k3⟩
  · exact ⟨_, _, Prod.ext k1 rfl, ⟨F, _, k3, by rw [List.map_append, hD]; rfl, k4.symm⟩, k2.oth.rel, by have := k2.le; show (m.app 0 S (logLen rows) n L).2.1.steps ≤ _; omega, k2.fuse hf⟩
  · exact absurd k2.fuse (by omega)
theorem sAppend (h : Sw w0 W c g n m K) (hK : K ≤ 1000000) {gw S E : Nat} {D : List (List (List Nat))} (hw : WalAt W c 2 gw g (0 : Nat) S E) (hgw : w0.heap.size ≤ gw) (hj : Jo m 0 n S E D) (hf : m.fuse < 0) (v : Value) (L : List (List Nat)) (hr : RowsIn W v L) (hl : longTx L = false) (hro : costs D + costOf L ≤ n - 1) :
    Calls Tryd.prog 21 #[ptr gw, v] W fun e W' => e = .returned (.int .i64 0) ∧ ∃ c' m' un, Sw w0 W' c' g n m' (K + 100) ∧ WalAt W' c' 2 gw g (0 : Nat) S un ∧ Jo m' 0 n S un (D ++ [L]) ∧ m'.fuse < 0 ∧ (∀ b, b < W.heap.size → c' b = c b) ∧ Ch (fun b => (c b).1 = 2 ∨ b = gw) W W' := by
  have hle := h.le
  have hjl := hj.le
  obtain ⟨M, un, e1, e2, e3, e4, e5⟩ := app_ok hj (by omega) L hr.mem hl hro hf
  have h8 := hj.jc.lv.2.2.2
  have := append_any' h.live 0 S E hw (by omega) h.shape (by simp) (show 1 ≤ n by omega) (by omega) v L hr (by have := (notLong hl).2.2.1; omega)
  refine this.mono ?_
  rintro e W' ⟨rfl, c', q1, q2, q3, q4⟩
  have e1' : m.app 0 S E ([n].getD 0 0) L = (0, M, un) := e1
  rw [e1'] at q2 q4 ⊢
  exact ⟨rfl, c', M, un, h.next q1 q2 q3 hgw e3.sh (by omega), q4, e2, e5, q1, q3⟩
theorem sAppendLong (h : Sw w0 W c g n m K) (hK : K ≤ 1000000) {gw S E : Nat} {D : List (List (List Nat))} (hw : WalAt W c 2 gw g (0 : Nat) S E) (hgw : w0.heap.size ≤ gw) (hj : Jo m 0 n S E D) (v : Value) (L : List (List Nat)) (hr : RowsIn W v L) (hl : longTx L = true) (hsz : txSize L ≤ 100000) :
    Calls Tryd.prog 21 #[ptr gw, v] W fun e W' => e = .returned (.int .i64 5) ∧ ∃ c', Sw w0 W' c' g n m K ∧ WalAt W' c' 2 gw g (0 : Nat) S E := by
  have hle := h.le
  have hjl := hj.le
  have h8 := hj.jc.lv.2.2.2
  have := append_any' h.live 0 S E hw (by omega) h.shape (by simp) (show 1 ≤ n by omega) (by omega) v L hr (by omega)
  refine this.mono ?_
  rintro e W' ⟨rfl, c', q1, q2, q3, q4⟩
  have e1' : m.app 0 S E ([n].getD 0 0) L = (5, m, E) := by unfold Pl.app; rw [hl, if_pos rfl]
  rw [e1'] at q2 q4 ⊢
  exact ⟨rfl, c', h.next q1 q2 q3 hgw rfl h.le, q4⟩
/-- with a fuse of nothing an Append does nothing, and the power is off -/
theorem app_dark {S E : Nat} {D : List (List (List Nat))} (h : Jo m 0 n S E D) (L : List (List Nat)) (hb : ∀ r ∈ L, ∀ c ∈ r, c < 256) (hl : longTx L = false) (hr : costs D + costOf L ≤ n - 1) (hf : m.fuse = 0) : m.app 0 S E n L = (2, m.step, E) ∧ ∀ ks, Jc (m.step.boot ks) 0 n D := by
  have hle := h.le
  obtain ⟨F, rows, hJ, hD, hE⟩ := h
  subst hE
  have hsc := secs_cost L
  have hfb : fitsB L n (logLen rows) = true := by unfold fitsB; rw [hl, decide_eq_true (by omega)]; rfl
  have hlay : m.lay ((0 : Nat) : Int) (1 + logLen rows) (rowSecs S (bodyOf L)) = (2, m.step) := by
    have hlen : 0 < (rowSecs S (bodyOf L)).length := by rw [rowSecs_length]; exact secsOf_pos _
    match hR : rowSecs S (bodyOf L), hlen with
    | s :: r, _ =>
      have hs : Sec s := rowSecs_sec S _ (bodyOf_lt L hb) s (by rw [hR]; simp)
      unfold Pl.lay
      rw [hJ.lv.write (1 + logLen rows) s hs (by rw [hJ.size]; have := secsOf_pos (txSize L); omega), if_pos hf, if_neg (show ¬ (2 : Int) = 0 by decide)]
  refine ⟨?_, fun ks => ?_⟩
  · unfold Pl.app
    rw [hl, hfb, if_neg (by decide), if_pos rfl, hlay]
    rfl
  · refine ⟨S, S, F, rows, hJ.same (Lv.boot (Pl.step_wf hJ.lv.wf) (by rw [m.step_n]; exact hJ.lv.lt) (by rw [m.step_tape]; exact hJ.lv.disk) ks) rfl m.step_sh m.step_ge fun p => ?_, hD⟩
    rw [boot_rd m.step ks 0 p (by rw [m.step_wt]; exact hJ.wt), m.step_rd]
theorem sAppendDark (h : Sw w0 W c g n m K) (hK : K ≤ 1000000) {gw S E : Nat} {D : List (List (List Nat))} (hw : WalAt W c 2 gw g (0 : Nat) S E) (hgw : w0.heap.size ≤ gw) (hj : Jo m 0 n S E D) (hf : m.fuse = 0) (v : Value) (L : List (List Nat)) (hr : RowsIn W v L) (hl : longTx L = false) (hro : costs D + costOf L ≤ n - 1) :
    Calls Tryd.prog 21 #[ptr gw, v] W fun e W' => e = .returned (.int .i64 2) ∧ ∃ c', Sw w0 W' c' g n m.step (K + 1) ∧ (∀ ks, Jc (m.step.boot ks) 0 n D) ∧ (∀ b, b < W.heap.size → c' b = c b) ∧ Ch (fun b => (c b).1 = 2 ∨ b = gw) W W' := by
  have hle := h.le
  have hjl := hj.le
  have h8 := hj.jc.lv.2.2.2
  obtain ⟨e1, e2⟩ := app_dark hj L hr.mem hl hro hf
  have := append_any' h.live 0 S E hw (by omega) h.shape (by simp) (show 1 ≤ n by omega) (by omega) v L hr (by have := (notLong hl).2.2.1; omega)
  refine this.mono ?_
  rintro e W' ⟨rfl, c', q1, q2, q3, q4⟩
  have e1' : m.app 0 S E ([n].getD 0 0) L = (2, m.step, E) := e1
  rw [e1'] at q2 ⊢
  exact ⟨rfl, c', h.next q1 q2 q3 hgw m.step_sh (by have := m.step_le; omega), e2, q1, q3⟩
theorem sFuse (h : Sw w0 W c g n m K) (N : Int) (h0 : -9223372036854775808 ≤ N) (h1 : N ≤ 9223372036854775807) : Calls Tryd.prog 14 #[ptr g, .int .i64 N] W fun e W' => e = .returned noResult ∧ ∃ c', Sw w0 W' c' g n (m.fuseTo N) K ∧ (∀ b, b < W.heap.size → c' b = c b) ∧ Ch (fun b => (c b).1 = 2) W W' := by
  refine (h.live.fuse N h0 h1).mono ?_
  rintro e W' ⟨rfl, hnx⟩
  obtain ⟨c', q1, q2, q3⟩ := hnx.nx
  exact ⟨rfl, c', h.nx q1 q2 q3 (Rel.fuse m 0 N).sh (by have := h.le; unfold Pl.fuseTo; split <;> exact this), q1, q3⟩
theorem sBoot (h : Sw w0 W c g n m K) (hK : K ≤ 1000000) (kv : Value) (ks : List Int) (hk : KeepIn W c 2 kv ks) : Calls Tryd.prog 15 #[ptr g, kv] W fun e W' => e = .returned noResult ∧ ∃ c', Sw w0 W' c' g n (m.boot ks) K ∧ (∀ b, b < W.heap.size → c' b = c b) ∧ Ch (fun b => (c b).1 = 2) W W' := by
  have hle := h.le
  refine (h.live.boot (by omega) kv ks hk).mono ?_
  rintro e W' ⟨rfl, hnx⟩
  obtain ⟨c', q1, q2, q3⟩ := hnx.nx
  exact ⟨rfl, c', h.nx q1 q2 q3 rfl h.le, q1, q3⟩
theorem sTrunc (h : Sw w0 W c g n m K) (hK : K ≤ 1000000) {gw S E : Nat} {D : List (List (List Nat))} (hw : WalAt W c 2 gw g (0 : Nat) S E) (hgw : w0.heap.size ≤ gw) (hj : Jo m 0 n S E D) (hf : m.fuse < 0) :
    Calls Tryd.prog 25 #[ptr gw] W fun e W' => e = .returned (.int .i64 0) ∧ ∃ c' m', Sw w0 W' c' g n m' (K + 2) ∧ WalAt W' c' 2 gw g (0 : Nat) (S + 1) 0 ∧ Jo m' 0 n (S + 1) 0 [] ∧ m'.fuse < 0 ∧ (∀ b, b < W.heap.size → c' b = c b) ∧ Ch (fun b => (c b).1 = 2 ∨ b = gw) W W' := by
  have hle := h.le
  obtain ⟨F, rows, hJ, hD, hE⟩ := hj
  have hS := hJ.lt (by omega)
  refine (truncate_any h.live ((0 : Nat) : Int) S E hS hw (by omega)).mono ?_
  rintro e W' ⟨rfl, c', q1, q2, q3, q4⟩
  rcases hJ.truncC hS with ⟨k1, k2, k3⟩ | ⟨k1, k2, k3⟩
  · rw [k1] at q4 ⊢
    rw [if_pos rfl, if_pos rfl] at q4
    have hl2 := k2.le
    simp only [List.length_singleton] at hl2
    exact ⟨rfl, c', _, h.next q1 q2 q3 hgw k2.oth.sh (by omega), q4, ⟨S + 1, [], k3, rfl, rfl⟩, k2.fuse hf, q1, q3⟩
  · exact absurd k2.fuse (by omega)
end
section
variable {w : World} {ops : Array Oper} {rest : List Oper} {o : Oper} {a : Act} {Q : Exit → Act → World → Prop}
theorem lit51b (x : Nat) (hgd : Region.wanted o (yielded ops a.tmps) = true) (ho : o.op = .buildSlice 51 1 #[(0, .const (.int .u8 (x : Nat)))]) (h : wpList Tryd.prog ops Q rest (a.put o.dst (.slice (some ⟨w.heap.size, 0, none⟩) 1 1)) (w.alloc (.cells #[.int .u8 (x : Nat)] 5))) : wpList Tryd.prog ops Q (o :: rest) a w := by
  have hr : (Instr.buildSlice 51 1 #[(0, .int .u8 (x : Nat))]).run Tryd.prog w = .ok (.slice (some ⟨w.heap.size, 0, none⟩) 1 1) (w.alloc (.cells #[.int .u8 (x : Nat)] 5)) := by kernel_rfl
  have hx : a.eval (.const (.int .u8 (x : Nat))) = .int .u8 (x : Nat) := rfl
  exact wl hgd _ _ (by simp only [execOp, ho, List.map_toArray, List.map_cons, List.map_nil, hx, hr, Sem.run_bind, Sem.run_pure, Result.andThen_ok]) h
theorem run_lit30_2 {w : World} {a : Act} {o : Oper} (x y : Operand) (ho : o.op = .buildSlice 30 2 #[(0, x), (1, y)]) (u v : Value) (hu : ∃ p n c, u = .slice p n c) (hv : ∃ p n c, v = .slice p n c) (hx : a.eval x = u) (hy : a.eval y = v) : (execOp a.eval o).run Tryd.prog w = .ok (.value (.slice (some ⟨w.heap.size, 0, none⟩) 2 2)) (w.alloc (.cells #[u, v] 51)) := by
  obtain ⟨p, n, c, rfl⟩ := hu
  obtain ⟨p', n', c', rfl⟩ := hv
  have hr : (Instr.buildSlice 30 2 #[(0, .slice p n c), (1, .slice p' n' c')]).run Tryd.prog w = .ok (.slice (some ⟨w.heap.size, 0, none⟩) 2 2) (w.alloc (.cells #[.slice p n c, .slice p' n' c'] 51)) := by kernel_rfl
  simp only [execOp, ho, List.map_toArray, List.map_cons, List.map_nil, hx, hy, hr, Sem.run_bind, Sem.run_pure, Result.andThen_ok]
theorem run_lit38_2 {w : World} {a : Act} {o : Oper} (x y : Operand) (ho : o.op = .buildSlice 38 2 #[(0, x), (1, y)]) (u v : Value) (hu : ∃ p n c, u = .slice p n c) (hv : ∃ p n c, v = .slice p n c) (hx : a.eval x = u) (hy : a.eval y = v) : (execOp a.eval o).run Tryd.prog w = .ok (.value (.slice (some ⟨w.heap.size, 0, none⟩) 2 2)) (w.alloc (.cells #[u, v] 30)) := by
  obtain ⟨p, n, c, rfl⟩ := hu
  obtain ⟨p', n', c', rfl⟩ := hv
  have hr : (Instr.buildSlice 38 2 #[(0, .slice p n c), (1, .slice p' n' c')]).run Tryd.prog w = .ok (.slice (some ⟨w.heap.size, 0, none⟩) 2 2) (w.alloc (.cells #[.slice p n c, .slice p' n' c'] 30)) := by kernel_rfl
  simp only [execOp, ho, List.map_toArray, List.map_cons, List.map_nil, hx, hy, hr, Sem.run_bind, Sem.run_pure, Result.andThen_ok]
set_option maxRecDepth 10000 in
theorem wl_neI {t : Nat} (x y : Operand) (hgd : Region.wanted o (yielded ops a.tmps) = true) (ho : o.op = .binOp .neq t x y t) (z z' : Int) (hx : a.eval x = .int .i64 z) (hy : a.eval y = .int .i64 z') (b : Bool) (hb : (!decide (z = z')) = b) (h : wpList Tryd.prog ops Q rest (a.put o.dst (.bool b)) w) : wpList Tryd.prog ops Q (o :: rest) a w := wl hgd _ w (by
  have e : (eqGuard .neq t x y (.int .i64 z) (.int .i64 z')).run Tryd.prog w = .ok () w := rfl
  have hr : (binOp .neq t (.int .i64 z) (.int .i64 z')).run Tryd.prog w = .ok (.bool b) w := by rw [← hb]; simp [binOp, Op.intCmp, bne]; rfl
  simp only [execOp, ho, hx, hy, e, hr, Sem.run_bind, Sem.run_pure, Result.andThen_ok]) h
theorem wl_not (x : Operand) (hgd : Region.wanted o (yielded ops a.tmps) = true) (ho : o.op = .unOp .not 4 x) (b : Bool) (hx : a.eval x = .bool b) (h : wpList Tryd.prog ops Q rest (a.put o.dst (.bool !b)) w) : wpList Tryd.prog ops Q (o :: rest) a w := wl hgd _ w (by
  simp only [execOp, ho, hx]
  simp [go_sem]) h
end
/-- a row of one byte -/
theorem one_byte {w w' : World} {x : Nat} (hx : x < 256) (h : Below (w.heap.size + 1) (w.alloc (.cells #[.int .u8 (x : Nat)] 5)) w') : SliceIn w' (.slice (some ⟨w.heap.size, 0, none⟩) 1 1) [x] := by
  have r : Row (w.alloc (.cells #[.int .u8 (x : Nat)] 5)) w.heap.size 5 [.int .u8 (x : Nat)] := Row.new w 5 _
  have r' : Row w' w.heap.size 5 (bcells [x]) := by unfold Row; rw [h.block _ (by omega)]; exact r
  exact whole_slice r' (by intro c hc; rw [List.mem_singleton.1 hc]; exact hx) (by simp)
end Go.Proofs.YtgcecejamcnkiaaDoor

/- Layer 8: the desk does a thing. Layer 8: a plant is made; a desk begins. -/
import Derived.Test.YtomfdnjbipgmcaaDoorZ37
namespace Go.Proofs.YtomfdnjbipgmcaaDoor
open Go.RowKit Go.Maps

theorem Desk.below {w w1 : World} {c : Nat → Colour} {t gd gw g : Nat} {m : Pl} {ds ts : List Nat} {i n S E : Nat} {D : List (List (List Nat))} {nv : Value} {dims : Nat} (h : Desk w c t gd gw g m ds ts i n S E D nv dims) (hb : Below w.heap.size w w1) : Desk w1 c t gd gw g m ds ts i n S E D nv dims := by
  obtain ⟨us, hn⟩ := h.now
  exact ⟨h.dk.below hb, h.wal.below hb, h.ne, h.jo, us, hn.below hb⟩
theorem OpR.below {w w1 : World} {P : Nat → Prop} {k N : Int} {txv kv : Value} {L : List (List Nat)} {ks : List Int} (h : OpR w P k N txv kv L ks) (hb : Below w.heap.size w w1) : OpR w1 P k N txv kv L ks := ⟨h.k, h.n, h.tx.below hb, h.keep.below hb, h.size⟩
theorem Done.after {w w1 : World} {c : Nat → Colour} {t gd gw g : Nat} {m : Pl} {ds ts : List Nat} {i n dims : Nat} {w' : World} {c' : Nat → Colour} {gw' : Nat} {m' : Pl} {S' E' : Nat} {D' : List (List (List Nat))} {nv' : Value} {dims' : Nat} (h : Done w1 c t gd gw g m ds ts i n dims w' c' gw' m' S' E' D' nv' dims') (hb : Below w.heap.size w w1) : Done w c t gd gw g m ds ts i n dims w' c' gw' m' S' E' D' nv' dims' :=
  ⟨h.desk, fun b hlt => h.cc b (Nat.lt_of_lt_of_le hlt hb.size), (Ch.of_below hb).trans h.ch, h.new.imp id (fun e => Nat.le_trans hb.size e), h.rel, h.le, h.dim⟩
end Go.Proofs.YtomfdnjbipgmcaaDoor

namespace Go.Proofs.YtomfdnjbipgmcaaDoor
open Go.RowKit Go.Maps

theorem wl_ext {w : World} {ops : Array Oper} {rest : List Oper} {o : Oper} {a : Act} {Q : Exit → Act → World → Prop} (x : Operand) (i : Nat) (hgd : Region.wanted o (yielded ops a.tmps) = true) (ho : o.op = .extract x i) (vs : Array Value) (hx : a.eval x = .tuple vs) (v : Value) (hv : vs[i]? = some v) (h : wpList Tryd.prog ops Q rest (a.put o.dst v) w) : wpList Tryd.prog ops Q (o :: rest) a w := wl hgd v w (by simp [execOp, ho, hx, Instr.extract, hv]) h
theorem app_int {w : World} (v : Value) (n : Nat) (xs : List Value) (hown : w.ownsRow 0 3 1 v n xs) (b : Nat) (x : Int) (hb : Row w b 3 [.int .i64 x]) (hn : n ≤ 1000) :
    ∃ v' w', (Builtin.append_ #[29, 29] 29 #[v, .slice (some ⟨b, 0, none⟩) 1 1]).run Tryd.prog w = .ok v' w' ∧ w'.ownsRow 0 3 1 v' (n + 1) (xs ++ [.int .i64 x]) ∧ w.grownBy w' v.ownBlock ∧ (v'.ownBlock = v.ownBlock ∨ v'.ownBlock = some w.heap.size) := by
  obtain ⟨i, hi, hz0, hz1, hz2⟩ := info_parts info3
  obtain ⟨v', w', hr, h2, h3, _, h5⟩ := run_append_own_at (P := Tryd.prog) (w := w) 0 29 31 3 i (.int .i64 0) 1 8 Tryd.underlying29 hi hz0 hz1 hz2 rfl (by decide) v n xs hown
    ⟨b, 0, none⟩ 1 1 [.int .i64 x] (by simp) (fun j y hy => by rw [add_none, Nat.zero_add]; exact hb.at j y hy) (by intro y hy; rw [List.mem_singleton.1 hy]; rfl) (by unfold maxLen; omega) (by omega) (Nat.zero_le _)
  exact ⟨v', w', hr, h2, h3, h5⟩
theorem run_lit31 {w : World} {a : Act} {o : Oper} (x : Operand) (ho : o.op = .buildSlice 29 1 #[(0, x)]) (u : Int) (hx : a.eval x = .int .i64 u) : (execOp a.eval o).run Tryd.prog w = .ok (.value (.slice (some ⟨w.heap.size, 0, none⟩) 1 1)) (w.alloc (.cells #[.int .i64 u] 3)) := by
  simp only [execOp, ho, List.map_toArray, List.map_cons, List.map_nil, hx, run_oneInt, Sem.run_bind, Sem.run_pure, Result.andThen_ok]
theorem agg50' : AggT 53 2 := ⟨Or.inl ⟨_, Tryd.underlying53⟩, by kernel_rfl⟩
theorem eN17 : EntersF 18 := Go.Proofs.enters_of Tryd.func18 (by kernel_rfl) rfl
theorem f50_0 : FieldAt 53 0 0 := fun w g off => by kernel_rfl
theorem s31 : (Tryd.prog.info? 29).map (·.size) = some 1 := by kernel_rfl
theorem run_build50 {w : World} {a : Act} {o : Oper} (ho : o.op = .build 53 #[]) : (execOp a.eval o).run Tryd.prog w = .ok (.value (.agg ([.slice none 0 0, .slice none 0 0] : List Value).toArray)) w := by
  have hr : (Instr.build 53 #[]).run Tryd.prog w = .ok (.agg ([.slice none 0 0, .slice none 0 0] : List Value).toArray) w := by kernel_rfl
  simp only [execOp, ho, List.map_toArray, List.map_nil, hr, Sem.run_bind, Sem.run_pure, Result.andThen_ok]
/-- the shape that is made: k disks so far -/
structure MdSt (w : World) (gs n k : Nat) (v : Value) (W : World) : Prop where
  below : Below w.heap.size w W
  ge : w.heap.size ≤ gs
  row : Row W gs 53 [v, .slice none 0 0]
  own : W.ownsRow 0 3 1 v k (List.replicate k (.int .i64 (n : Nat)))
  ap : ∀ b, v.ownBlock = some b → w.heap.size ≤ b ∧ b ≠ gs
theorem MdSt.ints {w : World} {gs n k : Nat} {v : Value} {W : World} (h : MdSt w gs n k v W) (hk : k ≤ 1000) : IntsIn W v (List.replicate k (n : Int)) := by
  rcases h.own.2 with ⟨e, h0⟩ | ⟨g, cap, cur, e, _, hg, hcap, _, hsz, _⟩
  · subst h0
    exact ⟨none, 0, e, Nat.le_refl _, by simp, Or.inl rfl⟩
  · refine ⟨some ⟨g, 0, none⟩, cap, by rw [e, List.length_replicate], by rw [List.length_replicate]; exact hcap, by rw [List.length_replicate]; omega, Or.inr ⟨g, 0, rfl, fun j hj => ?_⟩⟩
    rw [List.length_replicate] at hj
    have h2 := h.own.cells (g := g) (by rw [e]; rfl) j (.int .i64 (n : Nat)) (by simp [hj])
    rw [add_none] at h2
    rw [h2]
    simp [hj]
theorem shapeOk_rep (k n : Nat) (hk : 1 ≤ k ∧ k ≤ 12) (hn : 1 ≤ n ∧ n ≤ 4096) : shapeOk (List.replicate k (n : Int)) [] = true := by
  unfold shapeOk
  simp only [Bool.and_eq_true, decide_eq_true_eq, List.length_replicate, List.length_nil]
  refine ⟨by omega, by omega, ?_, rfl⟩
  unfold sizesOk
  simp only [List.all_eq_true, List.mem_replicate, Bool.and_eq_true, decide_eq_true_eq]
  rintro x ⟨_, rfl⟩
  omega
theorem newPl_rep (k n : Nat) : ShapeOf (newPl (List.replicate k (n : Int)) []) (List.replicate k n) [] := by
  unfold ShapeOf newPl
  simp
set_option maxHeartbeats 4000000 in
set_option maxRecDepth 100000 in
theorem made_any (w : World) (c : Nat → Colour) (t dk n : Nat) (hd : 1 ≤ dk ∧ dk ≤ 12) (hn : 1 ≤ n ∧ n ≤ 4096) :
    Calls Tryd.prog 6 #[.int .i64 (dk : Nat), .int .i64 (n : Nat)] w fun e w' => ∃ g c', e = .returned (ptr g) ∧ w.heap.size ≤ g ∧ (∀ b, b < w.heap.size → c' b = c b) ∧ Live w' c' t g (newPl (List.replicate dk (n : Int)) []) ∧ Below w.heap.size w w' := by
  have HOK : Hid (shapeOk (List.replicate dk (n : Int)) [] = true) := shapeOk_rep dk n hd hn
  obtain ⟨PQ, hPQ⟩ : ∃ PQ : Ending → World → Prop, PQ = fun (e : Ending) (w' : World) => ∃ g c', e = .returned (ptr g) ∧ w.heap.size ≤ g ∧ (∀ b, b < w.heap.size → c' b = c b) ∧ Live w' c' t g (newPl (List.replicate dk (n : Int)) []) ∧ Below w.heap.size w w' := ⟨_, rfl⟩
  have HPQ : Hid (PQ = fun (e : Ending) (w' : World) => ∃ g c', e = .returned (ptr g) ∧ w.heap.size ≤ g ∧ (∀ b, b < w.heap.size → c' b = c b) ∧ Live w' c' t g (newPl (List.replicate dk (n : Int)) []) ∧ Below w.heap.size w w') := hPQ
  rw [← hPQ]
  clear hPQ
  go_enter Tryd.func6, Tryd.ntmps6
  go_upto_region 1 with fail
  refine wp_region_lit ?_
  refine wl rfl _ w (run_build50 rfl) ?_
  simp only [Act.put, List.setIfInBounds_toArray, List.set_cons_succ, List.set_cons_zero]
  refine wpList_alloc_store agg50' _ zero24 rfl rfl rfl rfl rfl (.tmp 9) rfl [.slice none 0 0, .slice none 0 0] rfl rfl (by intro v hv; simp at hv; rw [hv]; rfl) (fun _ => rfl) (fun _ => rfl) ?_
  intro w1 r1 s1 b1
  obtain ⟨gs, hgs⟩ : ∃ gs, gs = w.heap.size := ⟨_, rfl⟩
  rw [← hgs] at r1 s1 ⊢
  have H0 : Hid (MdSt w gs n 0 (.slice none 0 0) w1) := ⟨b1, by omega, r1, World.ownsRow_nil _ _ _ _, fun b hb => by cases hb⟩
  clear r1 s1 b1 hgs
  simp only [Act.put, List.setIfInBounds_toArray, List.set_cons_succ, List.set_cons_zero]
  refine wpList_nil ?_
  go_upto_region 2 with fail
  go_wp2_with fail
  go_loopw [6] (fun vi W => ∃ k : Nat, vi = .int .i64 (k : Nat) ∧ k ≤ dk ∧ ∃ v, MdSt w gs n k v W) (fun vi _ => dk - (intOf vi).toNat)
  case atStart => exact ⟨0, rfl, Nat.zero_le _, _, H0.out⟩
  case round =>
    obtain ⟨k, rfl, hk, v, hI⟩ := hrel
    have HI : Hid (MdSt w gs n k v wr) := hI
    clear hI H0
    by_cases hlt : k < dk
    · have t1 : decide ((k : Int) < (dk : Int)) = true := decide_eq_true (by omega)
      have b2 : Below wr.heap.size wr (wr.alloc (.cells #[.int .i64 (n : Nat)] 3)) := below_alloc wr _
      have r2 : Row (wr.alloc (.cells #[.int .i64 (n : Nat)] 3)) wr.heap.size 3 [.int .i64 (n : Nat)] := Row.new wr 3 _
      obtain ⟨v2, w2, e2, o2, g2, l2⟩ := app_int v k _ (ownK HI.out.own fun b hb => b2.block b (World.ownsRow.lt HI.out.own b hb).2) wr.heap.size (n : Nat) r2 (by omega)
      have hch : Ch (fun b => v.ownBlock = some b) wr w2 := (Ch.of_below b2).grown g2 fun k hk => Or.inl hk
      have z2 : (wr.alloc (.cells #[.int .i64 (n : Nat)] 3)).heap.size = wr.heap.size + 1 := World.size_alloc _ _
      have s2 := g2.size
      have HE : Hid ((Builtin.append_ #[29, 29] 29 #[v, .slice (some ⟨wr.heap.size, 0, none⟩) 1 1]).run Tryd.prog (wr.alloc (.cells #[.int .i64 (n : Nat)] 3)) = .ok v2 w2 ∧ Row w2 gs 53 [v, .slice none 0 0] ∧ (v2.cells = #[v2] ∧ v2.oneCell' = true)) := ⟨e2, hch.row (fun e => (HI.out.ap gs e).2 rfl) HI.out.row, own_cells o2⟩
      have hap : ∀ b, v2.ownBlock = some b → w.heap.size ≤ b ∧ b ≠ gs := fun b hb => by
        rcases l2 with e | e
        · exact HI.out.ap b (by rw [← e]; exact hb)
        · rw [hb] at e; injection e with e
          have := HI.out.row.lt
          have := HI.out.below.size
          exact ⟨by omega, by omega⟩
      have R3 : Hid (MdSt w gs n (k + 1) v2 (w2.setCell ⟨gs, 0 + 0, none⟩ v2)) := by
        have hc3 : Ch (· = gs) w2 (w2.setCell ⟨gs, 0 + 0, none⟩ v2) := (Ch.refl (· = gs) w2).setCell (Or.inl rfl) _ _
        refine ⟨HI.out.below.trans ((hch.below HI.out.below.size fun b hb e => by have := (HI.out.ap b e).1; omega).trans (hc3.below (Nat.le_trans HI.out.below.size hch.size) fun b hb e => by have := HI.out.ge; omega)), HI.out.ge, ?_, ?_, hap⟩
        · have h6 := row_cell' (i := 0 + 0) HE.out.2.1 v2
          simpa using h6
        · rw [List.replicate_succ']
          exact ownK o2 fun b hb => hc3.block b (World.ownsRow.lt o2 b hb).2 (hap b hb).2
      clear b2 r2 e2 o2 g2 l2 hch z2 s2 hap
      go_upto_region 5 with fail
      refine wp_region_lit ?_
      refine wl_fld f50_0 (.tmp 5) rfl rfl gs 0 rfl ?_
      simp only [Act.put, List.setIfInBounds_toArray, List.set_cons_succ, List.set_cons_zero]
      refine wl_ld o31 (.tmp 15) rfl rfl gs (0 + 0) rfl v (HI.out.row.at 0 _ rfl) ?_
      simp only [Act.put, List.setIfInBounds_toArray, List.set_cons_succ, List.set_cons_zero]
      refine wl_mv (.tmp 1) rfl rfl (.int .i64 (n : Nat)) rfl ?_
      simp only [Act.put, List.setIfInBounds_toArray, List.set_cons_succ, List.set_cons_zero]
      refine wl rfl _ _ (run_lit31 (.tmp 17) rfl (n : Nat) rfl) ?_
      simp only [Act.put, List.setIfInBounds_toArray, List.set_cons_succ, List.set_cons_zero]
      refine wl_app (.tmp 16) (.tmp 18) rfl rfl v _ v2 rfl rfl HE.out.1 ?_
      simp only [Act.put, List.setIfInBounds_toArray, List.set_cons_succ, List.set_cons_zero]
      refine wl_fld f50_0 (.tmp 5) rfl rfl gs 0 rfl ?_
      simp only [Act.put, List.setIfInBounds_toArray, List.set_cons_succ, List.set_cons_zero]
      refine wl_put s31 (.tmp 20) (.tmp 19) rfl rfl rfl gs (0 + 0) 53 [v, .slice none 0 0] rfl v2 rfl HE.out.2.2 HE.out.2.1 (show 0 + 0 < 2 by decide) ?_
      refine wpList_nil ?_
      clear HE HI
      obtain ⟨w4, hw4⟩ : ∃ w4, w4 = w2.setCell ⟨gs, 0 + 0, none⟩ v2 := ⟨_, rfl⟩
      rw [← hw4] at R3 ⊢
      clear hw4
      go_wp2_with fail
      refine ⟨⟨k + 1, by go_num, by omega, v2, R3.out⟩, ?_⟩
      simp [intOf]; omega
    · obtain rfl : dk = k := by omega
      have t1 : decide ((dk : Int) < (dk : Int)) = false := decide_eq_false (by omega)
      have HN : Hid (Calls Tryd.prog 18 #[.agg #[v, .slice none 0 0]] wr fun e w' => ∃ g, e = .returned (.tuple #[ptr g, .int .i64 0]) ∧ PQ (.returned (ptr g)) w') := by
        refine (Live.new wr c t v (.slice none 0 0) _ [] (HI.out.ints (by omega)) ⟨none, 0, rfl, Nat.le_refl _, by decide, Or.inl rfl⟩ HOK.out).mono ?_
        rintro e w' ⟨g, c', rfl, h1, h2, _, h4, h5⟩
        refine ⟨g, rfl, ?_⟩
        rw [HPQ.out]
        exact ⟨g, c', rfl, Nat.le_trans HI.out.below.size h1, fun b hb => h2 b (Nat.lt_of_lt_of_le hb HI.out.below.size), h4, HI.out.below.trans (h5.mono HI.out.below.size)⟩
      go_upto_region 6 with fail
      refine wp_region_lit ?_
      refine wl_ldA agg50' (.tmp 5) rfl rfl gs 0 rfl [v, .slice none 0 0] rfl (fun j v hj => by rw [Nat.zero_add]; exact HI.out.row.at j v hj) ?_
      simp only [Act.put, List.setIfInBounds_toArray, List.set_cons_succ, List.set_cons_zero]
      refine wpList_callF eN17 [.tmp 22] _ rfl rfl [.agg #[v, .slice none 0 0]] rfl ?_
      refine HN.out.mono ?_
      rintro e w2 ⟨g, rfl, hQ⟩
      have HQ : Hid (PQ (.returned (ptr g)) w2) := hQ
      clear hQ HN HI
      refine ⟨_, rfl, ?_⟩
      simp only [Act.put, List.setIfInBounds_toArray, List.set_cons_succ, List.set_cons_zero]
      refine wl_mv (.tmp 23) rfl rfl (.tuple #[ptr g, .int .i64 0]) rfl ?_
      simp only [Act.put, List.setIfInBounds_toArray, List.set_cons_succ, List.set_cons_zero]
      refine wl_ext (.tmp 21) 0 rfl rfl #[ptr g, .int .i64 0] rfl (ptr g) rfl ?_
      simp only [Act.put, List.setIfInBounds_toArray, List.set_cons_succ, List.set_cons_zero]
      refine wl_ext (.tmp 21) 1 rfl rfl #[ptr g, .int .i64 0] rfl (.int .i64 0) rfl ?_
      simp only [Act.put, List.setIfInBounds_toArray, List.set_cons_succ, List.set_cons_zero]
      refine wl_as (.tmp 24) rfl rfl (ptr g) rfl ?_
      simp only [Act.put, List.setIfInBounds_toArray, List.set_cons_succ, List.set_cons_zero]
      refine wl_as (.tmp 25) rfl rfl (.int .i64 0) rfl ?_
      simp only [Act.put, List.setIfInBounds_toArray, List.set_cons_succ, List.set_cons_zero]
      refine wpList_nil ?_
      go_wp2_with fail
      exact HQ.out
/-- a desk begins -/
structure Beg (w : World) (c : Nat → Colour) (t g : Nat) (m : Pl) (ds ts : List Nat) (i n : Nat) (w' : World) (c' : Nat → Colour) (gd gw : Nat) (m' : Pl) (S E : Nat) : Prop where
  desk : Desk w' c' t gd gw g m' ds ts i n S E [] (.slice none 0 0) 0
  cc : ∀ b, b < w.heap.size → c' b = c b
  ch : Ch (fun b => (c b).1 = t) w w'
  gd : w.heap.size ≤ gd
  gw : w.heap.size ≤ gw
  rel : Rel m m' i
  fuse : m'.fuse < 0
  le : m'.steps ≤ m.steps + 6000
end Go.Proofs.YtomfdnjbipgmcaaDoor

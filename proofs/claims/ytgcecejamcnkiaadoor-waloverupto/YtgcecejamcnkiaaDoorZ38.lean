/- Layer 8: the desk formats its disk anew. -/
import Derived.Test.YtgcecejamcnkiaaDoorZ36
namespace Go.Proofs.YtgcecejamcnkiaaDoor
open Go.RowKit Go.Maps

theorem wpList_callW {w : World} {ops : Array Oper} {rest : List Oper} {o : Oper} {a : Act} {Q : Exit → Act → World → Prop} {f : Nat} (ef : EntersF f) (xs : List Operand) (ts : Array TypeId) (hgd : Region.wanted o (yielded ops a.tmps) = true) (ho : o.op = .call { callee := .value (.func f), args := xs.toArray, argTypes := ts }) (vs : List Value) (hv : xs.map a.eval = vs)
    (h : Calls Tryd.prog f vs.toArray w fun e w' => ∃ v, e = .returned v ∧ wpList Tryd.prog ops Q rest (a.put o.dst v) w') : wpList Tryd.prog ops Q (o :: rest) a w :=
  BigFrame.wpList_want hgd fun K hK => by
    unfold Oper.wp
    rw [run_call ef xs ts ho vs hv]
    refine h.mono fun e w' he => ?_
    obtain ⟨v, rfl, hw⟩ := he
    exact hK _ _ hw
/-- Format of a disk that may have a journal -/
theorem formatJ_any {w : World} {c : Nat → Colour} {t g : Nat} {m : Pl} (h : Live w c t g m) {ds ts : List Nat} {i n : Nat} (hsh : ShapeOf m ds ts) (hi : i < ds.length) (hn : ds.getD i 0 = n) (h8 : 8 ≤ n) (hon : m.on = true) (ht : Fr.TabIn w) (htc : (c 0).1 ≠ t) (hst : m.steps + 20000 < 1099511627775) :
    Calls Tryd.prog 19 #[ptr g, .int .i64 (i : Nat)] w fun e w' => ∃ c' m', (∀ b, b < w.heap.size → c' b = c b) ∧ Live w' c' t g m' ∧ Ch (fun b => (c b).1 = t) w w' ∧ Rel m m' i ∧ m'.steps ≤ m.steps + 5000 ∧
      ((e = .returned (.int .i64 0) ∧ Jc m' i n [] ∧ (m.fuse < 0 → m'.fuse < 0)) ∨
       (0 ≤ m.fuse ∧ e = .returned (.int .i64 2) ∧ m'.on = false ∧ (m.wt i = [] → ∀ ks, (∀ p, (m'.boot ks).rd i p = m.rd i p) ∨ Blank (m'.boot ks) i n ∨ Jc (m'.boot ks) i n []))) := by
  have hhold : holds ds (i : Int) = true := by
    unfold holds
    exact decide_eq_true ⟨by omega, by omega, by rw [Int.toNat_natCast, hn]; exact h8⟩
  have hf : m.format ds (i : Int) = m.format3 i n := by
    unfold Pl.format
    rw [hhold, if_pos rfl, Int.toNat_natCast, hn]
  have hd := hsh.disk i hi
  have hlv : Lv m i := ⟨h.2.1, hon, by rw [hsh.n]; omega, hd.1⟩
  have hsz : m.size i = n := by rw [hd.2, hn]
  have hn4 : n ≤ 4096 := by rw [← hsz]; exact (h.2.1.sizes i hlv.lt).2
  refine (format_any h hsh (i : Int) ht htc hst).mono fun e w' he => ?_
  obtain ⟨he, c', hcc, hl, hch⟩ := he
  rw [hf] at he hl
  refine ⟨c', _, hcc, hl, hch, ?_⟩
  rcases format_C hlv hsz h8 with ⟨k1, k2, k3, k4, k5⟩ | ⟨k1, k2, k3, k4, k5, k6, k7⟩
  · exact ⟨k2.rel, by omega, Or.inl ⟨by rw [he, k1], ⟨1, 1, 1, [], k5, rfl⟩, k4⟩⟩
  · refine ⟨k2.rel, by omega, Or.inr ⟨k4, by rw [he, k1], k5, fun hw ks => ?_⟩⟩
    rcases k7 hw ks with k | k | k
    · exact Or.inl k
    · exact Or.inr (Or.inl k)
    · exact Or.inr (Or.inr ⟨1, 1, 1, [], k, rfl⟩)
/-- Open of a disk whose head is blank -/
theorem openB_any {w : World} {c : Nat → Colour} {t g : Nat} {m : Pl} (h : Live w c t g m) {ds ts : List Nat} {i n : Nat} (hd : DiskOn m ds ts i) (hn : ds.getD i 0 = n) (ht : Fr.TabIn w) (htc : (c 0).1 ≠ t) (hb : Blank m i n) :
    Calls Tryd.prog 20 #[ptr g, .int .i64 (i : Nat)] w fun e w' => e = .returned (.tuple #[.pointer none, .slice none 0 0, .int .i64 4]) ∧ ∃ c', (∀ b, b < w.heap.size → c' b = c b) ∧ Live w' c' t g m ∧ Ch (fun b => (c b).1 = t) w w' := by
  have h1 := hb.openR
  refine (open_any h hd ht htc).mono fun e w' he => ?_
  obtain ⟨wv, tv, he, c', hcc, hl, hch, _, hx⟩ := he
  rw [hn, h1] at he hl hx
  obtain ⟨q1, q2⟩ := hx (show (4 : Int) ≠ 0 by decide)
  exact ⟨by rw [he, q1, q2], c', hcc, hl, hch⟩
theorem Jd.back {m m' : Pl} {i n : Nat} {D : List (List (List Nat))} (h : Jc m i n D) (lv : Lv m' i) (wt : m'.wt i = []) (sh : m'.sh = m.sh) (st : m.steps ≤ m'.steps) (rd : ∀ p, m'.rd i p = m.rd i p) : Jc m' i n D := by
  obtain ⟨S, B, F, rows, h1, h2⟩ := h
  exact ⟨S, B, F, rows, h1.same lv wt sh st rd, h2⟩
/-- a list of nothing: what may be told -/
theorem may_one {w : World} {c : Nat → Colour} {t gd : Nat} {tv : Value} {D : List (List (List Nat))} {us : List Value} (h : Rob (Fr2 c t gd) (fun W => TxsC W tv D us) w) (hc : (c w.heap.size).1 ≠ t) (hg : gd < w.heap.size) : Rob (Fr2 c t gd) (fun W => MayIn W (.slice (some ⟨w.heap.size, 0, none⟩) 1 1) [(tv, D, us)]) (w.alloc (.cells #[tv] 38)) :=
  may_new (l := [(tv, D, us)]) (by intro x hx; rw [List.mem_singleton.1 hx]; exact h) (by simp) ⟨hc, by omega⟩
set_option maxHeartbeats 16000000 in
set_option maxRecDepth 100000 in
theorem dformat_any {w : World} {c : Nat → Colour} {t gd gw g : Nat} {m : Pl} {ds ts : List Nat} {i n S E : Nat} {D : List (List (List Nat))} {nv : Value} {dims : Nat} (h : Desk w c t gd gw g m ds ts i n S E D nv dims) (hst : m.steps + 40000 < 1099511627775) (hdm : dims ≤ 999999900) {k N : Int} {txv kv : Value} {L : List (List Nat)} {ks : List Int} (ho : OpR w (Fr3 c t gd gw) k N txv kv L ks) :
    Calls Tryd.prog 29 #[ptr gd, .agg (opCells k N txv kv).toArray] w fun e w' => e = .returned (.bool true) ∧ ∃ c' gw' m' S' E' D' nv' dims', Done w c t gd gw g m ds ts i n dims w' c' gw' m' S' E' D' nv' dims' := by
  obtain ⟨us, hnow⟩ := h.now
  obtain ⟨tp, tn, tc, htx⟩ := ho.tx.now.isSl
  obtain ⟨kp, kn, kc, hkv⟩ := ho.keep.isSl
  subst hkv
  have HI : Hid (Desk w c t gd gw g m ds ts i n S E D nv dims) := h
  have HO : Hid (KeepX w (Fr2 c t gd) (.slice kp kn kc) ks) := ho.keep.next (Nat.le_refl _) fun b hb hp => ⟨rfl, hp.1, hp.2.1⟩
  have HNOW : Hid (Rob (Fr2 c t gd) (fun W => TxsC W nv D us) w) := hnow.next (Nat.le_refl _) fun b hb hp => ⟨rfl, hp.1, hp.2.1⟩
  have HB : Hid (8 ≤ n ∧ m.on = true ∧ m.wt i = [] ∧ m.steps + 40000 < 1099511627775 ∧ dims ≤ 999999900 ∧ gd < w.heap.size) := ⟨h.jo.jc.lv.2.2.2, h.jo.jc.lv.1.on, h.jo.jc.lv.2.1, hst, hdm, h.dk.row.lt⟩
  obtain ⟨PQ, hPQ⟩ : ∃ PQ : Ending → World → Prop, PQ = fun (e : Ending) (w' : World) => e = .returned (.bool true) ∧ ∃ c' gw' m' S' E' D' nv' dims', Done w c t gd gw g m ds ts i n dims w' c' gw' m' S' E' D' nv' dims' := ⟨_, rfl⟩
  have HPQ : Hid (PQ = fun (e : Ending) (w' : World) => e = .returned (.bool true) ∧ ∃ c' gw' m' S' E' D' nv' dims', Done w c t gd gw g m ds ts i n dims w' c' gw' m' S' E' D' nv' dims') := hPQ
  rw [← hPQ]
  have HSL : Hid (∃ p n c, txv = .slice p n c) := ⟨tp, tn, tc, htx⟩
  -- what an opening answers from a state of the desk's
  have HOP : Hid (∀ (w1 : World) (c1 : Nat → Colour) (m1 : Pl) (d1 : Nat) (mv : Value) (l : List (Value × List (List (List Nat)) × List Value)) (D1 : List (List (List Nat))), (∀ b, b < w.heap.size → c1 b = c b) → Ch (fun b => (c b).1 = t ∨ b = gd) w w1 → Dk w1 c1 t gd g m1 ds ts i n (ptr gw) nv (costs D) d1 → Rel m m1 i → m1.steps ≤ m.steps + 11000 → d1 ≤ dims + 1 → Jc m1 i n D1 → Rob (Fr2 c1 t gd) (fun W => MayIn W mv l) w1 → Among D1 (l.map (·.2.1)) → Calls Tryd.prog 16 #[ptr gd, .slice kp kn kc, mv] w1 fun e w' => e = .returned (.bool true) ∧ PQ e w') := fun w1 c1 m1 d1 mv l D1 hcc hch hdk hrl hs hd hj hm ha => by
    refine (opened_any hdk hj (by omega) (by omega) (HO.out.next hch.size (Dk.later hcc hch)) hm ha).mono ?_
    rintro e w' ⟨rfl, c', gw', m', S', E', nv', dims', hO⟩
    refine ⟨rfl, ?_⟩
    rw [hPQ]
    exact ⟨rfl, c', gw', m', S', E', D1, nv', dims', hO.done hcc (hch.mono fun b _ e => e.elim Or.inl (fun e => Or.inr (Or.inl e))) hrl h.dk.row.lt (by omega) (by omega)⟩
  clear hPQ h ho hnow hst hdm htx
  go_enter Tryd.func29, Tryd.ntmps29
  go_upto_region 0 with fail
  refine wp_region_lit ?_
  refine wpList_box (.tmp 1) rfl rfl (opCells k N txv (.slice kp kn kc)) rfl ?_
  intro w1 r1 s1 b1
  obtain ⟨gop, hgop⟩ : ∃ gop, gop = w.heap.size := ⟨_, rfl⟩
  rw [← hgop] at r1 s1 ⊢
  have R1 : Hid (Row w1 gop 33 (opCells k N txv (.slice kp kn kc)) ∧ Below w.heap.size w w1 ∧ w.heap.size ≤ gop) := ⟨r1, b1, by omega⟩
  clear r1 s1 b1 hgop
  simp only [Act.put, List.setIfInBounds_toArray, List.set_cons_succ, List.set_cons_zero]
  refine wl_as (.const (.bool false)) rfl rfl (.bool false) rfl ?_
  simp only [Act.put, List.setIfInBounds_toArray, List.set_cons_succ, List.set_cons_zero]
  refine wpList_nil ?_
  go_upto_region 1 with fail
  refine wp_region_held (S := fun X => Row X gd 40 (dkCells g i (ptr gw) nv (costs D) n dims) ∧ Row X gop 33 (opCells k N txv (.slice kp kn kc))) (by kernel_rfl) ?_
  show wpAnyH _ _ _ _ _ 10 (Array.replicate 10 false) _ _
  obtain ⟨X, hX⟩ : ∃ X : World, X = { w1 with drawn := w1.drawn + 1 } := ⟨_, rfl⟩
  rw [← hX]
  have hbX : Below w1.heap.size w1 X := by rw [hX]; exact ⟨rfl, rfl, rfl, Nat.le_refl _, fun _ _ => rfl⟩
  have RX : Hid (Below w.heap.size w X ∧ Row X gop 33 (opCells k N txv (.slice kp kn kc)) ∧ Dk X c t gd g m ds ts i n (ptr gw) nv (costs D) dims) := ⟨R1.out.2.1.trans (hbX.mono R1.out.2.1.size), R1.out.1.later hbX R1.out.1.lt, HI.out.dk.below (R1.out.2.1.trans (hbX.mono R1.out.2.1.size))⟩
  have hS0 : Row X gd 40 (dkCells g i (ptr gw) nv (costs D) n dims) ∧ Row X gop 33 (opCells k N txv (.slice kp kn kc)) := ⟨RX.out.2.2.row, RX.out.2.1⟩
  clear hbX
  clear hX
  refine takeH (i := 0) (some 9) rfl rfl (by kernel_rfl) (by kernel_rfl) (by kernel_rfl) (fun _ _ _ h => h) (gMove rfl (.tmp 0) rfl (ptr gd) rfl) hS0 ?_
  simp only [Act.put, List.setIfInBounds_toArray, List.set_cons_succ, List.set_cons_zero]
  refine takeH (i := 1) (some 10) rfl rfl (by kernel_rfl) (by kernel_rfl) (by kernel_rfl) (fun _ _ _ h => h) (nilOp rfl (.tmp 9) rfl ⟨gd, 0, none⟩ rfl) hS0 ?_
  simp only [Act.put, List.setIfInBounds_toArray, List.set_cons_succ, List.set_cons_zero]
  refine takeH (i := 2) (some 11) rfl rfl (by kernel_rfl) (by kernel_rfl) (by kernel_rfl) (fun _ _ _ h => h) (gField f40_0 rfl (.tmp 10) rfl gd 0 rfl) hS0 ?_
  simp only [Act.put, List.setIfInBounds_toArray, List.set_cons_succ, List.set_cons_zero]
  refine takeH (i := 3) (some 12) rfl rfl (by kernel_rfl) (by kernel_rfl) (by kernel_rfl) (fun _ _ _ h => h) (gLoad o25 rfl (.tmp 11) rfl gd (0 + 0) rfl (ptr g) (fun _ h => (h.1.at 0 _ rfl))) hS0 ?_
  simp only [Act.put, List.setIfInBounds_toArray, List.set_cons_succ, List.set_cons_zero]
  refine takeH (i := 4) (some 13) rfl rfl (by kernel_rfl) (by kernel_rfl) (by kernel_rfl) (fun _ _ _ h => h) (gMove rfl (.tmp 0) rfl (ptr gd) rfl) hS0 ?_
  simp only [Act.put, List.setIfInBounds_toArray, List.set_cons_succ, List.set_cons_zero]
  refine takeH (i := 5) (some 14) rfl rfl (by kernel_rfl) (by kernel_rfl) (by kernel_rfl) (fun _ _ _ h => h) (nilOp rfl (.tmp 13) rfl ⟨gd, 0, none⟩ rfl) hS0 ?_
  simp only [Act.put, List.setIfInBounds_toArray, List.set_cons_succ, List.set_cons_zero]
  refine takeH (i := 6) (some 15) rfl rfl (by kernel_rfl) (by kernel_rfl) (by kernel_rfl) (fun _ _ _ h => h) (gField f40_1 rfl (.tmp 14) rfl gd 0 rfl) hS0 ?_
  simp only [Act.put, List.setIfInBounds_toArray, List.set_cons_succ, List.set_cons_zero]
  refine takeH (i := 7) (some 16) rfl rfl (by kernel_rfl) (by kernel_rfl) (by kernel_rfl) (fun _ _ _ h => h) (gLoad o3' rfl (.tmp 15) rfl gd (0 + 1) rfl (.int .i64 (i : Nat)) (fun _ h => (h.1.at 1 _ rfl))) hS0 ?_
  simp only [Act.put, List.setIfInBounds_toArray, List.set_cons_succ, List.set_cons_zero]
  clear hS0
  refine oneH (i := 8) (by kernel_rfl) ?_
  refine opCallA (some 17) rfl rfl rfl 19 _ (run_call eN19 [.tmp 12, .tmp 16] _ rfl [ptr g, .int .i64 (i : Nat)] rfl) ?_
  refine (formatJ_any RX.out.2.2.live RX.out.2.2.shape RX.out.2.2.lt RX.out.2.2.size HB.out.1 HB.out.2.1 RX.out.2.2.tab RX.out.2.2.tap (by have := HB.out.2.2.2.1; omega)).mono ?_
  rintro e w2 ⟨c2, m2, q1, q2, q3, q4, q5, q6⟩
  have hgc : (c gop).1 ≠ t := HI.out.dk.live.2.2 gop R1.out.2.2
  have R2 : Hid (Dk w2 c2 t gd g m2 ds ts i n (ptr gw) nv (costs D) dims ∧ Row w2 gop 33 (opCells k N txv (.slice kp kn kc)) ∧ (∀ b, b < w.heap.size → c2 b = c b) ∧ Ch (fun b => (c b).1 = t) w w2 ∧ Rel m m2 i ∧ m2.steps ≤ m.steps + 5000 ∧ (c2 gop).1 ≠ t ∧ w.heap.size ≤ gop) := ⟨RX.out.2.2.nx q1 q2 q3 q4.sh, q3.row hgc RX.out.2.1, fun b hb => q1 b (Nat.lt_of_lt_of_le hb RX.out.1.size), (Ch.of_below RX.out.1).trans q3, q4, q5, by rw [q1 gop RX.out.2.1.lt]; exact hgc, R1.out.2.2⟩
  have hS2 : Row w2 gd 40 (dkCells g i (ptr gw) nv (costs D) n dims) ∧ Row w2 gop 33 (opCells k N txv (.slice kp kn kc)) := ⟨R2.out.1.row, R2.out.2.1⟩
  clear q1 q2 q3 q4 q5 hgc RX R1
  rcases q6 with ⟨rfl, q7, q8⟩ | ⟨q7, rfl, q8, q9⟩
  · have RA : Hid (Jc m2 i n []) := q7
    clear q7 q8
    refine ⟨_, rfl, ?_⟩
    refine ⟨hS2, ?_⟩
    simp only [Act.put, List.setIfInBounds_toArray, List.set_cons_succ, List.set_cons_zero]
    refine takeH (i := 9) (some 5) rfl rfl (by kernel_rfl) (by kernel_rfl) (by kernel_rfl) (fun _ _ _ h => h) (gAssign rfl (.tmp 17) rfl (.int .i64 0) rfl) hS2 ?_
    simp only [Act.put, List.setIfInBounds_toArray, List.set_cons_succ, List.set_cons_zero]
    clear hS2
    refine wpAnyH_done (by kernel_rfl) ?_ _
    go_upto_region 3 with fail
    refine wp_region_lit ?_
    refine wl_mv (.tmp 0) rfl rfl (ptr gd) rfl ?_
    simp only [Act.put, List.setIfInBounds_toArray, List.set_cons_succ, List.set_cons_zero]
    refine wl_fld f33_3 (.tmp 3) rfl rfl gop 0 rfl ?_
    simp only [Act.put, List.setIfInBounds_toArray, List.set_cons_succ, List.set_cons_zero]
    refine wl_ld o31 (.tmp 21) rfl rfl gop (0 + 3) rfl (.slice kp kn kc) (R2.out.2.1.at 3 _ rfl) ?_
    simp only [Act.put, List.setIfInBounds_toArray, List.set_cons_succ, List.set_cons_zero]
    refine lit38 rfl rfl ?_
    obtain ⟨g23, hg23⟩ : ∃ g23, g23 = w2.heap.size := ⟨_, rfl⟩
    obtain ⟨w5, hw5⟩ : ∃ w5, w5 = w2.alloc (.cells #[] 30) := ⟨_, rfl⟩
    have b5 : Below w2.heap.size w2 w5 := by rw [hw5]; exact below_alloc w2 _
    rw [← hg23, ← hw5]
    simp only [Act.put, List.setIfInBounds_toArray, List.set_cons_succ, List.set_cons_zero]
    refine wl rfl _ _ (run_lit41_1 (.tmp 23) rfl (.slice (some ⟨g23, 0, none⟩) 0 0) ⟨_, _, _, rfl⟩ rfl) ?_
    obtain ⟨gm, hgm⟩ : ∃ gm, gm = w5.heap.size := ⟨_, rfl⟩
    obtain ⟨w6, hw6⟩ : ∃ w6, w6 = w5.alloc (.cells #[.slice (some ⟨g23, 0, none⟩) 0 0] 38) := ⟨_, rfl⟩
    have b6 : Below w5.heap.size w5 w6 := by rw [hw6]; exact below_alloc w5 _
    have b56 : Below w2.heap.size w2 w6 := b5.trans (b6.mono b5.size)
    have hmay : Rob (Fr2 c2 t gd) (fun W => MayIn W (.slice (some ⟨gm, 0, none⟩) 1 1) [(.slice (some ⟨g23, 0, none⟩) 0 0, [], [])]) w6 := by
      rw [hw6, hgm]
      exact may_one (fun W _ _ => TxsC.none W _ _) ((R2.out.1).live.2.2 _ b5.size) (by have := (R2.out.1).row.lt; have := b5.size; omega)
    rw [← hgm, ← hw6]
    have HCL : Hid (Calls Tryd.prog 16 #[ptr gd, .slice kp kn kc, .slice (some ⟨gm, 0, none⟩) 1 1] w6 fun e w' => e = .returned (.bool true) ∧ PQ e w') := HOP.out w6 c2 _ _ _ [(.slice (some ⟨g23, 0, none⟩) 0 0, [], [])] [] R2.out.2.2.1 ((chT R2.out.2.2.2.1).trans (Ch.of_below b56)) ((R2.out.1).below b56) R2.out.2.2.2.2.1 (by have := R2.out.2.2.2.2.2.1; omega) (by omega) RA.out hmay (Or.inl rfl)
    clear hg23 hw5 b5 hgm hw6 b6 b56 hmay
    simp only [Act.put, List.setIfInBounds_toArray, List.set_cons_succ, List.set_cons_zero]
    refine wpList_callW eN16 [.tmp 20, .tmp 22, .tmp 24] _ rfl rfl [ptr gd, .slice kp kn kc, .slice (some ⟨gm, 0, none⟩) 1 1] rfl ?_
    refine HCL.out.mono ?_
    rintro e wz ⟨rfl, hQ⟩
    have HQ : Hid (PQ (.returned (.bool true)) wz) := hQ
    clear hQ HCL
    refine ⟨_, rfl, ?_⟩
    simp only [Act.put, List.setIfInBounds_toArray, List.set_cons_succ, List.set_cons_zero]
    refine wl_as (.tmp 25) rfl rfl (.bool true) rfl ?_
    simp only [Act.put, List.setIfInBounds_toArray, List.set_cons_succ, List.set_cons_zero]
    refine wpList_nil ?_
    go_wp2_with fail
    exact HQ.out
  · have RB : Hid (m2.on = false ∧ ∀ ks, (∀ p, (m2.boot ks).rd i p = m.rd i p) ∨ Blank (m2.boot ks) i n ∨ Jc (m2.boot ks) i n []) := ⟨q8, q9 HB.out.2.2.1⟩
    clear q7 q8 q9
    refine ⟨_, rfl, ?_⟩
    refine ⟨hS2, ?_⟩
    simp only [Act.put, List.setIfInBounds_toArray, List.set_cons_succ, List.set_cons_zero]
    refine takeH (i := 9) (some 5) rfl rfl (by kernel_rfl) (by kernel_rfl) (by kernel_rfl) (fun _ _ _ h => h) (gAssign rfl (.tmp 17) rfl (.int .i64 2) rfl) hS2 ?_
    simp only [Act.put, List.setIfInBounds_toArray, List.set_cons_succ, List.set_cons_zero]
    clear hS2
    refine wpAnyH_done (by kernel_rfl) ?_ _
    have HON : Hid (Calls Tryd.prog 33 #[ptr g] w2 fun e w' => e = .returned (.bool false) ∧ w2 = w') := (by have := R2.out.1.live.isOn; rw [RB.out.1] at this; exact this.mono fun e w' h => ⟨h.1, h.2.symm⟩)
    have kc0 := R2.out.1.row.at 0 _ rfl
    go_upto_region 6 with (go_at_call 33; refine HON.out.mono ?_; rintro e w3 ⟨rfl, hw23⟩; subst hw23)
    clear kc0 HON
    skip
    refine wp_region_held (S := fun X => Row X gd 40 (dkCells g i (ptr gw) nv (costs D) n dims) ∧ Row X gop 33 (opCells k N txv (.slice kp kn kc))) (by kernel_rfl) ?_
    show wpAnyH _ _ _ _ _ 7 (Array.replicate 7 false) _ _
    obtain ⟨X, hX⟩ : ∃ X : World, X = { w2 with drawn := w2.drawn + 1 } := ⟨_, rfl⟩
    rw [← hX]
    have hbX : Below w2.heap.size w2 X := by rw [hX]; exact ⟨rfl, rfl, rfl, Nat.le_refl _, fun _ _ => rfl⟩
    have RX : Hid (Below w2.heap.size w2 X ∧ Row X gop 33 (opCells k N txv (.slice kp kn kc)) ∧ Dk X c2 t gd g m2 ds ts i n (ptr gw) nv (costs D) dims) := ⟨hbX, R2.out.2.1.later hbX R2.out.2.1.lt, R2.out.1.below hbX⟩
    have hS0 : Row X gd 40 (dkCells g i (ptr gw) nv (costs D) n dims) ∧ Row X gop 33 (opCells k N txv (.slice kp kn kc)) := ⟨RX.out.2.2.row, RX.out.2.1⟩
    clear hbX
    clear hX
    refine takeH (i := 0) (some 35) rfl rfl (by kernel_rfl) (by kernel_rfl) (by kernel_rfl) (fun _ _ _ h => h) (gMove rfl (.tmp 0) rfl (ptr gd) rfl) hS0 ?_
    simp only [Act.put, List.setIfInBounds_toArray, List.set_cons_succ, List.set_cons_zero]
    refine takeH (i := 1) (some 36) rfl rfl (by kernel_rfl) (by kernel_rfl) (by kernel_rfl) (fun _ _ _ h => h) (nilOp rfl (.tmp 35) rfl ⟨gd, 0, none⟩ rfl) hS0 ?_
    simp only [Act.put, List.setIfInBounds_toArray, List.set_cons_succ, List.set_cons_zero]
    refine takeH (i := 2) (some 37) rfl rfl (by kernel_rfl) (by kernel_rfl) (by kernel_rfl) (fun _ _ _ h => h) (gField f40_0 rfl (.tmp 36) rfl gd 0 rfl) hS0 ?_
    simp only [Act.put, List.setIfInBounds_toArray, List.set_cons_succ, List.set_cons_zero]
    refine takeH (i := 3) (some 38) rfl rfl (by kernel_rfl) (by kernel_rfl) (by kernel_rfl) (fun _ _ _ h => h) (gLoad o25 rfl (.tmp 37) rfl gd (0 + 0) rfl (ptr g) (fun _ h => (h.1.at 0 _ rfl))) hS0 ?_
    simp only [Act.put, List.setIfInBounds_toArray, List.set_cons_succ, List.set_cons_zero]
    refine takeH (i := 4) (some 39) rfl rfl (by kernel_rfl) (by kernel_rfl) (by kernel_rfl) (fun _ _ _ h => h) (gField f33_3 rfl (.tmp 3) rfl gop 0 rfl) hS0 ?_
    simp only [Act.put, List.setIfInBounds_toArray, List.set_cons_succ, List.set_cons_zero]
    refine takeH (i := 5) (some 40) rfl rfl (by kernel_rfl) (by kernel_rfl) (by kernel_rfl) (fun _ _ _ h => h) (gLoad o31 rfl (.tmp 39) rfl gop (0 + 3) rfl (.slice kp kn kc) (fun _ h => (h.2.at 3 _ rfl))) hS0 ?_
    simp only [Act.put, List.setIfInBounds_toArray, List.set_cons_succ, List.set_cons_zero]
    clear hS0
    refine oneH (i := 6) (by kernel_rfl) ?_
    refine opCallA (some 41) rfl rfl rfl 15 _ (run_call eN15 [.tmp 38, .tmp 40] _ rfl [ptr g, .slice kp kn kc] rfl) ?_
    have hcc2 := R2.out.2.2.1
    have hch2 : Ch (fun b => (c b).1 = t ∨ b = gd) w X := (chT R2.out.2.2.2.1).trans (Ch.of_below RX.out.1)
    refine (RX.out.2.2.live.boot (by have := R2.out.2.2.2.2.2.1; have := HB.out.2.2.2.1; omega) _ ks ((HO.out.next hch2.size (Dk.later hcc2 hch2)).keep fun b hb hp => hp.1)).mono ?_
    rintro e w4 ⟨rfl, hnx⟩
    refine ⟨_, rfl, ?_⟩
    obtain ⟨c4, q1, q2, q3⟩ := hnx.nx
    have R4 : Hid (Dk w4 c4 t gd g (m2.boot ks) ds ts i n (ptr gw) nv (costs D) dims ∧ Row w4 gop 33 (opCells k N txv (.slice kp kn kc)) ∧ (∀ b, b < w.heap.size → c4 b = c b) ∧ Ch (fun b => (c b).1 = t ∨ b = gd) w w4 ∧ Rel m (m2.boot ks) i ∧ (c4 gop).1 ≠ t) := ⟨RX.out.2.2.nx q1 q2 q3 rfl, q3.row R2.out.2.2.2.2.2.2.1 RX.out.2.1, fun b hb => by rw [q1 b (Nat.lt_of_lt_of_le hb hch2.size)]; exact hcc2 b hb, hch2.trans' (chT q3) fun b hb e => by rw [← hcc2 b hb]; exact e, R2.out.2.2.2.2.1.trans (Rel.boot m2 i ks), by rw [q1 gop RX.out.2.1.lt]; exact R2.out.2.2.2.2.2.2.1⟩
    have RS : Hid ((m2.boot ks).steps ≤ m.steps + 5000 ∧ (m2.boot ks).on = true ∧ (m2.boot ks).fuse < 0 ∧ ((∀ p, (m2.boot ks).rd i p = m.rd i p) ∨ Blank (m2.boot ks) i n ∨ Jc (m2.boot ks) i n []) ∧ w.heap.size ≤ gop ∧ (m2.boot ks).wt i = []) := ⟨R2.out.2.2.2.2.2.1, rfl, (by decide : (-1 : Int) < 0), RB.out.2 ks, R2.out.2.2.2.2.2.2.2, rfl⟩
    have hS4 : Row w4 gd 40 (dkCells g i (ptr gw) nv (costs D) n dims) ∧ Row w4 gop 33 (opCells k N txv (.slice kp kn kc)) := ⟨R4.out.1.row, R4.out.2.1⟩
    clear q1 q2 q3 hnx hcc2 hch2 RX R2 RB
    obtain ⟨m4, hm4⟩ : ∃ m4, m4 = m2.boot ks := ⟨_, rfl⟩
    rw [← hm4] at R4 RS
    clear hm4
    refine ⟨hS4, ?_⟩
    simp only [Act.put, List.setIfInBounds_toArray, List.set_cons_succ, List.set_cons_zero]
    clear hS4
    refine wpAnyH_done (by kernel_rfl) ?_ _
    go_upto_region 7 with fail
    refine wp_region_lit ?_
    refine wl_mv (.tmp 0) rfl rfl (ptr gd) rfl ?_
    simp only [Act.put, List.setIfInBounds_toArray, List.set_cons_succ, List.set_cons_zero]
    refine wl_nil (.tmp 42) rfl rfl ⟨gd, 0, none⟩ rfl ?_
    simp only [Act.put, List.setIfInBounds_toArray, List.set_cons_succ, List.set_cons_zero]
    refine wl_fld f40_6 (.tmp 43) rfl rfl gd 0 rfl ?_
    simp only [Act.put, List.setIfInBounds_toArray, List.set_cons_succ, List.set_cons_zero]
    refine wl_ld o3' (.tmp 44) rfl rfl gd (0 + 6) rfl (.int .i64 (dims : Nat)) (R4.out.1.row.at 6 _ rfl) ?_
    simp only [Act.put, List.setIfInBounds_toArray, List.set_cons_succ, List.set_cons_zero]
    refine wl_addN (.tmp 45) (.const (.int .i64 1)) rfl rfl dims 1 (by have := R4.out.1.dim; omega) (by decide) rfl rfl ?_
    simp only [Act.put, List.setIfInBounds_toArray, List.set_cons_succ, List.set_cons_zero]
    refine wl_nil (.tmp 42) rfl rfl ⟨gd, 0, none⟩ rfl ?_
    simp only [Act.put, List.setIfInBounds_toArray, List.set_cons_succ, List.set_cons_zero]
    refine wl_fld f40_6 (.tmp 47) rfl rfl gd 0 rfl ?_
    simp only [Act.put, List.setIfInBounds_toArray, List.set_cons_succ, List.set_cons_zero]
    refine wl_put s3 (.tmp 48) (.tmp 46) rfl rfl rfl gd (0 + 6) 40 (dkCells g i (ptr gw) nv (costs D) n dims) rfl (.int .i64 ((dims + 1 : Nat) : Int)) rfl ⟨rfl, rfl⟩ R4.out.1.row (show 0 + 6 < 7 by decide) ?_
    refine wpList_nil ?_
    obtain ⟨w5, hw5⟩ : ∃ w5, w5 = w4.setCell ⟨gd, 0 + 6, none⟩ (.int .i64 ((dims + 1 : Nat) : Int)) := ⟨_, rfl⟩
    have hset := R4.out.1.set (0 + 6) (.int .i64 ((dims + 1 : Nat) : Int)) (wv' := ptr gw) (nv' := nv) (cost' := costs D) (dims' := dims + 1) rfl (by have := HB.out.2.2.2.2.1; omega)
    rw [← hw5] at hset
    rw [← hw5]
    have R5 : Hid (Dk w5 c4 t gd g m4 ds ts i n (ptr gw) nv (costs D) (dims + 1) ∧ Row w5 gop 33 (opCells k N txv (.slice kp kn kc)) ∧ (∀ b, b < w.heap.size → c4 b = c b) ∧ Ch (fun b => (c b).1 = t ∨ b = gd) w w5 ∧ Rel m m4 i ∧ (c4 gop).1 ≠ t) := ⟨hset.1, hset.2.row (by have := RS.out.2.2.2.2.1; have := HB.out.2.2.2.2.2; omega) R4.out.2.1, R4.out.2.2.1, R4.out.2.2.2.1.trans (chG hset.2), R4.out.2.2.2.2.1, R4.out.2.2.2.2.2⟩
    clear hset hw5 R4
    rcases Classical.em (Blank m4 i n) with hbl | hbl
    · have HBL : Hid (Blank m4 i n) := hbl
      clear hbl
      go_upto_region 8 with fail
      refine wp_region_held (S := fun X => Row X gd 40 (dkCells g i (ptr gw) nv (costs D) n (dims + 1)) ∧ Row X gop 33 (opCells k N txv (.slice kp kn kc))) (by kernel_rfl) ?_
      show wpAnyH _ _ _ _ _ 16 (Array.replicate 16 false) _ _
      obtain ⟨X, hX⟩ : ∃ X : World, X = { w5 with drawn := w5.drawn + 1 } := ⟨_, rfl⟩
      rw [← hX]
      have hbX : Below w5.heap.size w5 X := by rw [hX]; exact ⟨rfl, rfl, rfl, Nat.le_refl _, fun _ _ => rfl⟩
      have RX : Hid (Below w5.heap.size w5 X ∧ Row X gop 33 (opCells k N txv (.slice kp kn kc)) ∧ Dk X c4 t gd g m4 ds ts i n (ptr gw) nv (costs D) (dims + 1)) := ⟨hbX, R5.out.2.1.later hbX R5.out.2.1.lt, R5.out.1.below hbX⟩
      have hS0 : Row X gd 40 (dkCells g i (ptr gw) nv (costs D) n (dims + 1)) ∧ Row X gop 33 (opCells k N txv (.slice kp kn kc)) := ⟨RX.out.2.2.row, RX.out.2.1⟩
      clear hbX
      clear hX
      refine takeH (i := 0) (some 50) rfl rfl (by kernel_rfl) (by kernel_rfl) (by kernel_rfl) (fun _ _ _ h => h) (gMove rfl (.tmp 0) rfl (ptr gd) rfl) hS0 ?_
      simp only [Act.put, List.setIfInBounds_toArray, List.set_cons_succ, List.set_cons_zero]
      refine takeH (i := 1) (some 51) rfl rfl (by kernel_rfl) (by kernel_rfl) (by kernel_rfl) (fun _ _ _ h => h) (nilOp rfl (.tmp 50) rfl ⟨gd, 0, none⟩ rfl) hS0 ?_
      simp only [Act.put, List.setIfInBounds_toArray, List.set_cons_succ, List.set_cons_zero]
      refine takeH (i := 2) (some 52) rfl rfl (by kernel_rfl) (by kernel_rfl) (by kernel_rfl) (fun _ _ _ h => h) (gField f40_0 rfl (.tmp 51) rfl gd 0 rfl) hS0 ?_
      simp only [Act.put, List.setIfInBounds_toArray, List.set_cons_succ, List.set_cons_zero]
      refine takeH (i := 3) (some 53) rfl rfl (by kernel_rfl) (by kernel_rfl) (by kernel_rfl) (fun _ _ _ h => h) (gLoad o25 rfl (.tmp 52) rfl gd (0 + 0) rfl (ptr g) (fun _ h => (h.1.at 0 _ rfl))) hS0 ?_
      simp only [Act.put, List.setIfInBounds_toArray, List.set_cons_succ, List.set_cons_zero]
      refine takeH (i := 4) (some 54) rfl rfl (by kernel_rfl) (by kernel_rfl) (by kernel_rfl) (fun _ _ _ h => h) (gMove rfl (.tmp 0) rfl (ptr gd) rfl) hS0 ?_
      simp only [Act.put, List.setIfInBounds_toArray, List.set_cons_succ, List.set_cons_zero]
      refine takeH (i := 5) (some 55) rfl rfl (by kernel_rfl) (by kernel_rfl) (by kernel_rfl) (fun _ _ _ h => h) (nilOp rfl (.tmp 54) rfl ⟨gd, 0, none⟩ rfl) hS0 ?_
      simp only [Act.put, List.setIfInBounds_toArray, List.set_cons_succ, List.set_cons_zero]
      refine takeH (i := 6) (some 56) rfl rfl (by kernel_rfl) (by kernel_rfl) (by kernel_rfl) (fun _ _ _ h => h) (gField f40_1 rfl (.tmp 55) rfl gd 0 rfl) hS0 ?_
      simp only [Act.put, List.setIfInBounds_toArray, List.set_cons_succ, List.set_cons_zero]
      refine takeH (i := 7) (some 57) rfl rfl (by kernel_rfl) (by kernel_rfl) (by kernel_rfl) (fun _ _ _ h => h) (gLoad o3' rfl (.tmp 56) rfl gd (0 + 1) rfl (.int .i64 (i : Nat)) (fun _ h => (h.1.at 1 _ rfl))) hS0 ?_
      simp only [Act.put, List.setIfInBounds_toArray, List.set_cons_succ, List.set_cons_zero]
      clear hS0
      refine oneH (i := 8) (by kernel_rfl) ?_
      refine opCallA (some 58) rfl rfl rfl 20 _ (run_call eN20 [.tmp 53, .tmp 57] _ rfl [ptr g, .int .i64 (i : Nat)] rfl) ?_
      refine (openB_any RX.out.2.2.live (RX.out.2.2.diskOn HB.out.1 RS.out.2.1 (by have := RS.out.1; have := HB.out.2.2.2.1; omega)) RX.out.2.2.size RX.out.2.2.tab RX.out.2.2.tap HBL.out).mono ?_
      rintro e w6 ⟨rfl, c6, q1, q2, q3⟩
      have R6 : Hid (Dk w6 c6 t gd g m4 ds ts i n (ptr gw) nv (costs D) (dims + 1) ∧ Row w6 gop 33 (opCells k N txv (.slice kp kn kc)) ∧ (∀ b, b < w.heap.size → c6 b = c b) ∧ Ch (fun b => (c b).1 = t ∨ b = gd) w w6 ∧ Rel m m4 i ∧ (c6 gop).1 ≠ t) := ⟨RX.out.2.2.nx q1 q2 q3 rfl, q3.row R5.out.2.2.2.2.2 RX.out.2.1, fun b hb => by rw [q1 b (Nat.lt_of_lt_of_le hb (Nat.le_trans R5.out.2.2.2.1.size RX.out.1.size))]; exact R5.out.2.2.1 b hb, (R5.out.2.2.2.1.trans (Ch.of_below RX.out.1)).trans' (chT q3) fun b hb e => by rw [← R5.out.2.2.1 b hb]; exact e, R5.out.2.2.2.2.1, by rw [q1 gop RX.out.2.1.lt]; exact R5.out.2.2.2.2.2⟩
      have hS2 : Row w6 gd 40 (dkCells g i (ptr gw) nv (costs D) n (dims + 1)) ∧ Row w6 gop 33 (opCells k N txv (.slice kp kn kc)) := ⟨R6.out.1.row, R6.out.2.1⟩
      clear q1 q2 q3 RX R5
      refine ⟨_, rfl, ?_⟩
      refine ⟨hS2, ?_⟩
      simp only [Act.put, List.setIfInBounds_toArray, List.set_cons_succ, List.set_cons_zero]
      refine takeH (i := 9) (some 49) rfl rfl (by kernel_rfl) (by kernel_rfl) (by kernel_rfl) (fun _ _ _ h => h) (gMove rfl (.tmp 58) rfl (.tuple #[(.pointer none), (.slice none 0 0), (.int .i64 4)]) rfl) hS2 ?_
      simp only [Act.put, List.setIfInBounds_toArray, List.set_cons_succ, List.set_cons_zero]
      refine takeH (i := 10) (some 59) rfl rfl (by kernel_rfl) (by kernel_rfl) (by kernel_rfl) (fun _ _ _ h => h) (gRun rfl (.pointer none) fun _ _ => by simp [execOp, Act.eval, Instr.extract]) hS2 ?_
      simp only [Act.put, List.setIfInBounds_toArray, List.set_cons_succ, List.set_cons_zero]
      refine takeH (i := 11) (some 60) rfl rfl (by kernel_rfl) (by kernel_rfl) (by kernel_rfl) (fun _ _ _ h => h) (gRun rfl (.slice none 0 0) fun _ _ => by simp [execOp, Act.eval, Instr.extract]) hS2 ?_
      simp only [Act.put, List.setIfInBounds_toArray, List.set_cons_succ, List.set_cons_zero]
      refine takeH (i := 12) (some 61) rfl rfl (by kernel_rfl) (by kernel_rfl) (by kernel_rfl) (fun _ _ _ h => h) (gRun rfl (.int .i64 4) fun _ _ => by simp [execOp, Act.eval, Instr.extract]) hS2 ?_
      simp only [Act.put, List.setIfInBounds_toArray, List.set_cons_succ, List.set_cons_zero]
      refine takeH (i := 13) (some 6) rfl rfl (by kernel_rfl) (by kernel_rfl) (by kernel_rfl) (fun _ _ _ h => h) (gAssign rfl (.tmp 59) rfl (.pointer none) rfl) hS2 ?_
      simp only [Act.put, List.setIfInBounds_toArray, List.set_cons_succ, List.set_cons_zero]
      refine takeH (i := 14) (some 7) rfl rfl (by kernel_rfl) (by kernel_rfl) (by kernel_rfl) (fun _ _ _ h => h) (gAssign rfl (.tmp 60) rfl (.slice none 0 0) rfl) hS2 ?_
      simp only [Act.put, List.setIfInBounds_toArray, List.set_cons_succ, List.set_cons_zero]
      refine takeH (i := 15) (some 8) rfl rfl (by kernel_rfl) (by kernel_rfl) (by kernel_rfl) (fun _ _ _ h => h) (gAssign rfl (.tmp 61) rfl (.int .i64 4) rfl) hS2 ?_
      simp only [Act.put, List.setIfInBounds_toArray, List.set_cons_succ, List.set_cons_zero]
      clear hS2
      refine wpAnyH_done (by kernel_rfl) ?_ _
      go_upto_region 10 with (refine wl_sl sl38 (.tmp 69) rfl rfl none 0 0 rfl ?_)
      skip
      refine wp_region_held (S := fun X => Row X gd 40 (dkCells g i (ptr gw) nv (costs D) n (dims + 1)) ∧ Row X gop 33 (opCells k N txv (.slice kp kn kc))) (by kernel_rfl) ?_
      show wpAnyH _ _ _ _ _ 10 (Array.replicate 10 false) _ _
      obtain ⟨X, hX⟩ : ∃ X : World, X = { w6 with drawn := w6.drawn + 1 } := ⟨_, rfl⟩
      rw [← hX]
      have hbX : Below w6.heap.size w6 X := by rw [hX]; exact ⟨rfl, rfl, rfl, Nat.le_refl _, fun _ _ => rfl⟩
      have RX : Hid (Below w6.heap.size w6 X ∧ Row X gop 33 (opCells k N txv (.slice kp kn kc)) ∧ Dk X c6 t gd g m4 ds ts i n (ptr gw) nv (costs D) (dims + 1)) := ⟨hbX, R6.out.2.1.later hbX R6.out.2.1.lt, R6.out.1.below hbX⟩
      have hS0 : Row X gd 40 (dkCells g i (ptr gw) nv (costs D) n (dims + 1)) ∧ Row X gop 33 (opCells k N txv (.slice kp kn kc)) := ⟨RX.out.2.2.row, RX.out.2.1⟩
      clear hbX
      clear hX
      refine takeH (i := 0) (some 73) rfl rfl (by kernel_rfl) (by kernel_rfl) (by kernel_rfl) (fun _ _ _ h => h) (gMove rfl (.tmp 0) rfl (ptr gd) rfl) hS0 ?_
      simp only [Act.put, List.setIfInBounds_toArray, List.set_cons_succ, List.set_cons_zero]
      refine takeH (i := 1) (some 74) rfl rfl (by kernel_rfl) (by kernel_rfl) (by kernel_rfl) (fun _ _ _ h => h) (nilOp rfl (.tmp 73) rfl ⟨gd, 0, none⟩ rfl) hS0 ?_
      simp only [Act.put, List.setIfInBounds_toArray, List.set_cons_succ, List.set_cons_zero]
      refine takeH (i := 2) (some 75) rfl rfl (by kernel_rfl) (by kernel_rfl) (by kernel_rfl) (fun _ _ _ h => h) (gField f40_0 rfl (.tmp 74) rfl gd 0 rfl) hS0 ?_
      simp only [Act.put, List.setIfInBounds_toArray, List.set_cons_succ, List.set_cons_zero]
      refine takeH (i := 3) (some 76) rfl rfl (by kernel_rfl) (by kernel_rfl) (by kernel_rfl) (fun _ _ _ h => h) (gLoad o25 rfl (.tmp 75) rfl gd (0 + 0) rfl (ptr g) (fun _ h => (h.1.at 0 _ rfl))) hS0 ?_
      simp only [Act.put, List.setIfInBounds_toArray, List.set_cons_succ, List.set_cons_zero]
      refine takeH (i := 4) (some 77) rfl rfl (by kernel_rfl) (by kernel_rfl) (by kernel_rfl) (fun _ _ _ h => h) (gMove rfl (.tmp 0) rfl (ptr gd) rfl) hS0 ?_
      simp only [Act.put, List.setIfInBounds_toArray, List.set_cons_succ, List.set_cons_zero]
      refine takeH (i := 5) (some 78) rfl rfl (by kernel_rfl) (by kernel_rfl) (by kernel_rfl) (fun _ _ _ h => h) (nilOp rfl (.tmp 77) rfl ⟨gd, 0, none⟩ rfl) hS0 ?_
      simp only [Act.put, List.setIfInBounds_toArray, List.set_cons_succ, List.set_cons_zero]
      refine takeH (i := 6) (some 79) rfl rfl (by kernel_rfl) (by kernel_rfl) (by kernel_rfl) (fun _ _ _ h => h) (gField f40_1 rfl (.tmp 78) rfl gd 0 rfl) hS0 ?_
      simp only [Act.put, List.setIfInBounds_toArray, List.set_cons_succ, List.set_cons_zero]
      refine takeH (i := 7) (some 80) rfl rfl (by kernel_rfl) (by kernel_rfl) (by kernel_rfl) (fun _ _ _ h => h) (gLoad o3' rfl (.tmp 79) rfl gd (0 + 1) rfl (.int .i64 (i : Nat)) (fun _ h => (h.1.at 1 _ rfl))) hS0 ?_
      simp only [Act.put, List.setIfInBounds_toArray, List.set_cons_succ, List.set_cons_zero]
      clear hS0
      refine oneH (i := 8) (by kernel_rfl) ?_
      refine opCallA (some 81) rfl rfl rfl 19 _ (run_call eN19 [.tmp 76, .tmp 80] _ rfl [ptr g, .int .i64 (i : Nat)] rfl) ?_
      refine (formatJ_any RX.out.2.2.live RX.out.2.2.shape RX.out.2.2.lt RX.out.2.2.size HB.out.1 RS.out.2.1 RX.out.2.2.tab RX.out.2.2.tap (by have := RS.out.1; have := HB.out.2.2.2.1; omega)).mono ?_
      rintro e w7 ⟨c7, m7, q1, q2, q3, q4, q5, q6⟩
      have R7 : Hid (Dk w7 c7 t gd g m7 ds ts i n (ptr gw) nv (costs D) (dims + 1) ∧ Row w7 gop 33 (opCells k N txv (.slice kp kn kc)) ∧ (∀ b, b < w.heap.size → c7 b = c b) ∧ Ch (fun b => (c b).1 = t ∨ b = gd) w w7 ∧ Rel m m7 i ∧ m7.steps ≤ m.steps + 10000) := ⟨RX.out.2.2.nx q1 q2 q3 q4.sh, q3.row R6.out.2.2.2.2.2 RX.out.2.1, fun b hb => by rw [q1 b (Nat.lt_of_lt_of_le hb (Nat.le_trans R6.out.2.2.2.1.size RX.out.1.size))]; exact R6.out.2.2.1 b hb, (R6.out.2.2.2.1.trans (Ch.of_below RX.out.1)).trans' (chT q3) fun b hb e => by rw [← R6.out.2.2.1 b hb]; exact e, R6.out.2.2.2.2.1.trans q4, by have := RS.out.1; omega⟩
      obtain ⟨he7, hj7, _⟩ : e = .returned (.int .i64 0) ∧ Jc m7 i n [] ∧ (m4.fuse < 0 → m7.fuse < 0) := by
        rcases q6 with q6 | q6
        · exact q6
        · exact absurd q6.1 (by have := RS.out.2.2.1; omega)
      subst he7
      have RJ : Hid (Jc m7 i n []) := hj7
      have hS7 : Row w7 gd 40 (dkCells g i (ptr gw) nv (costs D) n (dims + 1)) ∧ Row w7 gop 33 (opCells k N txv (.slice kp kn kc)) := ⟨R7.out.1.row, R7.out.2.1⟩
      clear q1 q2 q3 q4 q5 q6 hj7 RX R6
      refine ⟨_, rfl, ?_⟩
      refine ⟨hS7, ?_⟩
      simp only [Act.put, List.setIfInBounds_toArray, List.set_cons_succ, List.set_cons_zero]
      refine takeH (i := 9) (some 5) rfl rfl (by kernel_rfl) (by kernel_rfl) (by kernel_rfl) (fun _ _ _ h => h) (gAssign rfl (.tmp 81) rfl (.int .i64 0) rfl) hS7 ?_
      simp only [Act.put, List.setIfInBounds_toArray, List.set_cons_succ, List.set_cons_zero]
      clear hS7
      refine wpAnyH_done (by kernel_rfl) ?_ _
      go_upto_region 11 with fail
      refine wp_region_lit ?_
      refine wl_mv (.tmp 5) rfl rfl (.int .i64 0) rfl ?_
      simp only [Act.put, List.setIfInBounds_toArray, List.set_cons_succ, List.set_cons_zero]
      refine wl_eqI (.tmp 82) (.const (.int .i64 0)) rfl rfl 0 0 rfl rfl true rfl ?_
      simp only [Act.put, List.setIfInBounds_toArray, List.set_cons_succ, List.set_cons_zero]
      refine wl_mv (.tmp 83) rfl rfl (.bool true) rfl ?_
      simp only [Act.put, List.setIfInBounds_toArray, List.set_cons_succ, List.set_cons_zero]
      refine wl_mv (.tmp 0) rfl rfl (ptr gd) rfl ?_
      simp only [Act.put, List.setIfInBounds_toArray, List.set_cons_succ, List.set_cons_zero]
      refine wl_fld f33_3 (.tmp 3) rfl rfl gop 0 rfl ?_
      simp only [Act.put, List.setIfInBounds_toArray, List.set_cons_succ, List.set_cons_zero]
      refine wl_ld o31 (.tmp 86) rfl rfl gop (0 + 3) rfl (.slice kp kn kc) (R7.out.2.1.at 3 _ rfl) ?_
      simp only [Act.put, List.setIfInBounds_toArray, List.set_cons_succ, List.set_cons_zero]
      refine lit38 rfl rfl ?_
      obtain ⟨g23, hg23⟩ : ∃ g23, g23 = w7.heap.size := ⟨_, rfl⟩
      obtain ⟨w5, hw5⟩ : ∃ w5, w5 = w7.alloc (.cells #[] 30) := ⟨_, rfl⟩
      have b5 : Below w7.heap.size w7 w5 := by rw [hw5]; exact below_alloc w7 _
      rw [← hg23, ← hw5]
      simp only [Act.put, List.setIfInBounds_toArray, List.set_cons_succ, List.set_cons_zero]
      refine wl rfl _ _ (run_lit41_1 (.tmp 88) rfl (.slice (some ⟨g23, 0, none⟩) 0 0) ⟨_, _, _, rfl⟩ rfl) ?_
      obtain ⟨gm, hgm⟩ : ∃ gm, gm = w5.heap.size := ⟨_, rfl⟩
      obtain ⟨w6, hw6⟩ : ∃ w6, w6 = w5.alloc (.cells #[.slice (some ⟨g23, 0, none⟩) 0 0] 38) := ⟨_, rfl⟩
      have b6 : Below w5.heap.size w5 w6 := by rw [hw6]; exact below_alloc w5 _
      have b56 : Below w7.heap.size w7 w6 := b5.trans (b6.mono b5.size)
      have hmay : Rob (Fr2 c7 t gd) (fun W => MayIn W (.slice (some ⟨gm, 0, none⟩) 1 1) [(.slice (some ⟨g23, 0, none⟩) 0 0, [], [])]) w6 := by
        rw [hw6, hgm]
        exact may_one (fun W _ _ => TxsC.none W _ _) ((R7.out.1).live.2.2 _ b5.size) (by have := (R7.out.1).row.lt; have := b5.size; omega)
      rw [← hgm, ← hw6]
      have HCL : Hid (Calls Tryd.prog 16 #[ptr gd, .slice kp kn kc, .slice (some ⟨gm, 0, none⟩) 1 1] w6 fun e w' => e = .returned (.bool true) ∧ PQ e w') := HOP.out w6 c7 _ _ _ [(.slice (some ⟨g23, 0, none⟩) 0 0, [], [])] [] R7.out.2.2.1 (R7.out.2.2.2.1.trans (Ch.of_below b56)) ((R7.out.1).below b56) R7.out.2.2.2.2.1 (by have := R7.out.2.2.2.2.2; omega) (by omega) RJ.out hmay (Or.inl rfl)
      clear hg23 hw5 b5 hgm hw6 b6 b56 hmay
      simp only [Act.put, List.setIfInBounds_toArray, List.set_cons_succ, List.set_cons_zero]
      refine wpList_callW eN16 [.tmp 85, .tmp 87, .tmp 89] _ rfl rfl [ptr gd, .slice kp kn kc, .slice (some ⟨gm, 0, none⟩) 1 1] rfl ?_
      refine HCL.out.mono ?_
      rintro e wz ⟨rfl, hQ⟩
      have HQ : Hid (PQ (.returned (.bool true)) wz) := hQ
      clear hQ HCL
      refine ⟨_, rfl, ?_⟩
      simp only [Act.put, List.setIfInBounds_toArray, List.set_cons_succ, List.set_cons_zero]
      refine wl rfl (.bool true) _ (run_pickZ (.tmp 84) (.tmp 90) (.const (.bool false)) rfl true (.bool true) rfl rfl) ?_
      simp only [Act.put, List.setIfInBounds_toArray, List.set_cons_succ, List.set_cons_zero]
      refine wl_as (.tmp 91) rfl rfl (.bool true) rfl ?_
      simp only [Act.put, List.setIfInBounds_toArray, List.set_cons_succ, List.set_cons_zero]
      refine wpList_nil ?_
      go_wp2_with fail
      exact HQ.out
    · obtain ⟨D6, hD6⟩ : ∃ D6, Jc m4 i n D6 ∧ (D6 = D ∨ (D6 = [] ∧ D.length ≠ 0)) := by
        rcases RS.out.2.2.2.1 with e | e | e
        · exact ⟨D, Jd.back HI.out.jo.jc ⟨R5.out.1.live.2.1, RS.out.2.1, by have := R5.out.1.shape.n; have := R5.out.1.lt; omega, (R5.out.1.shape.disk i R5.out.1.lt).1⟩ (RS.out.2.2.2.2.2) R5.out.2.2.2.2.1.sh R5.out.2.2.2.2.1.steps e, Or.inl rfl⟩
        · exact absurd e hbl
        · by_cases e0 : D = []
          · exact ⟨[], e, Or.inl e0.symm⟩
          · exact ⟨[], e, Or.inr ⟨rfl, fun h => e0 (List.length_eq_zero_iff.1 h)⟩⟩
      have HJ : Hid (Jc m4 i n D6 ∧ (D6 = D ∨ (D6 = [] ∧ D.length ≠ 0))) := hD6
      clear hbl hD6
      go_upto_region 8 with fail
      refine wp_region_held (S := fun X => Row X gd 40 (dkCells g i (ptr gw) nv (costs D) n (dims + 1)) ∧ Row X gop 33 (opCells k N txv (.slice kp kn kc))) (by kernel_rfl) ?_
      show wpAnyH _ _ _ _ _ 16 (Array.replicate 16 false) _ _
      obtain ⟨X, hX⟩ : ∃ X : World, X = { w5 with drawn := w5.drawn + 1 } := ⟨_, rfl⟩
      rw [← hX]
      have hbX : Below w5.heap.size w5 X := by rw [hX]; exact ⟨rfl, rfl, rfl, Nat.le_refl _, fun _ _ => rfl⟩
      have RX : Hid (Below w5.heap.size w5 X ∧ Row X gop 33 (opCells k N txv (.slice kp kn kc)) ∧ Dk X c4 t gd g m4 ds ts i n (ptr gw) nv (costs D) (dims + 1)) := ⟨hbX, R5.out.2.1.later hbX R5.out.2.1.lt, R5.out.1.below hbX⟩
      have hS0 : Row X gd 40 (dkCells g i (ptr gw) nv (costs D) n (dims + 1)) ∧ Row X gop 33 (opCells k N txv (.slice kp kn kc)) := ⟨RX.out.2.2.row, RX.out.2.1⟩
      clear hbX
      clear hX
      refine takeH (i := 0) (some 50) rfl rfl (by kernel_rfl) (by kernel_rfl) (by kernel_rfl) (fun _ _ _ h => h) (gMove rfl (.tmp 0) rfl (ptr gd) rfl) hS0 ?_
      simp only [Act.put, List.setIfInBounds_toArray, List.set_cons_succ, List.set_cons_zero]
      refine takeH (i := 1) (some 51) rfl rfl (by kernel_rfl) (by kernel_rfl) (by kernel_rfl) (fun _ _ _ h => h) (nilOp rfl (.tmp 50) rfl ⟨gd, 0, none⟩ rfl) hS0 ?_
      simp only [Act.put, List.setIfInBounds_toArray, List.set_cons_succ, List.set_cons_zero]
      refine takeH (i := 2) (some 52) rfl rfl (by kernel_rfl) (by kernel_rfl) (by kernel_rfl) (fun _ _ _ h => h) (gField f40_0 rfl (.tmp 51) rfl gd 0 rfl) hS0 ?_
      simp only [Act.put, List.setIfInBounds_toArray, List.set_cons_succ, List.set_cons_zero]
      refine takeH (i := 3) (some 53) rfl rfl (by kernel_rfl) (by kernel_rfl) (by kernel_rfl) (fun _ _ _ h => h) (gLoad o25 rfl (.tmp 52) rfl gd (0 + 0) rfl (ptr g) (fun _ h => (h.1.at 0 _ rfl))) hS0 ?_
      simp only [Act.put, List.setIfInBounds_toArray, List.set_cons_succ, List.set_cons_zero]
      refine takeH (i := 4) (some 54) rfl rfl (by kernel_rfl) (by kernel_rfl) (by kernel_rfl) (fun _ _ _ h => h) (gMove rfl (.tmp 0) rfl (ptr gd) rfl) hS0 ?_
      simp only [Act.put, List.setIfInBounds_toArray, List.set_cons_succ, List.set_cons_zero]
      refine takeH (i := 5) (some 55) rfl rfl (by kernel_rfl) (by kernel_rfl) (by kernel_rfl) (fun _ _ _ h => h) (nilOp rfl (.tmp 54) rfl ⟨gd, 0, none⟩ rfl) hS0 ?_
      simp only [Act.put, List.setIfInBounds_toArray, List.set_cons_succ, List.set_cons_zero]
      refine takeH (i := 6) (some 56) rfl rfl (by kernel_rfl) (by kernel_rfl) (by kernel_rfl) (fun _ _ _ h => h) (gField f40_1 rfl (.tmp 55) rfl gd 0 rfl) hS0 ?_
      simp only [Act.put, List.setIfInBounds_toArray, List.set_cons_succ, List.set_cons_zero]
      refine takeH (i := 7) (some 57) rfl rfl (by kernel_rfl) (by kernel_rfl) (by kernel_rfl) (fun _ _ _ h => h) (gLoad o3' rfl (.tmp 56) rfl gd (0 + 1) rfl (.int .i64 (i : Nat)) (fun _ h => (h.1.at 1 _ rfl))) hS0 ?_
      simp only [Act.put, List.setIfInBounds_toArray, List.set_cons_succ, List.set_cons_zero]
      clear hS0
      refine oneH (i := 8) (by kernel_rfl) ?_
      refine opCallA (some 58) rfl rfl rfl 20 _ (run_call eN20 [.tmp 53, .tmp 57] _ rfl [ptr g, .int .i64 (i : Nat)] rfl) ?_
      refine (openJ_any RX.out.2.2.live (RX.out.2.2.diskOn HB.out.1 RS.out.2.1 (by have := RS.out.1; have := HB.out.2.2.2.1; omega)) RX.out.2.2.size RX.out.2.2.tab RX.out.2.2.tap HJ.out.1).mono ?_
      rintro e w6 ⟨c6, m6, q1, q2, q3, q4, q5, q6⟩
      have R6 : Hid (Dk w6 c6 t gd g m6 ds ts i n (ptr gw) nv (costs D) (dims + 1) ∧ Row w6 gop 33 (opCells k N txv (.slice kp kn kc)) ∧ (∀ b, b < w.heap.size → c6 b = c b) ∧ Ch (fun b => (c b).1 = t ∨ b = gd) w w6 ∧ Rel m m6 i ∧ (c6 gop).1 ≠ t) := ⟨RX.out.2.2.nx q1 q2 q3 q4.sh, q3.row R5.out.2.2.2.2.2 RX.out.2.1, fun b hb => by rw [q1 b (Nat.lt_of_lt_of_le hb (Nat.le_trans R5.out.2.2.2.1.size RX.out.1.size))]; exact R5.out.2.2.1 b hb, (R5.out.2.2.2.1.trans (Ch.of_below RX.out.1)).trans' (chT q3) fun b hb e => by rw [← R5.out.2.2.1 b hb]; exact e, R5.out.2.2.2.2.1.trans q4, by rw [q1 gop RX.out.2.1.lt]; exact R5.out.2.2.2.2.2⟩
      have hS2 : Row w6 gd 40 (dkCells g i (ptr gw) nv (costs D) n (dims + 1)) ∧ Row w6 gop 33 (opCells k N txv (.slice kp kn kc)) := ⟨R6.out.1.row, R6.out.2.1⟩
      obtain ⟨gw6, tv, S6, E6, he6, q7, q8, q9, q10, us6, q11⟩ : ∃ gw tv S E, e = .returned (.tuple #[ptr gw, tv, .int .i64 0]) ∧ X.heap.size ≤ gw ∧ WalAt w6 c6 t gw g (i : Int) S E ∧ Jo m6 i n S E D6 ∧ (m4.fuse < 0 → m6.fuse < 0) ∧ ∃ us, Rob (fun b => X.heap.size ≤ b ∧ b < gw ∧ (c6 b).1 ≠ t) (fun W => TxsC W tv D6 us) w6 := by
        rcases q6 with q6 | q6
        · exact q6
        · exact absurd q6.1 (by have := RS.out.2.2.1; omega)
      subst he6
      have hgX : gd < X.heap.size := RX.out.2.2.row.lt
      have RT : Hid (Rob (Fr2 c6 t gd) (fun W => TxsC W tv D6 us6) w6 ∧ Jc m6 i n D6 ∧ m6.steps ≤ m.steps + 5002 ∧ (∃ p cap, tv = .slice p D6.length cap)) := ⟨q11.next (Nat.le_refl _) fun b hb hp => ⟨rfl, hp.2.2, by omega⟩, q9.jc, by have := RS.out.1; omega, by obtain ⟨p, cap, e, _⟩ := q11.now; exact ⟨p, cap, e⟩⟩
      clear q1 q2 q3 q4 q5 q6 q7 q8 q9 q10 q11 hgX RX R5
      refine ⟨_, rfl, ?_⟩
      refine ⟨hS2, ?_⟩
      simp only [Act.put, List.setIfInBounds_toArray, List.set_cons_succ, List.set_cons_zero]
      refine takeH (i := 9) (some 49) rfl rfl (by kernel_rfl) (by kernel_rfl) (by kernel_rfl) (fun _ _ _ h => h) (gMove rfl (.tmp 58) rfl (.tuple #[(ptr gw6), tv, (.int .i64 0)]) rfl) hS2 ?_
      simp only [Act.put, List.setIfInBounds_toArray, List.set_cons_succ, List.set_cons_zero]
      refine takeH (i := 10) (some 59) rfl rfl (by kernel_rfl) (by kernel_rfl) (by kernel_rfl) (fun _ _ _ h => h) (gRun rfl (ptr gw6) fun _ _ => by simp [execOp, Act.eval, Instr.extract]) hS2 ?_
      simp only [Act.put, List.setIfInBounds_toArray, List.set_cons_succ, List.set_cons_zero]
      refine takeH (i := 11) (some 60) rfl rfl (by kernel_rfl) (by kernel_rfl) (by kernel_rfl) (fun _ _ _ h => h) (gRun rfl tv fun _ _ => by simp [execOp, Act.eval, Instr.extract]) hS2 ?_
      simp only [Act.put, List.setIfInBounds_toArray, List.set_cons_succ, List.set_cons_zero]
      refine takeH (i := 12) (some 61) rfl rfl (by kernel_rfl) (by kernel_rfl) (by kernel_rfl) (fun _ _ _ h => h) (gRun rfl (.int .i64 0) fun _ _ => by simp [execOp, Act.eval, Instr.extract]) hS2 ?_
      simp only [Act.put, List.setIfInBounds_toArray, List.set_cons_succ, List.set_cons_zero]
      refine takeH (i := 13) (some 6) rfl rfl (by kernel_rfl) (by kernel_rfl) (by kernel_rfl) (fun _ _ _ h => h) (gAssign rfl (.tmp 59) rfl (ptr gw6) rfl) hS2 ?_
      simp only [Act.put, List.setIfInBounds_toArray, List.set_cons_succ, List.set_cons_zero]
      refine takeH (i := 14) (some 7) rfl rfl (by kernel_rfl) (by kernel_rfl) (by kernel_rfl) (fun _ _ _ h => h) (gAssign rfl (.tmp 60) rfl tv rfl) hS2 ?_
      simp only [Act.put, List.setIfInBounds_toArray, List.set_cons_succ, List.set_cons_zero]
      refine takeH (i := 15) (some 8) rfl rfl (by kernel_rfl) (by kernel_rfl) (by kernel_rfl) (fun _ _ _ h => h) (gAssign rfl (.tmp 61) rfl (.int .i64 0) rfl) hS2 ?_
      simp only [Act.put, List.setIfInBounds_toArray, List.set_cons_succ, List.set_cons_zero]
      clear hS2
      refine wpAnyH_done (by kernel_rfl) ?_ _
      obtain ⟨pt, ct, htv⟩ := RT.out.2.2.2
      obtain ⟨n6, hn6⟩ : ∃ n6, n6 = D6.length := ⟨_, rfl⟩
      rw [← hn6] at htv
      subst htv
      have HN6 : Hid (n6 = D6.length) := hn6
      have hn6b : n6 ≤ 10000 := by rw [hn6]; have := RT.out.2.1.small.1; omega
      clear hn6
      have hnw : Rob (Fr2 c6 t gd) (fun W => TxsC W nv D us) w6 := HNOW.out.next R6.out.2.2.2.1.size (Dk.later R6.out.2.2.1 R6.out.2.2.2.1)
      have kc3 := R6.out.1.row.at 3 _ rfl
      rcases HJ.out.2 with hDD | hDD
      · have HSY : Hid (Calls Tryd.prog 22 #[.slice pt n6 ct, nv] w6 fun e w' => e = .returned (.bool true) ∧ Below w6.heap.size w6 w') := (same_any RT.out.1.now.ins (by rw [hDD]; exact hnw.now.ins))
        clear hnw hDD
        go_upto_region 14 with (first | (refine wl_sl sl38 (.tmp 69) rfl rfl pt n6 ct rfl ?_) | (refine wl_sl sl38 (.tmp 107) rfl rfl pt n6 ct rfl ?_) | (go_at_call 22; refine HSY.out.mono ?_; rintro e w8 ⟨rfl, b8⟩; have R8 : Hid (Dk w8 c6 t gd g m6 ds ts i n (ptr gw) nv (costs D) (dims + 1) ∧ Row w8 gop 33 (opCells k N txv (.slice kp kn kc)) ∧ Ch (fun b => (c b).1 = t ∨ b = gd) w w8 ∧ Rob (Fr2 c6 t gd) (fun W => TxsC W (.slice pt n6 ct) D6 us6) w8 ∧ True) := ⟨R6.out.1.below b8, R6.out.2.1.later b8 R6.out.2.1.lt, R6.out.2.2.2.1.trans (Ch.of_below b8), RT.out.1.below b8, trivial⟩; clear b8))
        clear kc3 HSY
        refine wp_region_lit ?_
        refine wl_mv (.tmp 0) rfl rfl (ptr gd) rfl ?_
        simp only [Act.put, List.setIfInBounds_toArray, List.set_cons_succ, List.set_cons_zero]
        refine wl_fld f33_3 (.tmp 3) rfl rfl gop 0 rfl ?_
        simp only [Act.put, List.setIfInBounds_toArray, List.set_cons_succ, List.set_cons_zero]
        refine wl_ld o31 (.tmp 113) rfl rfl gop (0 + 3) rfl (.slice kp kn kc) (R8.out.2.1.at 3 _ rfl) ?_
        simp only [Act.put, List.setIfInBounds_toArray, List.set_cons_succ, List.set_cons_zero]
        refine wl_mv (.tmp 7) rfl rfl (.slice pt n6 ct) rfl ?_
        simp only [Act.put, List.setIfInBounds_toArray, List.set_cons_succ, List.set_cons_zero]
        refine wl rfl _ _ (run_lit41_1 (.tmp 115) rfl (.slice pt n6 ct) ⟨_, _, _, rfl⟩ rfl) ?_
        obtain ⟨gm, hgm⟩ : ∃ gm, gm = w8.heap.size := ⟨_, rfl⟩
        obtain ⟨w9, hw9⟩ : ∃ w9, w9 = w8.alloc (.cells #[.slice pt n6 ct] 38) := ⟨_, rfl⟩
        have b9 : Below w8.heap.size w8 w9 := by rw [hw9]; exact below_alloc w8 _
        have hmay : Rob (Fr2 c6 t gd) (fun W => MayIn W (.slice (some ⟨gm, 0, none⟩) 1 1) [(.slice pt n6 ct, D6, us6)]) w9 := by
          rw [hw9, hgm]
          exact may_one R8.out.2.2.2.1 (R8.out.1.live.2.2 _ (Nat.le_refl _)) R8.out.1.row.lt
        rw [← hgm, ← hw9]
        have HCL : Hid (Calls Tryd.prog 16 #[ptr gd, .slice kp kn kc, .slice (some ⟨gm, 0, none⟩) 1 1] w9 fun e w' => e = .returned (.bool true) ∧ PQ e w') := HOP.out w9 c6 _ _ _ [(.slice pt n6 ct, D6, us6)] D6 R6.out.2.2.1 (R8.out.2.2.1.trans (Ch.of_below b9)) (R8.out.1.below b9) R6.out.2.2.2.2.1 (by have := RT.out.2.2.1; omega) (by omega) RT.out.2.1 hmay (Or.inl rfl)
        clear hgm hw9 b9 hmay
        simp only [Act.put, List.setIfInBounds_toArray, List.set_cons_succ, List.set_cons_zero]
        refine wpList_callW eN16 [.tmp 112, .tmp 114, .tmp 116] _ rfl rfl [ptr gd, .slice kp kn kc, .slice (some ⟨gm, 0, none⟩) 1 1] rfl ?_
        refine HCL.out.mono ?_
        rintro e wz ⟨rfl, hQ⟩
        have HQ : Hid (PQ (.returned (.bool true)) wz) := hQ
        clear hQ HCL
        refine ⟨_, rfl, ?_⟩
        simp only [Act.put, List.setIfInBounds_toArray, List.set_cons_succ, List.set_cons_zero]
        refine wl_as (.tmp 117) rfl rfl (.bool true) rfl ?_
        simp only [Act.put, List.setIfInBounds_toArray, List.set_cons_succ, List.set_cons_zero]
        refine wpList_nil ?_
        go_wp2_with fail
        exact HQ.out
      · obtain rfl : n6 = 0 := by rw [HN6.out, hDD.1]; rfl
        have HSY : Hid (Calls Tryd.prog 22 #[.slice pt 0 ct, nv] w6 fun e w' => e = .returned (.bool false) ∧ Below w6.heap.size w6 w') := (sameNo_any RT.out.1.now.ins hnw.now.ins (by rw [hDD.1]; exact hDD.2))
        clear hnw hDD
        go_upto_region 14 with (first | (refine wl_sl sl38 (.tmp 69) rfl rfl pt 0 ct rfl ?_) | (refine wl_sl sl38 (.tmp 107) rfl rfl pt 0 ct rfl ?_) | (go_at_call 22; refine HSY.out.mono ?_; rintro e w8 ⟨rfl, b8⟩; have R8 : Hid (Dk w8 c6 t gd g m6 ds ts i n (ptr gw) nv (costs D) (dims + 1) ∧ Row w8 gop 33 (opCells k N txv (.slice kp kn kc)) ∧ Ch (fun b => (c b).1 = t ∨ b = gd) w w8 ∧ Rob (Fr2 c6 t gd) (fun W => TxsC W (.slice pt 0 ct) D6 us6) w8 ∧ True) := ⟨R6.out.1.below b8, R6.out.2.1.later b8 R6.out.2.1.lt, R6.out.2.2.2.1.trans (Ch.of_below b8), RT.out.1.below b8, trivial⟩; clear b8))
        clear kc3 HSY
        refine wp_region_lit ?_
        refine wl_mv (.tmp 0) rfl rfl (ptr gd) rfl ?_
        simp only [Act.put, List.setIfInBounds_toArray, List.set_cons_succ, List.set_cons_zero]
        refine wl_fld f33_3 (.tmp 3) rfl rfl gop 0 rfl ?_
        simp only [Act.put, List.setIfInBounds_toArray, List.set_cons_succ, List.set_cons_zero]
        refine wl_ld o31 (.tmp 113) rfl rfl gop (0 + 3) rfl (.slice kp kn kc) (R8.out.2.1.at 3 _ rfl) ?_
        simp only [Act.put, List.setIfInBounds_toArray, List.set_cons_succ, List.set_cons_zero]
        refine wl_mv (.tmp 7) rfl rfl (.slice pt 0 ct) rfl ?_
        simp only [Act.put, List.setIfInBounds_toArray, List.set_cons_succ, List.set_cons_zero]
        refine wl rfl _ _ (run_lit41_1 (.tmp 115) rfl (.slice pt 0 ct) ⟨_, _, _, rfl⟩ rfl) ?_
        obtain ⟨gm, hgm⟩ : ∃ gm, gm = w8.heap.size := ⟨_, rfl⟩
        obtain ⟨w9, hw9⟩ : ∃ w9, w9 = w8.alloc (.cells #[.slice pt 0 ct] 38) := ⟨_, rfl⟩
        have b9 : Below w8.heap.size w8 w9 := by rw [hw9]; exact below_alloc w8 _
        have hmay : Rob (Fr2 c6 t gd) (fun W => MayIn W (.slice (some ⟨gm, 0, none⟩) 1 1) [(.slice pt 0 ct, D6, us6)]) w9 := by
          rw [hw9, hgm]
          exact may_one R8.out.2.2.2.1 (R8.out.1.live.2.2 _ (Nat.le_refl _)) R8.out.1.row.lt
        rw [← hgm, ← hw9]
        have HCL : Hid (Calls Tryd.prog 16 #[ptr gd, .slice kp kn kc, .slice (some ⟨gm, 0, none⟩) 1 1] w9 fun e w' => e = .returned (.bool true) ∧ PQ e w') := HOP.out w9 c6 _ _ _ [(.slice pt 0 ct, D6, us6)] D6 R6.out.2.2.1 (R8.out.2.2.1.trans (Ch.of_below b9)) (R8.out.1.below b9) R6.out.2.2.2.2.1 (by have := RT.out.2.2.1; omega) (by omega) RT.out.2.1 hmay (Or.inl rfl)
        clear hgm hw9 b9 hmay
        simp only [Act.put, List.setIfInBounds_toArray, List.set_cons_succ, List.set_cons_zero]
        refine wpList_callW eN16 [.tmp 112, .tmp 114, .tmp 116] _ rfl rfl [ptr gd, .slice kp kn kc, .slice (some ⟨gm, 0, none⟩) 1 1] rfl ?_
        refine HCL.out.mono ?_
        rintro e wz ⟨rfl, hQ⟩
        have HQ : Hid (PQ (.returned (.bool true)) wz) := hQ
        clear hQ HCL
        refine ⟨_, rfl, ?_⟩
        simp only [Act.put, List.setIfInBounds_toArray, List.set_cons_succ, List.set_cons_zero]
        refine wl_as (.tmp 117) rfl rfl (.bool true) rfl ?_
        simp only [Act.put, List.setIfInBounds_toArray, List.set_cons_succ, List.set_cons_zero]
        refine wpList_nil ?_
        go_wp2_with fail
        exact HQ.out
end Go.Proofs.YtgcecejamcnkiaaDoor

/- Layer 8: the desk does a thing. -/
import Derived.Test.YtgcecejamcnkiaaDoorZ37
import Derived.Test.YtgcecejamcnkiaaDoorZ38
namespace Go.Proofs.YtgcecejamcnkiaaDoor
open Go.RowKit Go.Maps

theorem Desk.below {w w1 : World} {c : Nat → Colour} {t gd gw g : Nat} {m : Pl} {ds ts : List Nat} {i n S E : Nat} {D : List (List (List Nat))} {nv : Value} {dims : Nat} (h : Desk w c t gd gw g m ds ts i n S E D nv dims) (hb : Below w.heap.size w w1) : Desk w1 c t gd gw g m ds ts i n S E D nv dims := by
  obtain ⟨us, hn⟩ := h.now
  exact ⟨h.dk.below hb, h.wal.below hb, h.ne, h.jo, us, hn.below hb⟩
theorem OpR.below {w w1 : World} {P : Nat → Prop} {k N : Int} {txv kv : Value} {L : List (List Nat)} {ks : List Int} (h : OpR w P k N txv kv L ks) (hb : Below w.heap.size w w1) : OpR w1 P k N txv kv L ks := ⟨h.k, h.n, h.tx.below hb, h.keep.below hb, h.size⟩
theorem Done.after {w w1 : World} {c : Nat → Colour} {t gd gw g : Nat} {m : Pl} {ds ts : List Nat} {i n dims : Nat} {w' : World} {c' : Nat → Colour} {gw' : Nat} {m' : Pl} {S' E' : Nat} {D' : List (List (List Nat))} {nv' : Value} {dims' : Nat} (h : Done w1 c t gd gw g m ds ts i n dims w' c' gw' m' S' E' D' nv' dims') (hb : Below w.heap.size w w1) : Done w c t gd gw g m ds ts i n dims w' c' gw' m' S' E' D' nv' dims' :=
  ⟨h.desk, fun b hlt => h.cc b (Nat.lt_of_lt_of_le hlt hb.size), (Ch.of_below hb).trans h.ch, h.new.imp id (fun e => Nat.le_trans hb.size e), h.rel, h.le, h.dim⟩
theorem trunc_cases {m : Pl} {i n S E : Nat} {D : List (List (List Nat))} (h : Jo m i n S E D) (hst : m.steps < 1099511627775) :
    (∃ M, m.trunc (i : Int) S = (0, M) ∧ Jo M i n (S + 1) 0 [] ∧ Rel m M i ∧ M.steps ≤ m.steps + 2) ∨
    (∃ M, m.trunc (i : Int) S = (2, M) ∧ M.on = false ∧ Rel m M i ∧ M.steps ≤ m.steps + 2 ∧ ∀ ks, Jc (M.boot ks) i n D ∨ Jc (M.boot ks) i n []) := by
  obtain ⟨F, rows, hJ, hD, hE⟩ := h
  have hS := hJ.lt (by omega)
  rcases hJ.truncC hS with ⟨k1, k2, k3⟩ | ⟨k1, k2, k3⟩
  · left
    have := k2.le
    simp only [List.length_singleton] at this
    exact ⟨_, Prod.ext k1 rfl, ⟨S + 1, [], k3, rfl, rfl⟩, k2.oth.rel, this⟩
  · right
    have := k2.le
    simp only [List.length_singleton] at this
    refine ⟨_, Prod.ext k1 rfl, k2.off, k2.oth.rel, this, fun ks => ?_⟩
    rcases k3 ks with k | k
    · exact Or.inl ⟨_, _, _, _, k, hD⟩
    · exact Or.inr ⟨_, _, _, _, k, rfl⟩
theorem agg33 : AggT 33 4 := ⟨Or.inl ⟨_, Tryd.underlying33⟩, by kernel_rfl⟩
set_option maxHeartbeats 16000000 in
set_option maxRecDepth 100000 in
theorem do_any {w : World} {c : Nat → Colour} {t gd gw g : Nat} {m : Pl} {ds ts : List Nat} {i n S E : Nat} {D : List (List (List Nat))} {nv : Value} {dims : Nat} (h : Desk w c t gd gw g m ds ts i n S E D nv dims) (hst : m.steps + 50000 < 1099511627775) (hdm : dims ≤ 999999900) {k N : Int} {txv kv : Value} {L : List (List Nat)} {ks : List Int} (ho : OpR w (Fr3 c t gd gw) k N txv kv L ks) :
    Calls Tryd.prog 13 #[ptr gd, .agg (opCells k N txv kv).toArray] w fun e w' => e = .returned (.bool true) ∧ ∃ c' gw' m' S' E' D' nv' dims', Done w c t gd gw g m ds ts i n dims w' c' gw' m' S' E' D' nv' dims' := by
  obtain ⟨us, hnow⟩ := h.now
  obtain ⟨tp, tn, tc, htx⟩ := ho.tx.now.isSl
  obtain ⟨kp, kn, kc, hkv⟩ := ho.keep.isSl
  subst hkv
  have HO : Hid (OpR w (Fr3 c t gd gw) k N txv (.slice kp kn kc) L ks) := ho
  have HI : Hid (Desk w c t gd gw g m ds ts i n S E D nv dims) := h
  have HKP : Hid (KeepX w (Fr3 c t gd gw) (.slice kp kn kc) ks) := ho.keep
  have HNOW : Hid (Rob (Fr3 c t gd gw) (fun W => TxsC W nv D us) w ∧ ∃ p n c, nv = .slice p n c) := ⟨hnow, by obtain ⟨p, cap, e, _⟩ := hnow.now; exact ⟨p, _, cap, e⟩⟩
  have HB : Hid (m.steps + 50000 < 1099511627775 ∧ dims ≤ 999999900 ∧ gd < w.heap.size ∧ gw < w.heap.size) := ⟨hst, hdm, h.dk.row.lt, h.wal.row.lt⟩
  have HSL : Hid (∃ p n c, txv = .slice p n c) := ⟨tp, tn, tc, htx⟩
  obtain ⟨PQ, hPQ⟩ : ∃ PQ : Ending → World → Prop, PQ = fun (e : Ending) (w' : World) => e = .returned (.bool true) ∧ ∃ c' gw' m' S' E' D' nv' dims', Done w c t gd gw g m ds ts i n dims w' c' gw' m' S' E' D' nv' dims' := ⟨_, rfl⟩
  have HPQ : Hid (PQ = fun (e : Ending) (w' : World) => e = .returned (.bool true) ∧ ∃ c' gw' m' S' E' D' nv' dims', Done w c t gd gw g m ds ts i n dims w' c' gw' m' S' E' D' nv' dims') := hPQ
  rw [← hPQ]
  -- an opening, and a boot and an opening, from a state of the desk's
  have HOP : Hid (∀ (w1 : World) (c1 : Nat → Colour) (m1 : Pl) (mv : Value) (l : List (Value × List (List (List Nat)) × List Value)) (D1 : List (List (List Nat))), (∀ b, b < w.heap.size → c1 b = c b) → Ch (fun b => (c b).1 = t ∨ b = gd ∨ b = gw) w w1 → Dk w1 c1 t gd g m1 ds ts i n (ptr gw) nv (costs D) dims → Rel m m1 i → m1.steps ≤ m.steps + 100 → Jc m1 i n D1 → KeepX w1 (Fr2 c1 t gd) (.slice kp kn kc) ks → Rob (Fr2 c1 t gd) (fun W => MayIn W mv l) w1 → Among D1 (l.map (·.2.1)) → Calls Tryd.prog 16 #[ptr gd, .slice kp kn kc, mv] w1 fun e w' => e = .returned (.bool true) ∧ PQ e w') := fun w1 c1 m1 mv l D1 hcc hch hdk hrl hs hj hk hm ha => by
    refine (opened_any hdk hj (by omega) (by omega) hk hm ha).mono ?_
    rintro e w' ⟨rfl, c', gw', m', S', E', nv', dims', hO⟩
    refine ⟨rfl, ?_⟩
    rw [hPQ]
    exact ⟨rfl, c', gw', m', S', E', D1, nv', dims', hO.done hcc hch hrl h.dk.row.lt (by omega) (by omega)⟩
  have HDA : Hid (∀ (w1 : World) (c1 : Nat → Colour) (m1 : Pl) (mv : Value) (l : List (Value × List (List (List Nat)) × List Value)) (D1 : List (List (List Nat))), (∀ b, b < w.heap.size → c1 b = c b) → Ch (fun b => (c b).1 = t ∨ b = gd ∨ b = gw) w w1 → Dk w1 c1 t gd g m1 ds ts i n (ptr gw) nv (costs D) dims → Rel m m1 i → m1.steps ≤ m.steps + 100 → m1.on = false → Jc (m1.boot ks) i n D1 → KeepX w1 (Fr2 c1 t gd) (.slice kp kn kc) ks → Rob (Fr2 c1 t gd) (fun W => MayIn W mv l) w1 → Among D1 (l.map (·.2.1)) → Calls Tryd.prog 28 #[ptr gd, .slice kp kn kc, mv] w1 fun e w' => e = .returned (.bool true) ∧ PQ e w') := fun w1 c1 m1 mv l D1 hcc hch hdk hrl hs hof hj hk hm ha => by
    refine (dark_any hdk hof (by omega) (by omega) hj hk hm ha).mono ?_
    rintro e w' ⟨rfl, c', gw', m', S', E', nv', dims', hO⟩
    refine ⟨rfl, ?_⟩
    rw [hPQ]
    exact ⟨rfl, c', gw', m', S', E', D1, nv', dims', hO.done hcc hch hrl h.dk.row.lt (by omega) (by omega)⟩
  clear hPQ h ho hnow hst hdm htx
  go_enter Tryd.func13, Tryd.ntmps13
  go_upto_region 0 with fail
  refine wp_region_lit ?_
  refine wpList_box (.tmp 1) rfl rfl (opCells k N txv (.slice kp kn kc)) rfl ?_
  intro w1 r1 s1 b1
  obtain ⟨gop, hgop⟩ : ∃ gop, gop = w.heap.size := ⟨_, rfl⟩
  rw [← hgop] at r1 s1 ⊢
  have R1 : Hid (Row w1 gop 33 (opCells k N txv (.slice kp kn kc)) ∧ Below w.heap.size w w1 ∧ w.heap.size ≤ gop ∧ Desk w1 c t gd gw g m ds ts i n S E D nv dims) := ⟨r1, b1, by omega, HI.out.below b1⟩
  clear r1 s1 b1 hgop
  simp only [Act.put, List.setIfInBounds_toArray, List.set_cons_succ, List.set_cons_zero]
  refine wl_as (.const (.bool false)) rfl rfl (.bool false) rfl ?_
  simp only [Act.put, List.setIfInBounds_toArray, List.set_cons_succ, List.set_cons_zero]
  refine wpList_nil ?_
  obtain ⟨q, hq⟩ : ∃ q, q = whichOf k 12 := ⟨_, rfl⟩
  have HWH : Hid (Calls Tryd.prog 10 #[.int .i64 k, .int .i64 12] w1 fun e w' => e = .returned (.int .i64 (q : Nat)) ∧ w1 = w') := by rw [hq]; exact which_any w1 k 12 (by decide) HO.out.k.1 HO.out.k.2
  have hq12 : q < 12 := by rw [hq]; exact whichOf_lt k 12 (by decide)
  clear hq
  go_upto_region 1 with fail
  refine wp_region_lit ?_
  refine wl_fld f33_0 (.tmp 3) rfl rfl gop 0 rfl ?_
  simp only [Act.put, List.setIfInBounds_toArray, List.set_cons_succ, List.set_cons_zero]
  refine wl_ld o3' (.tmp 6) rfl rfl gop (0 + 0) rfl (.int .i64 k) (R1.out.1.at 0 _ rfl) ?_
  simp only [Act.put, List.setIfInBounds_toArray, List.set_cons_succ, List.set_cons_zero]
  refine wpList_callF eN10 [.tmp 7, .const (.int .i64 12)] _ rfl rfl [.int .i64 k, .int .i64 12] rfl ?_
  refine HWH.out.mono ?_
  rintro e wx ⟨rfl, hwx⟩
  subst hwx
  refine ⟨_, rfl, ?_⟩
  simp only [Act.put, List.setIfInBounds_toArray, List.set_cons_succ, List.set_cons_zero]
  refine wpList_nil ?_
  clear HWH
  rcases (show q = 7 ∨ q = 8 ∨ q = 9 ∨ q = 10 ∨ q = 11 ∨ (q ≠ 7 ∧ q ≠ 8 ∧ q ≠ 9 ∧ q ≠ 10 ∧ q ≠ 11) by omega) with hq | hq | hq | hq | hq | hq
  · subst hq
    obtain ⟨T, hT⟩ : ∃ T, T = m.trunc (i : Int) S := ⟨_, rfl⟩
    have hTC := trunc_cases R1.out.2.2.2.jo (by have := HB.out.1; omega)
    rw [← hT] at hTC
    have HTR : Hid (Calls Tryd.prog 25 #[ptr gw] w1 fun e w' => e = .returned (.int .i64 T.1) ∧ ∃ c', (∀ b, b < w1.heap.size → c' b = c b) ∧ Live w' c' t g T.2 ∧ Ch (fun b => (c b).1 = t ∨ b = gw) w1 w' ∧ WalAt w' c' t gw g (i : Int) (if T.1 = 0 then S + 1 else S) (if T.1 = 0 then 0 else E)) := by
      rw [hT]
      refine truncate_any R1.out.2.2.2.dk.live (i : Int) S E ?_ R1.out.2.2.2.wal (by have := HB.out.1; omega)
      obtain ⟨F, rows, hJ, _⟩ := R1.out.2.2.2.jo
      exact hJ.lt (by have := HB.out.1; omega)
    have HTC : Hid ((∃ M, T = (0, M) ∧ Jo M i n (S + 1) 0 [] ∧ Rel m M i ∧ M.steps ≤ m.steps + 2) ∨ (∃ M, T = (2, M) ∧ M.on = false ∧ Rel m M i ∧ M.steps ≤ m.steps + 2 ∧ ∀ ks, Jc (M.boot ks) i n D ∨ Jc (M.boot ks) i n [])) := hTC
    obtain ⟨er, M⟩ := T
    clear hT hTC
    go_upto_region 4 with fail
    refine wp_region_lit ?_
    refine wl_mv (.tmp 0) rfl rfl (ptr gd) rfl ?_
    simp only [Act.put, List.setIfInBounds_toArray, List.set_cons_succ, List.set_cons_zero]
    refine wl_nil (.tmp 14) rfl rfl ⟨gd, 0, none⟩ rfl ?_
    simp only [Act.put, List.setIfInBounds_toArray, List.set_cons_succ, List.set_cons_zero]
    refine wl_fld f40_2 (.tmp 15) rfl rfl gd 0 rfl ?_
    simp only [Act.put, List.setIfInBounds_toArray, List.set_cons_succ, List.set_cons_zero]
    refine wl_ld o37 (.tmp 16) rfl rfl gd (0 + 2) rfl (ptr gw) (R1.out.2.2.2.dk.row.at 2 _ rfl) ?_
    simp only [Act.put, List.setIfInBounds_toArray, List.set_cons_succ, List.set_cons_zero]
    refine wpList_callF eN25 [.tmp 17] _ rfl rfl [(ptr gw)] rfl ?_
    refine HTR.out.mono ?_
    rintro e w2 ⟨rfl, c2, q1, q2, q3, q4⟩
    refine ⟨_, rfl, ?_⟩
    have hgc : (c gop).1 ≠ t := HI.out.dk.live.2.2 gop R1.out.2.2.1
    have hsh : M.sh = m.sh := by
      rcases HTC.out with ⟨M', e, _, r, _⟩ | ⟨M', e, _, r, _⟩
      · injection e with _ e; rw [e]; exact r.sh
      · injection e with _ e; rw [e]; exact r.sh
    have hch : Ch (fun b => (c b).1 = t ∨ b = gw) w w2 := (Ch.of_below R1.out.2.1).trans q3
    have hcc : ∀ b, b < w.heap.size → c2 b = c b := fun b hb => q1 b (Nat.lt_of_lt_of_le hb R1.out.2.1.size)
    have hk2 : ∀ b, b < w.heap.size → Fr3 c t gd gw b → w2.heap[b]? = w.heap[b]? ∧ Fr3 c2 t gd gw b := fun b hb hp => ⟨hch.block b hb (fun e => e.elim hp.1 hp.2.2), by rw [hcc b hb]; exact hp.1, hp.2⟩
    have R2 : Hid (Dk w2 c2 t gd g M ds ts i n (ptr gw) nv (costs D) dims ∧ Row w2 gop 33 (opCells k N txv (.slice kp kn kc)) ∧ (∀ b, b < w.heap.size → c2 b = c b) ∧ Ch (fun b => (c b).1 = t ∨ b = gw) w w2 ∧ WalAt w2 c2 t gw g (i : Int) (if er = 0 then S + 1 else S) (if er = 0 then 0 else E) ∧ Rob (Fr3 c2 t gd gw) (fun W => TxsC W nv D us) w2 ∧ KeepX w2 (Fr3 c2 t gd gw) (.slice kp kn kc) ks) := ⟨R1.out.2.2.2.dk.wx q1 q2 q3 hsh HI.out.ne HI.out.wal.ne0, q3.row (fun e => e.elim hgc (fun e => by have := HB.out.2.2.2; have := R1.out.2.2.1; omega)) R1.out.1, hcc, hch, q4, HNOW.out.1.next hch.size hk2, HKP.out.next hch.size hk2⟩
    clear q1 q2 q3 q4 hgc hsh hch hcc hk2 HTR
    simp only [Act.put, List.setIfInBounds_toArray, List.set_cons_succ, List.set_cons_zero]
    refine wl_as (.tmp 18) rfl rfl (.int .i64 er) rfl ?_
    simp only [Act.put, List.setIfInBounds_toArray, List.set_cons_succ, List.set_cons_zero]
    refine wpList_nil ?_
    rcases HTC.out with ⟨M2, he, hj, hrl, hs⟩ | ⟨M2, he, hof, hrl, hs, hb⟩
    · injection he with h1 h2
      subst h1 h2
      have HJ : Hid (Jo M i n (S + 1) 0 [] ∧ Rel m M i ∧ M.steps ≤ m.steps + 2) := ⟨hj, hrl, hs⟩
      clear hj hrl hs
      go_upto_region 7 with fail
      refine wp_region_lit ?_
      refine wl_mv (.tmp 0) rfl rfl (ptr gd) rfl ?_
      simp only [Act.put, List.setIfInBounds_toArray, List.set_cons_succ, List.set_cons_zero]
      refine wl_nil (.tmp 31) rfl rfl ⟨gd, 0, none⟩ rfl ?_
      simp only [Act.put, List.setIfInBounds_toArray, List.set_cons_succ, List.set_cons_zero]
      refine wl_fld f40_3 (.tmp 32) rfl rfl gd 0 rfl ?_
      simp only [Act.put, List.setIfInBounds_toArray, List.set_cons_succ, List.set_cons_zero]
      refine wl_put s38 (.tmp 33) (.const (.slice none 0 0)) rfl rfl rfl gd (0 + 3) 40 (dkCells g i (ptr gw) nv (costs D) n dims) rfl (.slice none 0 0) rfl ⟨rfl, rfl⟩ R2.out.1.row (show 0 + 3 < 7 by decide) ?_
      refine wpList_nil ?_
      obtain ⟨w3, hw3⟩ : ∃ w3, w3 = w2.setCell ⟨gd, 0 + 3, none⟩ (.slice none 0 0) := ⟨_, rfl⟩
      have hset := R2.out.1.set (0 + 3) (.slice none 0 0) (wv' := ptr gw) (nv' := .slice none 0 0) (cost' := costs D) (dims' := dims) rfl R2.out.1.dim
      rw [← hw3] at hset
      rw [← hw3]
      have R3 : Hid (Dk w3 c2 t gd g M ds ts i n (ptr gw) (.slice none 0 0) (costs D) dims ∧ Ch (· = gd) w2 w3) := hset
      clear hset hw3
      go_upto_region 8 with fail
      refine wp_region_lit ?_
      refine wl_mv (.tmp 0) rfl rfl (ptr gd) rfl ?_
      simp only [Act.put, List.setIfInBounds_toArray, List.set_cons_succ, List.set_cons_zero]
      refine wl_nil (.tmp 34) rfl rfl ⟨gd, 0, none⟩ rfl ?_
      simp only [Act.put, List.setIfInBounds_toArray, List.set_cons_succ, List.set_cons_zero]
      refine wl_fld f40_4 (.tmp 35) rfl rfl gd 0 rfl ?_
      simp only [Act.put, List.setIfInBounds_toArray, List.set_cons_succ, List.set_cons_zero]
      refine wl_put s3 (.tmp 36) (.const (.int .i64 0)) rfl rfl rfl gd (0 + 4) 40 (dkCells g i (ptr gw) (.slice none 0 0) (costs D) n dims) rfl (.int .i64 ((0 : Nat) : Int)) rfl ⟨rfl, rfl⟩ R3.out.1.row (show 0 + 4 < 7 by decide) ?_
      refine wpList_nil ?_
      obtain ⟨w4, hw4⟩ : ∃ w4, w4 = w3.setCell ⟨gd, 0 + 4, none⟩ (.int .i64 ((0 : Nat) : Int)) := ⟨_, rfl⟩
      have hset := R3.out.1.set (0 + 4) (.int .i64 ((0 : Nat) : Int)) (wv' := ptr gw) (nv' := .slice none 0 0) (cost' := 0) (dims' := dims) rfl R3.out.1.dim
      rw [← hw4] at hset
      rw [← hw4]
      have HD : Hid (Done w c t gd gw g m ds ts i n dims w4 c2 gw M (S + 1) 0 [] (.slice none 0 0) dims) := by
        have hcg : Ch (· = gd) w2 w4 := R3.out.2.trans hset.2
        have hwl := R2.out.2.2.2.2.1
        rw [if_pos rfl, if_pos rfl] at hwl
        refine ⟨⟨hset.1, ⟨hcg.row (fun e => HI.out.ne e.symm) hwl.row, hwl.ap, hset.1.tab, hwl.tap⟩, HI.out.ne, HJ.out.1, [], fun W _ _ => TxsC.nil W⟩, R2.out.2.2.1, ?_, Or.inl rfl, HJ.out.2.1, by have := HJ.out.2.2; omega, by omega⟩
        exact (R2.out.2.2.2.1.mono fun b _ e => e.elim Or.inl (fun e => Or.inr (Or.inr e))).trans (hcg.mono fun b _ e => Or.inr (Or.inl e))
      clear hset hw4 R3
      go_wp2_with fail
      rw [HPQ.out]
      exact ⟨rfl, c2, gw, M, S + 1, 0, [], _, dims, HD.out⟩
    · injection he with h1 h2
      subst h1 h2
      have HJ : Hid (M.on = false ∧ Rel m M i ∧ M.steps ≤ m.steps + 2 ∧ (Jc (M.boot ks) i n D ∨ Jc (M.boot ks) i n [])) := ⟨hof, hrl, hs, hb ks⟩
      clear hof hrl hs hb
      go_upto_region 6 with fail
      refine wp_region_until (S := fun X => Row X gd 40 (dkCells g i (ptr gw) nv (costs D) n dims) ∧ Row X gop 33 (opCells k N txv (.slice kp kn kc))) 9 (by kernel_rfl) ?_
      show wpAnyU _ _ _ _ _ _ 11 (Array.replicate 11 false) _ _
      obtain ⟨Y, hX⟩ : ∃ Y : World, Y = { w2 with drawn := w2.drawn + 1 } := ⟨_, rfl⟩
      rw [← hX]
      have hbX : Below w2.heap.size w2 Y := by rw [hX]; exact ⟨rfl, rfl, rfl, Nat.le_refl _, fun _ _ => rfl⟩
      have RY : Hid (Dk Y c2 t gd g M ds ts i n (ptr gw) nv (costs D) dims ∧ Row Y gop 33 (opCells k N txv (.slice kp kn kc)) ∧ Below w2.heap.size w2 Y) := ⟨R2.out.1.below hbX, R2.out.2.1.later hbX R2.out.2.1.lt, hbX⟩
      have hS0 : Row Y gd 40 (dkCells g i (ptr gw) nv (costs D) n dims) ∧ Row Y gop 33 (opCells k N txv (.slice kp kn kc)) := ⟨RY.out.1.row, RY.out.2.1⟩
      clear hbX
      clear hX
      refine takeV (i := 0) [9] (some 21) rfl rfl (by kernel_rfl) (by kernel_rfl) (by kernel_rfl) (by kernel_rfl) (fun _ _ _ h => h) (gMove rfl (.tmp 0) rfl (ptr gd) rfl) hS0 ?_
      simp only [Act.put, List.setIfInBounds_toArray, List.set_cons_succ, List.set_cons_zero]
      refine takeV (i := 1) [2, 9] (some 22) rfl rfl (by kernel_rfl) (by kernel_rfl) (by kernel_rfl) (by kernel_rfl) (fun _ _ _ h => h) (gField f33_3 rfl (.tmp 3) rfl gop 0 rfl) hS0 ?_
      simp only [Act.put, List.setIfInBounds_toArray, List.set_cons_succ, List.set_cons_zero]
      refine takeV (i := 2) [9] (some 23) rfl rfl (by kernel_rfl) (by kernel_rfl) (by kernel_rfl) (by kernel_rfl) (fun _ _ _ h => h) (gLoad o31 rfl (.tmp 22) rfl gop (0 + 3) rfl (.slice kp kn kc) (fun _ h => (h.2.at 3 _ rfl))) hS0 ?_
      simp only [Act.put, List.setIfInBounds_toArray, List.set_cons_succ, List.set_cons_zero]
      refine takeV (i := 3) [4, 5, 6, 8, 9] (some 24) rfl rfl (by kernel_rfl) (by kernel_rfl) (by kernel_rfl) (by kernel_rfl) (fun _ _ _ h => h) (gMove rfl (.tmp 0) rfl (ptr gd) rfl) hS0 ?_
      simp only [Act.put, List.setIfInBounds_toArray, List.set_cons_succ, List.set_cons_zero]
      refine takeV (i := 4) [5, 6, 8, 9] (some 25) rfl rfl (by kernel_rfl) (by kernel_rfl) (by kernel_rfl) (by kernel_rfl) (fun _ _ _ h => h) (nilOp rfl (.tmp 24) rfl ⟨gd, 0, none⟩ rfl) hS0 ?_
      simp only [Act.put, List.setIfInBounds_toArray, List.set_cons_succ, List.set_cons_zero]
      refine takeV (i := 5) [6, 8, 9] (some 26) rfl rfl (by kernel_rfl) (by kernel_rfl) (by kernel_rfl) (by kernel_rfl) (fun _ _ _ h => h) (gField f40_3 rfl (.tmp 25) rfl gd 0 rfl) hS0 ?_
      simp only [Act.put, List.setIfInBounds_toArray, List.set_cons_succ, List.set_cons_zero]
      refine takeV (i := 6) [8, 9] (some 27) rfl rfl (by kernel_rfl) (by kernel_rfl) (by kernel_rfl) (by kernel_rfl) (fun _ _ _ h => h) (gLoad o38 rfl (.tmp 26) rfl gd (0 + 3) rfl nv (fun _ h => (h.1.at 3 _ rfl))) hS0 ?_
      simp only [Act.put, List.setIfInBounds_toArray, List.set_cons_succ, List.set_cons_zero]
      clear hS0
      refine oneU (i := 7) (by kernel_rfl) ?_
      refine opValue (some 28) rfl rfl rfl _ _ (run_lit38z rfl) ?_
      obtain ⟨Y2, hY2⟩ : ∃ Y2, Y2 = Y.alloc (.cells #[] 30) := ⟨_, rfl⟩
      obtain ⟨gn, hgn⟩ : ∃ gn, gn = Y.heap.size := ⟨_, rfl⟩
      rw [← hY2, ← hgn]
      have b2 : Below Y.heap.size Y Y2 := by rw [hY2]; exact below_alloc Y _
      have RY2 : Hid (Dk Y2 c2 t gd g M ds ts i n (ptr gw) nv (costs D) dims ∧ Row Y2 gop 33 (opCells k N txv (.slice kp kn kc)) ∧ Below w2.heap.size w2 Y2) := ⟨RY.out.1.below b2, RY.out.2.1.later b2 RY.out.2.1.lt, RY.out.2.2.trans (b2.mono RY.out.2.2.size)⟩
      have hS0 : Row Y2 gd 40 (dkCells g i (ptr gw) nv (costs D) n dims) ∧ Row Y2 gop 33 (opCells k N txv (.slice kp kn kc)) := ⟨RY2.out.1.row, RY2.out.2.1⟩
      clear hY2 hgn b2 RY
      refine ⟨fun _ => hS0, ?_⟩
      simp only [Act.put, List.setIfInBounds_toArray, List.set_cons_succ, List.set_cons_zero]
      clear hS0
      refine oneU (i := 8) (by kernel_rfl) ?_
      refine opValue (some 29) rfl rfl rfl _ _ (run_lit41_2 (.tmp 27) (.tmp 28) rfl nv (.slice (some ⟨gn, 0, none⟩) 0 0) HNOW.out.2 ⟨_, _, _, rfl⟩ rfl rfl) ?_
      obtain ⟨Y3, hY3⟩ : ∃ Y3, Y3 = Y2.alloc (.cells #[nv, .slice (some ⟨gn, 0, none⟩) 0 0] 38) := ⟨_, rfl⟩
      obtain ⟨gm, hgm⟩ : ∃ gm, gm = Y2.heap.size := ⟨_, rfl⟩
      have b3 : Below Y2.heap.size Y2 Y3 := by rw [hY3]; exact below_alloc Y2 _
      have hmay := may_new (w := Y2) (P := Fr2 c2 t gd) (l := [(nv, D, us), (.slice (some ⟨gn, 0, none⟩) 0 0, [], [])]) (by
        intro x hx
        rcases List.mem_cons.1 hx with e | e
        · rw [e]; exact (R2.out.2.2.2.2.2.1.below RY2.out.2.2).next (Nat.le_refl _) fun b hb hp => ⟨rfl, hp.1, hp.2.1⟩
        · rw [List.mem_singleton.1 e]; exact fun W _ _ => TxsC.none W _ _) (by simp) ⟨RY2.out.1.live.2.2 _ (Nat.le_refl _), by have := RY2.out.1.row.lt; omega⟩
      have hmay2 : Rob (Fr2 c2 t gd) (fun W => MayIn W (.slice (some ⟨gm, 0, none⟩) 2 2) [(nv, D, us), (.slice (some ⟨gn, 0, none⟩) 0 0, [], [])]) Y3 := by rw [hY3, hgm]; exact hmay
      rw [← hY3, ← hgm]
      have RY3 : Hid (Dk Y3 c2 t gd g M ds ts i n (ptr gw) nv (costs D) dims ∧ Row Y3 gop 33 (opCells k N txv (.slice kp kn kc)) ∧ Below w2.heap.size w2 Y3 ∧ Rob (Fr2 c2 t gd) (fun W => MayIn W (.slice (some ⟨gm, 0, none⟩) 2 2) [(nv, D, us), (.slice (some ⟨gn, 0, none⟩) 0 0, [], [])]) Y3) := ⟨RY2.out.1.below b3, RY2.out.2.1.later b3 RY2.out.2.1.lt, RY2.out.2.2.trans (b3.mono RY2.out.2.2.size), hmay2⟩
      have hS0 : Row Y3 gd 40 (dkCells g i (ptr gw) nv (costs D) n dims) ∧ Row Y3 gop 33 (opCells k N txv (.slice kp kn kc)) := ⟨RY3.out.1.row, RY3.out.2.1⟩
      clear hY3 hgm b3 hmay hmay2 RY2
      refine ⟨fun _ => hS0, ?_⟩
      simp only [Act.put, List.setIfInBounds_toArray, List.set_cons_succ, List.set_cons_zero]
      clear hS0
      have HCL : Hid (Calls Tryd.prog 28 #[ptr gd, .slice kp kn kc, .slice (some ⟨gm, 0, none⟩) 2 2] Y3 fun e w' => e = .returned (.bool true) ∧ PQ e w') := by
        have hch : Ch (fun b => (c b).1 = t ∨ b = gd ∨ b = gw) w Y3 := (R2.out.2.2.2.1.mono fun b _ e => e.elim Or.inl (fun e => Or.inr (Or.inr e))).trans (Ch.of_below RY3.out.2.2.1)
        have hk : KeepX Y3 (Fr2 c2 t gd) (.slice kp kn kc) ks := (R2.out.2.2.2.2.2.2.below RY3.out.2.2.1).next (Nat.le_refl _) fun b hb hp => ⟨rfl, hp.1, hp.2.1⟩
        rcases HJ.out.2.2.2 with hj | hj
        · exact HDA.out Y3 c2 M _ _ D R2.out.2.2.1 hch RY3.out.1 HJ.out.2.1 (by have := HJ.out.2.2.1; omega) HJ.out.1 hj hk RY3.out.2.2.2 (Or.inl rfl)
        · by_cases e0 : D = []
          · exact HDA.out Y3 c2 M _ _ [] R2.out.2.2.1 hch RY3.out.1 HJ.out.2.1 (by have := HJ.out.2.2.1; omega) HJ.out.1 hj hk RY3.out.2.2.2 (Or.inl e0)
          · exact HDA.out Y3 c2 M _ _ [] R2.out.2.2.1 hch RY3.out.1 HJ.out.2.1 (by have := HJ.out.2.2.1; omega) HJ.out.1 hj hk RY3.out.2.2.2 (Or.inr ⟨fun h => e0 (List.length_eq_zero_iff.1 h), Or.inl rfl⟩)
      refine oneU (i := 9) (by kernel_rfl) ?_
      refine opCallA (some 30) rfl rfl rfl 28 _ (run_call eN28 [.tmp 21, .tmp 23, .tmp 29] _ rfl [ptr gd, .slice kp kn kc, .slice (some ⟨gm, 0, none⟩) 2 2] rfl) ?_
      refine HCL.out.mono ?_
      rintro e wz ⟨rfl, hQ⟩
      have HQ : Hid (PQ (.returned (.bool true)) wz) := hQ
      clear hQ HCL RY3
      refine ⟨_, rfl, ?_⟩
      refine ⟨fun h => absurd (show true = false from h) (by decide), ?_⟩
      simp only [Act.put, List.setIfInBounds_toArray, List.set_cons_succ, List.set_cons_zero]
      refine oneU (i := 10) (by kernel_rfl) ?_
      refine opValue (some 4) rfl rfl rfl (.bool true) _ (run_asZ (.tmp 30) rfl (.bool true) rfl) ?_
      refine ⟨fun h => absurd (show true = false from h) (by decide), ?_⟩
      simp only [Act.put, List.setIfInBounds_toArray, List.set_cons_succ, List.set_cons_zero]
      refine wpAnyU_done (by kernel_rfl) ?_ _
      go_wp2_with fail
      exact HQ.out
  · subst hq
    have RF : Hid (Dk w1 c t gd g m ds ts i n (ptr gw) nv (costs D) dims ∧ Row w1 gop 33 (opCells k N txv (.slice kp kn kc)) ∧ (∀ b, b < w.heap.size → c b = c b) ∧ Ch (fun b => (c b).1 = t ∨ b = gd ∨ b = gw) w w1 ∧ Rel m m i ∧ m.steps ≤ m.steps + 100 ∧ Jc m i n D ∧ Rob (Fr2 c t gd) (fun W => TxsC W nv D us) w1 ∧ KeepX w1 (Fr2 c t gd) (.slice kp kn kc) ks) := ⟨R1.out.2.2.2.dk, R1.out.1, fun _ _ => rfl, Ch.of_below R1.out.2.1, Rel.refl m i, by omega, R1.out.2.2.2.jo.jc, (HNOW.out.1.below R1.out.2.1).next (Nat.le_refl _) fun b hb hp => ⟨rfl, hp.1, hp.2.1⟩, (HKP.out.below R1.out.2.1).next (Nat.le_refl _) fun b hb hp => ⟨rfl, hp.1, hp.2.1⟩⟩
    go_upto_region 11 with fail
    refine wp_region_until (S := fun X => Row X gd 40 (dkCells g i (ptr gw) nv (costs D) n dims) ∧ Row X gop 33 (opCells k N txv (.slice kp kn kc))) 8 (by kernel_rfl) ?_
    show wpAnyU _ _ _ _ _ _ 10 (Array.replicate 10 false) _ _
    obtain ⟨Y, hX⟩ : ∃ Y : World, Y = { w1 with drawn := w1.drawn + 1 } := ⟨_, rfl⟩
    rw [← hX]
    have hbX : Below w1.heap.size w1 Y := by rw [hX]; exact ⟨rfl, rfl, rfl, Nat.le_refl _, fun _ _ => rfl⟩
    have RY : Hid (Dk Y c t gd g m ds ts i n (ptr gw) nv (costs D) dims ∧ Row Y gop 33 (opCells k N txv (.slice kp kn kc)) ∧ Below w1.heap.size w1 Y) := ⟨RF.out.1.below hbX, RF.out.2.1.later hbX RF.out.2.1.lt, hbX⟩
    have hS0 : Row Y gd 40 (dkCells g i (ptr gw) nv (costs D) n dims) ∧ Row Y gop 33 (opCells k N txv (.slice kp kn kc)) := ⟨RY.out.1.row, RY.out.2.1⟩
    clear hbX
    clear hX
    refine takeV (i := 0) [8] (some 41) rfl rfl (by kernel_rfl) (by kernel_rfl) (by kernel_rfl) (by kernel_rfl) (fun _ _ _ h => h) (gMove rfl (.tmp 0) rfl (ptr gd) rfl) hS0 ?_
    simp only [Act.put, List.setIfInBounds_toArray, List.set_cons_succ, List.set_cons_zero]
    refine takeV (i := 1) [2, 8] (some 42) rfl rfl (by kernel_rfl) (by kernel_rfl) (by kernel_rfl) (by kernel_rfl) (fun _ _ _ h => h) (gField f33_3 rfl (.tmp 3) rfl gop 0 rfl) hS0 ?_
    simp only [Act.put, List.setIfInBounds_toArray, List.set_cons_succ, List.set_cons_zero]
    refine takeV (i := 2) [8] (some 43) rfl rfl (by kernel_rfl) (by kernel_rfl) (by kernel_rfl) (by kernel_rfl) (fun _ _ _ h => h) (gLoad o31 rfl (.tmp 42) rfl gop (0 + 3) rfl (.slice kp kn kc) (fun _ h => (h.2.at 3 _ rfl))) hS0 ?_
    simp only [Act.put, List.setIfInBounds_toArray, List.set_cons_succ, List.set_cons_zero]
    refine takeV (i := 3) [4, 5, 6, 7, 8] (some 44) rfl rfl (by kernel_rfl) (by kernel_rfl) (by kernel_rfl) (by kernel_rfl) (fun _ _ _ h => h) (gMove rfl (.tmp 0) rfl (ptr gd) rfl) hS0 ?_
    simp only [Act.put, List.setIfInBounds_toArray, List.set_cons_succ, List.set_cons_zero]
    refine takeV (i := 4) [5, 6, 7, 8] (some 45) rfl rfl (by kernel_rfl) (by kernel_rfl) (by kernel_rfl) (by kernel_rfl) (fun _ _ _ h => h) (nilOp rfl (.tmp 44) rfl ⟨gd, 0, none⟩ rfl) hS0 ?_
    simp only [Act.put, List.setIfInBounds_toArray, List.set_cons_succ, List.set_cons_zero]
    refine takeV (i := 5) [6, 7, 8] (some 46) rfl rfl (by kernel_rfl) (by kernel_rfl) (by kernel_rfl) (by kernel_rfl) (fun _ _ _ h => h) (gField f40_3 rfl (.tmp 45) rfl gd 0 rfl) hS0 ?_
    simp only [Act.put, List.setIfInBounds_toArray, List.set_cons_succ, List.set_cons_zero]
    refine takeV (i := 6) [7, 8] (some 47) rfl rfl (by kernel_rfl) (by kernel_rfl) (by kernel_rfl) (by kernel_rfl) (fun _ _ _ h => h) (gLoad o38 rfl (.tmp 46) rfl gd (0 + 3) rfl nv (fun _ h => (h.1.at 3 _ rfl))) hS0 ?_
    simp only [Act.put, List.setIfInBounds_toArray, List.set_cons_succ, List.set_cons_zero]
    clear hS0
    refine oneU (i := 7) (by kernel_rfl) ?_
    refine opValue (some 48) rfl rfl rfl _ _ (run_lit41_1 (.tmp 47) rfl nv HNOW.out.2 rfl) ?_
    obtain ⟨Y3, hY3⟩ : ∃ Y3, Y3 = Y.alloc (.cells #[nv] 38) := ⟨_, rfl⟩
    obtain ⟨gm, hgm⟩ : ∃ gm, gm = Y.heap.size := ⟨_, rfl⟩
    have b3 : Below Y.heap.size Y Y3 := by rw [hY3]; exact below_alloc Y _
    have hmay2 : Rob (Fr2 c t gd) (fun W => MayIn W (.slice (some ⟨gm, 0, none⟩) 1 1) [(nv, D, us)]) Y3 := by
      rw [hY3, hgm]
      exact may_one (RF.out.2.2.2.2.2.2.2.1.below RY.out.2.2) (RY.out.1.live.2.2 _ (Nat.le_refl _)) RY.out.1.row.lt
    rw [← hY3, ← hgm]
    have RY3 : Hid (Dk Y3 c t gd g m ds ts i n (ptr gw) nv (costs D) dims ∧ Row Y3 gop 33 (opCells k N txv (.slice kp kn kc)) ∧ Below w1.heap.size w1 Y3 ∧ Rob (Fr2 c t gd) (fun W => MayIn W (.slice (some ⟨gm, 0, none⟩) 1 1) [(nv, D, us)]) Y3) := ⟨RY.out.1.below b3, RY.out.2.1.later b3 RY.out.2.1.lt, RY.out.2.2.trans (b3.mono RY.out.2.2.size), hmay2⟩
    have hS0 : Row Y3 gd 40 (dkCells g i (ptr gw) nv (costs D) n dims) ∧ Row Y3 gop 33 (opCells k N txv (.slice kp kn kc)) := ⟨RY3.out.1.row, RY3.out.2.1⟩
    clear hY3 hgm b3 hmay2 RY
    refine ⟨fun _ => hS0, ?_⟩
    simp only [Act.put, List.setIfInBounds_toArray, List.set_cons_succ, List.set_cons_zero]
    clear hS0
    have HCL : Hid (Calls Tryd.prog 16 #[ptr gd, .slice kp kn kc, .slice (some ⟨gm, 0, none⟩) 1 1] Y3 fun e w' => e = .returned (.bool true) ∧ PQ e w') := HOP.out Y3 c m _ _ D RF.out.2.2.1 (RF.out.2.2.2.1.trans (Ch.of_below RY3.out.2.2.1)) RY3.out.1 RF.out.2.2.2.2.1 RF.out.2.2.2.2.2.1 RF.out.2.2.2.2.2.2.1 (RF.out.2.2.2.2.2.2.2.2.below RY3.out.2.2.1) RY3.out.2.2.2 (Or.inl rfl)
    refine oneU (i := 8) (by kernel_rfl) ?_
    refine opCallA (some 49) rfl rfl rfl 16 _ (run_call eN16 [.tmp 41, .tmp 43, .tmp 48] _ rfl [ptr gd, .slice kp kn kc, .slice (some ⟨gm, 0, none⟩) 1 1] rfl) ?_
    refine HCL.out.mono ?_
    rintro e wz ⟨rfl, hQ⟩
    have HQ : Hid (PQ (.returned (.bool true)) wz) := hQ
    clear hQ HCL RY3
    refine ⟨_, rfl, ?_⟩
    refine ⟨fun h => absurd (show true = false from h) (by decide), ?_⟩
    simp only [Act.put, List.setIfInBounds_toArray, List.set_cons_succ, List.set_cons_zero]
    refine oneU (i := 9) (by kernel_rfl) ?_
    refine opValue (some 4) rfl rfl rfl (.bool true) _ (run_asZ (.tmp 49) rfl (.bool true) rfl) ?_
    refine ⟨fun h => absurd (show true = false from h) (by decide), ?_⟩
    simp only [Act.put, List.setIfInBounds_toArray, List.set_cons_succ, List.set_cons_zero]
    refine wpAnyU_done (by kernel_rfl) ?_ _
    go_wp2_with fail
    exact HQ.out
  · subst hq
    go_upto_region 13 with fail
    refine wp_region_held (S := fun X => Row X gd 40 (dkCells g i (ptr gw) nv (costs D) n dims) ∧ Row X gop 33 (opCells k N txv (.slice kp kn kc))) (by kernel_rfl) ?_
    show wpAnyH _ _ _ _ _ 7 (Array.replicate 7 false) _ _
    obtain ⟨X, hX⟩ : ∃ X : World, X = { w1 with drawn := w1.drawn + 1 } := ⟨_, rfl⟩
    rw [← hX]
    have hbX : Below w1.heap.size w1 X := by rw [hX]; exact ⟨rfl, rfl, rfl, Nat.le_refl _, fun _ _ => rfl⟩
    have RX : Hid (Below w.heap.size w X ∧ Row X gop 33 (opCells k N txv (.slice kp kn kc)) ∧ Desk X c t gd gw g m ds ts i n S E D nv dims) := ⟨R1.out.2.1.trans (hbX.mono R1.out.2.1.size), R1.out.1.later hbX R1.out.1.lt, R1.out.2.2.2.below hbX⟩
    have hS0 : Row X gd 40 (dkCells g i (ptr gw) nv (costs D) n dims) ∧ Row X gop 33 (opCells k N txv (.slice kp kn kc)) := ⟨RX.out.2.2.dk.row, RX.out.2.1⟩
    clear hbX
    clear hX
    refine takeH (i := 0) (some 52) rfl rfl (by kernel_rfl) (by kernel_rfl) (by kernel_rfl) (fun _ _ _ h => h) (gMove rfl (.tmp 0) rfl (ptr gd) rfl) hS0 ?_
    simp only [Act.put, List.setIfInBounds_toArray, List.set_cons_succ, List.set_cons_zero]
    refine takeH (i := 1) (some 53) rfl rfl (by kernel_rfl) (by kernel_rfl) (by kernel_rfl) (fun _ _ _ h => h) (nilOp rfl (.tmp 52) rfl ⟨gd, 0, none⟩ rfl) hS0 ?_
    simp only [Act.put, List.setIfInBounds_toArray, List.set_cons_succ, List.set_cons_zero]
    refine takeH (i := 2) (some 54) rfl rfl (by kernel_rfl) (by kernel_rfl) (by kernel_rfl) (fun _ _ _ h => h) (gField f40_0 rfl (.tmp 53) rfl gd 0 rfl) hS0 ?_
    simp only [Act.put, List.setIfInBounds_toArray, List.set_cons_succ, List.set_cons_zero]
    refine takeH (i := 3) (some 55) rfl rfl (by kernel_rfl) (by kernel_rfl) (by kernel_rfl) (fun _ _ _ h => h) (gLoad o25 rfl (.tmp 54) rfl gd (0 + 0) rfl (ptr g) (fun _ h => (h.1.at 0 _ rfl))) hS0 ?_
    simp only [Act.put, List.setIfInBounds_toArray, List.set_cons_succ, List.set_cons_zero]
    refine takeH (i := 4) (some 56) rfl rfl (by kernel_rfl) (by kernel_rfl) (by kernel_rfl) (fun _ _ _ h => h) (gField f33_1 rfl (.tmp 3) rfl gop 0 rfl) hS0 ?_
    simp only [Act.put, List.setIfInBounds_toArray, List.set_cons_succ, List.set_cons_zero]
    refine takeH (i := 5) (some 57) rfl rfl (by kernel_rfl) (by kernel_rfl) (by kernel_rfl) (fun _ _ _ h => h) (gLoad o3' rfl (.tmp 56) rfl gop (0 + 1) rfl (.int .i64 N) (fun _ h => (h.2.at 1 _ rfl))) hS0 ?_
    simp only [Act.put, List.setIfInBounds_toArray, List.set_cons_succ, List.set_cons_zero]
    clear hS0
    refine oneH (i := 6) (by kernel_rfl) ?_
    refine opCallA (some 58) rfl rfl rfl 14 _ (run_call eN14 [.tmp 55, .tmp 57] _ rfl [ptr g, .int .i64 N] rfl) ?_
    refine (RX.out.2.2.dk.live.fuse N HO.out.n.1 HO.out.n.2).mono ?_
    rintro e w4 ⟨rfl, hnx⟩
    refine ⟨_, rfl, ?_⟩
    obtain ⟨c4, q1, q2, q3⟩ := hnx.nx
    have hgc : (c gop).1 ≠ t := HI.out.dk.live.2.2 gop R1.out.2.2.1
    have hch : Ch (fun b => (c b).1 = t) w w4 := (Ch.of_below RX.out.1).trans q3
    have hcc : ∀ b, b < w.heap.size → c4 b = c b := fun b hb => q1 b (Nat.lt_of_lt_of_le hb RX.out.1.size)
    have HD : Hid (Done w c t gd gw g m ds ts i n dims w4 c4 gw (m.fuseTo N) S E D nv dims) := by
      refine ⟨⟨RX.out.2.2.dk.nx q1 q2 q3 (Rel.fuse m i N).sh, RX.out.2.2.wal.kept q1 q3, HI.out.ne, ?_, us, HNOW.out.1.next hch.size fun b hb hp => ⟨hch.block b hb hp.1, by rw [hcc b hb]; exact hp.1, hp.2⟩⟩, hcc, hch.mono fun b _ e => Or.inl e, Or.inl rfl, Rel.fuse m i N, by unfold Pl.fuseTo; split <;> (show m.steps ≤ _; omega), by omega⟩
      obtain ⟨F, rows, hJ, h2, h3⟩ := HI.out.jo
      exact ⟨F, rows, hJ.fuse N HO.out.n.1 HO.out.n.2, h2, h3⟩
    have hS4 : Row w4 gd 40 (dkCells g i (ptr gw) nv (costs D) n dims) ∧ Row w4 gop 33 (opCells k N txv (.slice kp kn kc)) := ⟨q3.row RX.out.2.2.dk.ap RX.out.2.2.dk.row, q3.row hgc RX.out.2.1⟩
    clear q1 q2 q3 hnx hgc hch hcc RX
    refine ⟨hS4, ?_⟩
    simp only [Act.put, List.setIfInBounds_toArray, List.set_cons_succ, List.set_cons_zero]
    clear hS4
    refine wpAnyH_done (by kernel_rfl) ?_ _
    go_wp2_with fail
    rw [HPQ.out]
    exact ⟨rfl, c4, gw, _, S, E, D, nv, dims, HD.out⟩
  · subst hq
    go_upto_region 15 with fail
    refine wp_region_held (S := fun X => Row X gd 40 (dkCells g i (ptr gw) nv (costs D) n dims) ∧ Row X gop 33 (opCells k N txv (.slice kp kn kc))) (by kernel_rfl) ?_
    show wpAnyH _ _ _ _ _ 7 (Array.replicate 7 false) _ _
    obtain ⟨X, hX⟩ : ∃ X : World, X = { w1 with drawn := w1.drawn + 1 } := ⟨_, rfl⟩
    rw [← hX]
    have hbX : Below w1.heap.size w1 X := by rw [hX]; exact ⟨rfl, rfl, rfl, Nat.le_refl _, fun _ _ => rfl⟩
    have RX : Hid (Below w.heap.size w X ∧ Row X gop 33 (opCells k N txv (.slice kp kn kc)) ∧ Desk X c t gd gw g m ds ts i n S E D nv dims) := ⟨R1.out.2.1.trans (hbX.mono R1.out.2.1.size), R1.out.1.later hbX R1.out.1.lt, R1.out.2.2.2.below hbX⟩
    have hS0 : Row X gd 40 (dkCells g i (ptr gw) nv (costs D) n dims) ∧ Row X gop 33 (opCells k N txv (.slice kp kn kc)) := ⟨RX.out.2.2.dk.row, RX.out.2.1⟩
    clear hbX
    clear hX
    refine takeH (i := 0) (some 61) rfl rfl (by kernel_rfl) (by kernel_rfl) (by kernel_rfl) (fun _ _ _ h => h) (gMove rfl (.tmp 0) rfl (ptr gd) rfl) hS0 ?_
    simp only [Act.put, List.setIfInBounds_toArray, List.set_cons_succ, List.set_cons_zero]
    refine takeH (i := 1) (some 62) rfl rfl (by kernel_rfl) (by kernel_rfl) (by kernel_rfl) (fun _ _ _ h => h) (nilOp rfl (.tmp 61) rfl ⟨gd, 0, none⟩ rfl) hS0 ?_
    simp only [Act.put, List.setIfInBounds_toArray, List.set_cons_succ, List.set_cons_zero]
    refine takeH (i := 2) (some 63) rfl rfl (by kernel_rfl) (by kernel_rfl) (by kernel_rfl) (fun _ _ _ h => h) (gField f40_0 rfl (.tmp 62) rfl gd 0 rfl) hS0 ?_
    simp only [Act.put, List.setIfInBounds_toArray, List.set_cons_succ, List.set_cons_zero]
    refine takeH (i := 3) (some 64) rfl rfl (by kernel_rfl) (by kernel_rfl) (by kernel_rfl) (fun _ _ _ h => h) (gLoad o25 rfl (.tmp 63) rfl gd (0 + 0) rfl (ptr g) (fun _ h => (h.1.at 0 _ rfl))) hS0 ?_
    simp only [Act.put, List.setIfInBounds_toArray, List.set_cons_succ, List.set_cons_zero]
    refine takeH (i := 4) (some 65) rfl rfl (by kernel_rfl) (by kernel_rfl) (by kernel_rfl) (fun _ _ _ h => h) (gField f33_3 rfl (.tmp 3) rfl gop 0 rfl) hS0 ?_
    simp only [Act.put, List.setIfInBounds_toArray, List.set_cons_succ, List.set_cons_zero]
    refine takeH (i := 5) (some 66) rfl rfl (by kernel_rfl) (by kernel_rfl) (by kernel_rfl) (fun _ _ _ h => h) (gLoad o31 rfl (.tmp 65) rfl gop (0 + 3) rfl (.slice kp kn kc) (fun _ h => (h.2.at 3 _ rfl))) hS0 ?_
    simp only [Act.put, List.setIfInBounds_toArray, List.set_cons_succ, List.set_cons_zero]
    clear hS0
    refine oneH (i := 6) (by kernel_rfl) ?_
    refine opCallA (some 67) rfl rfl rfl 15 _ (run_call eN15 [.tmp 64, .tmp 66] _ rfl [ptr g, .slice kp kn kc] rfl) ?_
    refine (RX.out.2.2.dk.live.boot (by have := HB.out.1; omega) _ ks ((HKP.out.below RX.out.1).keep fun b hb hp => hp.1)).mono ?_
    rintro e w4 ⟨rfl, hnx⟩
    refine ⟨_, rfl, ?_⟩
    obtain ⟨c4, q1, q2, q3⟩ := hnx.nx
    have hgc : (c gop).1 ≠ t := HI.out.dk.live.2.2 gop R1.out.2.2.1
    have hch : Ch (fun b => (c b).1 = t) w w4 := (Ch.of_below RX.out.1).trans q3
    have hcc : ∀ b, b < w.heap.size → c4 b = c b := fun b hb => q1 b (Nat.lt_of_lt_of_le hb RX.out.1.size)
    have hk2 : ∀ b, b < w.heap.size → Fr3 c t gd gw b → w4.heap[b]? = w.heap[b]? ∧ Fr2 c4 t gd b := fun b hb hp => ⟨hch.block b hb hp.1, by rw [hcc b hb]; exact hp.1, hp.2.1⟩
    have RF : Hid (Dk w4 c4 t gd g (m.boot ks) ds ts i n (ptr gw) nv (costs D) dims ∧ Row w4 gop 33 (opCells k N txv (.slice kp kn kc)) ∧ (∀ b, b < w.heap.size → c4 b = c b) ∧ Ch (fun b => (c b).1 = t ∨ b = gd ∨ b = gw) w w4 ∧ Rel m (m.boot ks) i ∧ (m.boot ks).steps ≤ m.steps + 100 ∧ Jc (m.boot ks) i n D ∧ Rob (Fr2 c4 t gd) (fun W => TxsC W nv D us) w4 ∧ KeepX w4 (Fr2 c4 t gd) (.slice kp kn kc) ks) := ⟨RX.out.2.2.dk.nx q1 q2 q3 rfl, q3.row hgc RX.out.2.1, hcc, hch.mono fun b _ e => Or.inl e, Rel.boot m i ks, by show m.steps ≤ _; omega, HI.out.jo.jc.boot ks, HNOW.out.1.next hch.size hk2, HKP.out.next hch.size hk2⟩
    have hS4 : Row w4 gd 40 (dkCells g i (ptr gw) nv (costs D) n dims) ∧ Row w4 gop 33 (opCells k N txv (.slice kp kn kc)) := ⟨RF.out.1.row, RF.out.2.1⟩
    clear q1 q2 q3 hnx hgc hch hcc hk2 RX
    refine ⟨hS4, ?_⟩
    simp only [Act.put, List.setIfInBounds_toArray, List.set_cons_succ, List.set_cons_zero]
    clear hS4
    refine wpAnyH_done (by kernel_rfl) ?_ _
    go_upto_region 16 with fail
    refine wp_region_until (S := fun X => Row X gd 40 (dkCells g i (ptr gw) nv (costs D) n dims) ∧ Row X gop 33 (opCells k N txv (.slice kp kn kc))) 8 (by kernel_rfl) ?_
    show wpAnyU _ _ _ _ _ _ 10 (Array.replicate 10 false) _ _
    obtain ⟨Y, hX⟩ : ∃ Y : World, Y = { w4 with drawn := w4.drawn + 1 } := ⟨_, rfl⟩
    rw [← hX]
    have hbX : Below w4.heap.size w4 Y := by rw [hX]; exact ⟨rfl, rfl, rfl, Nat.le_refl _, fun _ _ => rfl⟩
    have RY : Hid (Dk Y c4 t gd g (m.boot ks) ds ts i n (ptr gw) nv (costs D) dims ∧ Row Y gop 33 (opCells k N txv (.slice kp kn kc)) ∧ Below w4.heap.size w4 Y) := ⟨RF.out.1.below hbX, RF.out.2.1.later hbX RF.out.2.1.lt, hbX⟩
    have hS0 : Row Y gd 40 (dkCells g i (ptr gw) nv (costs D) n dims) ∧ Row Y gop 33 (opCells k N txv (.slice kp kn kc)) := ⟨RY.out.1.row, RY.out.2.1⟩
    clear hbX
    clear hX
    refine takeV (i := 0) [8] (some 68) rfl rfl (by kernel_rfl) (by kernel_rfl) (by kernel_rfl) (by kernel_rfl) (fun _ _ _ h => h) (gMove rfl (.tmp 0) rfl (ptr gd) rfl) hS0 ?_
    simp only [Act.put, List.setIfInBounds_toArray, List.set_cons_succ, List.set_cons_zero]
    refine takeV (i := 1) [2, 8] (some 69) rfl rfl (by kernel_rfl) (by kernel_rfl) (by kernel_rfl) (by kernel_rfl) (fun _ _ _ h => h) (gField f33_3 rfl (.tmp 3) rfl gop 0 rfl) hS0 ?_
    simp only [Act.put, List.setIfInBounds_toArray, List.set_cons_succ, List.set_cons_zero]
    refine takeV (i := 2) [8] (some 70) rfl rfl (by kernel_rfl) (by kernel_rfl) (by kernel_rfl) (by kernel_rfl) (fun _ _ _ h => h) (gLoad o31 rfl (.tmp 69) rfl gop (0 + 3) rfl (.slice kp kn kc) (fun _ h => (h.2.at 3 _ rfl))) hS0 ?_
    simp only [Act.put, List.setIfInBounds_toArray, List.set_cons_succ, List.set_cons_zero]
    refine takeV (i := 3) [4, 5, 6, 7, 8] (some 71) rfl rfl (by kernel_rfl) (by kernel_rfl) (by kernel_rfl) (by kernel_rfl) (fun _ _ _ h => h) (gMove rfl (.tmp 0) rfl (ptr gd) rfl) hS0 ?_
    simp only [Act.put, List.setIfInBounds_toArray, List.set_cons_succ, List.set_cons_zero]
    refine takeV (i := 4) [5, 6, 7, 8] (some 72) rfl rfl (by kernel_rfl) (by kernel_rfl) (by kernel_rfl) (by kernel_rfl) (fun _ _ _ h => h) (nilOp rfl (.tmp 71) rfl ⟨gd, 0, none⟩ rfl) hS0 ?_
    simp only [Act.put, List.setIfInBounds_toArray, List.set_cons_succ, List.set_cons_zero]
    refine takeV (i := 5) [6, 7, 8] (some 73) rfl rfl (by kernel_rfl) (by kernel_rfl) (by kernel_rfl) (by kernel_rfl) (fun _ _ _ h => h) (gField f40_3 rfl (.tmp 72) rfl gd 0 rfl) hS0 ?_
    simp only [Act.put, List.setIfInBounds_toArray, List.set_cons_succ, List.set_cons_zero]
    refine takeV (i := 6) [7, 8] (some 74) rfl rfl (by kernel_rfl) (by kernel_rfl) (by kernel_rfl) (by kernel_rfl) (fun _ _ _ h => h) (gLoad o38 rfl (.tmp 73) rfl gd (0 + 3) rfl nv (fun _ h => (h.1.at 3 _ rfl))) hS0 ?_
    simp only [Act.put, List.setIfInBounds_toArray, List.set_cons_succ, List.set_cons_zero]
    clear hS0
    refine oneU (i := 7) (by kernel_rfl) ?_
    refine opValue (some 75) rfl rfl rfl _ _ (run_lit41_1 (.tmp 74) rfl nv HNOW.out.2 rfl) ?_
    obtain ⟨Y3, hY3⟩ : ∃ Y3, Y3 = Y.alloc (.cells #[nv] 38) := ⟨_, rfl⟩
    obtain ⟨gm, hgm⟩ : ∃ gm, gm = Y.heap.size := ⟨_, rfl⟩
    have b3 : Below Y.heap.size Y Y3 := by rw [hY3]; exact below_alloc Y _
    have hmay2 : Rob (Fr2 c4 t gd) (fun W => MayIn W (.slice (some ⟨gm, 0, none⟩) 1 1) [(nv, D, us)]) Y3 := by
      rw [hY3, hgm]
      exact may_one (RF.out.2.2.2.2.2.2.2.1.below RY.out.2.2) (RY.out.1.live.2.2 _ (Nat.le_refl _)) RY.out.1.row.lt
    rw [← hY3, ← hgm]
    have RY3 : Hid (Dk Y3 c4 t gd g (m.boot ks) ds ts i n (ptr gw) nv (costs D) dims ∧ Row Y3 gop 33 (opCells k N txv (.slice kp kn kc)) ∧ Below w4.heap.size w4 Y3 ∧ Rob (Fr2 c4 t gd) (fun W => MayIn W (.slice (some ⟨gm, 0, none⟩) 1 1) [(nv, D, us)]) Y3) := ⟨RY.out.1.below b3, RY.out.2.1.later b3 RY.out.2.1.lt, RY.out.2.2.trans (b3.mono RY.out.2.2.size), hmay2⟩
    have hS0 : Row Y3 gd 40 (dkCells g i (ptr gw) nv (costs D) n dims) ∧ Row Y3 gop 33 (opCells k N txv (.slice kp kn kc)) := ⟨RY3.out.1.row, RY3.out.2.1⟩
    clear hY3 hgm b3 hmay2 RY
    refine ⟨fun _ => hS0, ?_⟩
    simp only [Act.put, List.setIfInBounds_toArray, List.set_cons_succ, List.set_cons_zero]
    clear hS0
    have HCL : Hid (Calls Tryd.prog 16 #[ptr gd, .slice kp kn kc, .slice (some ⟨gm, 0, none⟩) 1 1] Y3 fun e w' => e = .returned (.bool true) ∧ PQ e w') := HOP.out Y3 c4 (m.boot ks) _ _ D RF.out.2.2.1 (RF.out.2.2.2.1.trans (Ch.of_below RY3.out.2.2.1)) RY3.out.1 RF.out.2.2.2.2.1 RF.out.2.2.2.2.2.1 RF.out.2.2.2.2.2.2.1 (RF.out.2.2.2.2.2.2.2.2.below RY3.out.2.2.1) RY3.out.2.2.2 (Or.inl rfl)
    refine oneU (i := 8) (by kernel_rfl) ?_
    refine opCallA (some 76) rfl rfl rfl 16 _ (run_call eN16 [.tmp 68, .tmp 70, .tmp 75] _ rfl [ptr gd, .slice kp kn kc, .slice (some ⟨gm, 0, none⟩) 1 1] rfl) ?_
    refine HCL.out.mono ?_
    rintro e wz ⟨rfl, hQ⟩
    have HQ : Hid (PQ (.returned (.bool true)) wz) := hQ
    clear hQ HCL RY3
    refine ⟨_, rfl, ?_⟩
    refine ⟨fun h => absurd (show true = false from h) (by decide), ?_⟩
    simp only [Act.put, List.setIfInBounds_toArray, List.set_cons_succ, List.set_cons_zero]
    refine oneU (i := 9) (by kernel_rfl) ?_
    refine opValue (some 4) rfl rfl rfl (.bool true) _ (run_asZ (.tmp 76) rfl (.bool true) rfl) ?_
    refine ⟨fun h => absurd (show true = false from h) (by decide), ?_⟩
    simp only [Act.put, List.setIfInBounds_toArray, List.set_cons_succ, List.set_cons_zero]
    refine wpAnyU_done (by kernel_rfl) ?_ _
    go_wp2_with fail
    exact HQ.out
  · subst hq
    go_upto_region 18 with fail
    refine wp_region_lit ?_
    refine wl_mv (.tmp 0) rfl rfl (ptr gd) rfl ?_
    simp only [Act.put, List.setIfInBounds_toArray, List.set_cons_succ, List.set_cons_zero]
    refine wl_ldA agg33 (.tmp 3) rfl rfl gop 0 rfl (opCells k N txv (.slice kp kn kc)) rfl (fun j v hj => by rw [Nat.zero_add]; exact R1.out.1.at j v hj) ?_
    simp only [Act.put, List.setIfInBounds_toArray, List.set_cons_succ, List.set_cons_zero]
    refine wpList_callF eN29 [.tmp 79, .tmp 80] _ rfl rfl [(ptr gd), (.agg (opCells k N txv (.slice kp kn kc)).toArray)] rfl ?_
    refine (dformat_any R1.out.2.2.2 (by have := HB.out.1; omega) HB.out.2.1 (HO.out.below R1.out.2.1)).mono ?_
    rintro e wz ⟨rfl, c9, gw9, m9, S9, E9, D9, nv9, d9, hD⟩
    have HD : Hid (Done w c t gd gw g m ds ts i n dims wz c9 gw9 m9 S9 E9 D9 nv9 d9) := hD.after R1.out.2.1
    clear hD
    refine ⟨_, rfl, ?_⟩
    simp only [Act.put, List.setIfInBounds_toArray, List.set_cons_succ, List.set_cons_zero]
    refine wl_as (.tmp 81) rfl rfl (.bool true) rfl ?_
    simp only [Act.put, List.setIfInBounds_toArray, List.set_cons_succ, List.set_cons_zero]
    refine wpList_nil ?_
    go_wp2_with fail
    rw [HPQ.out]
    exact ⟨rfl, c9, gw9, m9, S9, E9, D9, nv9, d9, HD.out⟩
  · have ta7 : ((q : Int) == 7) = false := by simp; omega
    have tb7 : decide ((q : Int) = 7) = false := decide_eq_false (by omega)
    have ta8 : ((q : Int) == 8) = false := by simp; omega
    have tb8 : decide ((q : Int) = 8) = false := decide_eq_false (by omega)
    have ta9 : ((q : Int) == 9) = false := by simp; omega
    have tb9 : decide ((q : Int) = 9) = false := decide_eq_false (by omega)
    have ta10 : ((q : Int) == 10) = false := by simp; omega
    have tb10 : decide ((q : Int) = 10) = false := decide_eq_false (by omega)
    have ta11 : ((q : Int) == 11) = false := by simp; omega
    have tb11 : decide ((q : Int) = 11) = false := decide_eq_false (by omega)
    go_upto_region 2 with fail
    refine wp_region_lit ?_
    refine wl_mv (.tmp 0) rfl rfl (ptr gd) rfl ?_
    simp only [Act.put, List.setIfInBounds_toArray, List.set_cons_succ, List.set_cons_zero]
    refine wl_ldA agg33 (.tmp 3) rfl rfl gop 0 rfl (opCells k N txv (.slice kp kn kc)) rfl (fun j v hj => by rw [Nat.zero_add]; exact R1.out.1.at j v hj) ?_
    simp only [Act.put, List.setIfInBounds_toArray, List.set_cons_succ, List.set_cons_zero]
    refine wpList_callF eN26 [.tmp 9, .tmp 10] _ rfl rfl [(ptr gd), (.agg (opCells k N txv (.slice kp kn kc)).toArray)] rfl ?_
    refine (dappend_any R1.out.2.2.2 (by have := HB.out.1; omega) HB.out.2.1 (HO.out.below R1.out.2.1)).mono ?_
    rintro e wz ⟨rfl, c9, gw9, m9, S9, E9, D9, nv9, d9, hD⟩
    have HD : Hid (Done w c t gd gw g m ds ts i n dims wz c9 gw9 m9 S9 E9 D9 nv9 d9) := hD.after R1.out.2.1
    clear hD
    refine ⟨_, rfl, ?_⟩
    simp only [Act.put, List.setIfInBounds_toArray, List.set_cons_succ, List.set_cons_zero]
    refine wl_as (.tmp 11) rfl rfl (.bool true) rfl ?_
    simp only [Act.put, List.setIfInBounds_toArray, List.set_cons_succ, List.set_cons_zero]
    refine wpList_nil ?_
    go_wp2_with fail
    rw [HPQ.out]
    exact ⟨rfl, c9, gw9, m9, S9, E9, D9, nv9, d9, HD.out⟩
end Go.Proofs.YtgcecejamcnkiaaDoor

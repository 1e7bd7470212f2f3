/- Layer 8: the desk does a thing. Layer 8: a plant is made; a desk begins. -/
import Derived.Test.YtebalanfagglnaaDoorV37
namespace Go.Proofs.YtebalanfagglnaaDoor
open Go.RowKit Go.Maps
variable {T : Nat → Prop}

theorem Desk.below {w w1 : World} {c : Nat → Colour} {t gd gw g : Nat} {m : Pl} {ds ts : List Nat} {i n S E : Nat} {D : List (List (List Nat))} {nv : Value} {dims : Nat} (h : Desk T w c t gd gw g m ds ts i n S E D nv dims) (hb : Below w.heap.size w w1) : Desk T w1 c t gd gw g m ds ts i n S E D nv dims := by
  obtain ⟨us, hn⟩ := h.now
  exact ⟨h.dk.below hb, h.wal.below hb, h.ne, h.jo, us, hn.below hb⟩
theorem OpR.below {w w1 : World} {P : Nat → Prop} {k N : Int} {txv kv : Value} {L : List (List Nat)} {ks : List Int} (h : OpR w P k N txv kv L ks) (hb : Below w.heap.size w w1) : OpR w1 P k N txv kv L ks := ⟨h.k, h.n, h.tx.below hb, h.keep.below hb, h.size⟩
theorem Done.after {w w1 : World} {c : Nat → Colour} {t gd gw g : Nat} {m : Pl} {ds ts : List Nat} {i n dims : Nat} {w' : World} {c' : Nat → Colour} {gw' : Nat} {m' : Pl} {S' E' : Nat} {D' : List (List (List Nat))} {nv' : Value} {dims' : Nat} (h : Done T w1 c t gd gw g m ds ts i n dims w' c' gw' m' S' E' D' nv' dims') (hb : Below w.heap.size w w1) : Done T w c t gd gw g m ds ts i n dims w' c' gw' m' S' E' D' nv' dims' :=
  ⟨h.desk, fun b hlt => h.cc b (Nat.lt_of_lt_of_le hlt hb.size), (Ch.of_below hb).trans h.ch, h.new.imp id (fun e => Nat.le_trans hb.size e), h.rel, h.le, h.dim⟩
theorem trunc_cases {m : Pl} {i n S E : Nat} {D : List (List (List Nat))} (h : Jo m i n S E D) (hst : m.steps < 1099511627775) :
    (∃ M, m.trunc (i : Int) S = (0, M) ∧ Jo M i n (S + 1) 0 [] ∧ Rel m M i ∧ M.steps ≤ m.steps + 2) ∨
    (∃ M, m.trunc (i : Int) S = (2, M) ∧ M.on = false ∧ Rel m M i ∧ M.steps ≤ m.steps + 2 ∧ ∀ ks, Jc (M.boot ks) i n D ∨ Jc (M.boot ks) i n []) := by
  obtain ⟨F, rows, hJ, hD, hE⟩ := h
  have hS := hJ.lt (by omega)
  rcases hJ.truncC hS with ⟨k1, k2, k3⟩ | ⟨k1, k2, k3⟩
  · left
    have := k2.le
    simp only [List.length_singleton] at this
    exact ⟨_, Prod.ext k1 rfl, ⟨S + 1, [], k3, rfl, rfl⟩, k2.oth.rel, this⟩
  · right
    have := k2.le
    simp only [List.length_singleton] at this
    refine ⟨_, Prod.ext k1 rfl, k2.off, k2.oth.rel, this, fun ks => ?_⟩
    rcases k3 ks with k | k
    · exact Or.inl ⟨_, _, _, _, k, hD⟩
    · exact Or.inr ⟨_, _, _, _, k, rfl⟩
theorem agg33 : AggT 31 4 := ⟨Or.inl ⟨_, Tryd.underlying31⟩, by kernel_rfl⟩
set_option maxHeartbeats 16000000 in
set_option maxRecDepth 100000 in
theorem do_any {w : World} {c : Nat → Colour} {t gd gw g : Nat} {m : Pl} {ds ts : List Nat} {i n S E : Nat} {D : List (List (List Nat))} {nv : Value} {dims : Nat} (h : Desk T w c t gd gw g m ds ts i n S E D nv dims) (hst : m.steps + 50000 < 1099511627775) (hdm : dims ≤ 999999900) {k N : Int} {txv kv : Value} {L : List (List Nat)} {ks : List Int} (ho : OpR w (Fr3 T c t gd gw) k N txv kv L ks) :
    Calls Tryd.prog 9 #[ptr gd, .agg (opCells k N txv kv).toArray] w fun e w' => e = .returned (.bool true) ∧ ∃ c' gw' m' S' E' D' nv' dims', Done T w c t gd gw g m ds ts i n dims w' c' gw' m' S' E' D' nv' dims' := by
  obtain ⟨us, hnow⟩ := h.now
  obtain ⟨tp, tn, tc, htx⟩ := ho.tx.now.isSl
  obtain ⟨kp, kn, kc, hkv⟩ := ho.keep.isSl
  subst hkv
  have HO : Hid (OpR w (Fr3 T c t gd gw) k N txv (.slice kp kn kc) L ks) := ho
  have HI : Hid (Desk T w c t gd gw g m ds ts i n S E D nv dims) := h
  have HKP : Hid (KeepX w (Fr3 T c t gd gw) (.slice kp kn kc) ks) := ho.keep
  have HNOW : Hid (Rob (Fr3 T c t gd gw) (fun W => TxsC W nv D us) w ∧ ∃ p n c, nv = .slice p n c) := ⟨hnow, by obtain ⟨p, cap, e, _⟩ := hnow.now; exact ⟨p, _, cap, e⟩⟩
  have HB : Hid (m.steps + 50000 < 1099511627775 ∧ dims ≤ 999999900 ∧ gd < w.heap.size ∧ gw < w.heap.size) := ⟨hst, hdm, h.dk.row.lt, h.wal.row.lt⟩
  have HSL : Hid (∃ p n c, txv = .slice p n c) := ⟨tp, tn, tc, htx⟩
  obtain ⟨PQ, hPQ⟩ : ∃ PQ : Ending → World → Prop, PQ = fun (e : Ending) (w' : World) => e = .returned (.bool true) ∧ ∃ c' gw' m' S' E' D' nv' dims', Done T w c t gd gw g m ds ts i n dims w' c' gw' m' S' E' D' nv' dims' := ⟨_, rfl⟩
  have HPQ : Hid (PQ = fun (e : Ending) (w' : World) => e = .returned (.bool true) ∧ ∃ c' gw' m' S' E' D' nv' dims', Done T w c t gd gw g m ds ts i n dims w' c' gw' m' S' E' D' nv' dims') := hPQ
  rw [← hPQ]
  -- an opening, and a boot and an opening, from a state of the desk's
  have HOP : Hid (∀ (w1 : World) (c1 : Nat → Colour) (m1 : Pl) (mv : Value) (l : List (Value × List (List (List Nat)) × List Value)) (D1 : List (List (List Nat))), (∀ b, b < w.heap.size → c1 b = c b) → Ch (fun b => (c b).1 = t ∨ b = gd ∨ b = gw) w w1 → Dk T w1 c1 t gd g m1 ds ts i n (ptr gw) nv (costs D) dims → Rel m m1 i → m1.steps ≤ m.steps + 100 → Jc m1 i n D1 → KeepX w1 (Fr2 T c1 t gd) (.slice kp kn kc) ks → Rob (Fr2 T c1 t gd) (fun W => MayIn W mv l) w1 → Among D1 (l.map (·.2.1)) → Calls Tryd.prog 10 #[ptr gd, .slice kp kn kc, mv] w1 fun e w' => e = .returned (.bool true) ∧ PQ e w') := fun w1 c1 m1 mv l D1 hcc hch hdk hrl hs hj hk hm ha => by
    refine (opened_any hdk hj (by omega) (by omega) hk hm ha).mono ?_
    rintro e w' ⟨rfl, c', gw', m', S', E', nv', dims', hO⟩
    refine ⟨rfl, ?_⟩
    rw [hPQ]
    exact ⟨rfl, c', gw', m', S', E', D1, nv', dims', hO.done hcc hch hrl h.dk.row.lt (by omega) (by omega)⟩
  have HDA : Hid (∀ (w1 : World) (c1 : Nat → Colour) (m1 : Pl) (mv : Value) (l : List (Value × List (List (List Nat)) × List Value)) (D1 : List (List (List Nat))), (∀ b, b < w.heap.size → c1 b = c b) → Ch (fun b => (c b).1 = t ∨ b = gd ∨ b = gw) w w1 → Dk T w1 c1 t gd g m1 ds ts i n (ptr gw) nv (costs D) dims → Rel m m1 i → m1.steps ≤ m.steps + 100 → m1.on = false → Jc (m1.boot ks) i n D1 → KeepX w1 (Fr2 T c1 t gd) (.slice kp kn kc) ks → Rob (Fr2 T c1 t gd) (fun W => MayIn W mv l) w1 → Among D1 (l.map (·.2.1)) → Calls Tryd.prog 19 #[ptr gd, .slice kp kn kc, mv] w1 fun e w' => e = .returned (.bool true) ∧ PQ e w') := fun w1 c1 m1 mv l D1 hcc hch hdk hrl hs hof hj hk hm ha => by
    refine (dark_any hdk hof (by omega) (by omega) hj hk hm ha).mono ?_
    rintro e w' ⟨rfl, c', gw', m', S', E', nv', dims', hO⟩
    refine ⟨rfl, ?_⟩
    rw [hPQ]
    exact ⟨rfl, c', gw', m', S', E', D1, nv', dims', hO.done hcc hch hrl h.dk.row.lt (by omega) (by omega)⟩
  clear hPQ h ho hnow hst hdm htx
  go_enter Tryd.func9, Tryd.ntmps9
  go_upto_region 0 with fail
  refine wp_region_lit ?_
  refine wpList_box (.tmp 1) rfl rfl (opCells k N txv (.slice kp kn kc)) rfl ?_
  intro w1 r1 s1 b1
  obtain ⟨gop, hgop⟩ : ∃ gop, gop = w.heap.size := ⟨_, rfl⟩
  rw [← hgop] at r1 s1 ⊢
  have R1 : Hid (Row w1 gop 31 (opCells k N txv (.slice kp kn kc)) ∧ Below w.heap.size w w1 ∧ w.heap.size ≤ gop ∧ Desk T w1 c t gd gw g m ds ts i n S E D nv dims) := ⟨r1, b1, by omega, HI.out.below b1⟩
  clear r1 s1 b1 hgop
  simp only [Act.put, aS, aC, aZ]
  refine wl_as (.const (.bool false)) rfl rfl (.bool false) rfl ?_
  simp only [Act.put, aS, aC, aZ]
  refine wpList_nil ?_
  obtain ⟨q, hq⟩ : ∃ q, q = whichOf k 12 := ⟨_, rfl⟩
  have HWH : Hid (Calls Tryd.prog 8 #[.int .i64 k, .int .i64 12] w1 fun e w' => e = .returned (.int .i64 (q : Nat)) ∧ w1 = w') := by rw [hq]; exact which_any w1 k 12 (by decide) HO.out.k.1 HO.out.k.2
  have hq12 : q < 12 := by rw [hq]; exact whichOf_lt k 12 (by decide)
  clear hq
  go_upto_region 1 with fail
  refine wp_region_lit ?_
  refine wl_fld f33_0 (.tmp 3) rfl rfl gop 0 rfl ?_
  simp only [Act.put, aS, aC, aZ]
  refine wl_ld o3' (.tmp 6) rfl rfl gop (0 + 0) rfl (.int .i64 k) (R1.out.1.at 0 _ rfl) ?_
  simp only [Act.put, aS, aC, aZ]
  refine wpList_callF eN10 [.tmp 7, .const (.int .i64 12)] _ rfl rfl [.int .i64 k, .int .i64 12] rfl ?_
  refine HWH.out.mono ?_
  rintro e wx ⟨rfl, hwx⟩
  subst hwx
  refine ⟨_, rfl, ?_⟩
  simp only [Act.put, aS, aC, aZ]
  refine wpList_nil ?_
  clear HWH
  rcases (show q = 7 ∨ q = 8 ∨ q = 9 ∨ q = 10 ∨ q = 11 ∨ (q ≠ 7 ∧ q ≠ 8 ∧ q ≠ 9 ∧ q ≠ 10 ∧ q ≠ 11) by omega) with hq | hq | hq | hq | hq | hq
  · subst hq
    obtain ⟨T, hT⟩ : ∃ T, T = m.trunc (i : Int) S := ⟨_, rfl⟩
    have hTC := trunc_cases R1.out.2.2.2.jo (by have := HB.out.1; omega)
    rw [← hT] at hTC
    have HTR : Hid (Calls Tryd.prog 13 #[ptr gw] w1 fun e w' => e = .returned (.int .i64 T.1) ∧ ∃ c', (∀ b, b < w1.heap.size → c' b = c b) ∧ Live w' c' t g T.2 ∧ Ch (fun b => (c b).1 = t ∨ b = gw) w1 w' ∧ WalAt w' c' t gw g (i : Int) (if T.1 = 0 then S + 1 else S) (if T.1 = 0 then 0 else E)) := by
      rw [hT]
      refine truncate_any R1.out.2.2.2.dk.live (i : Int) S E ?_ R1.out.2.2.2.wal (by have := HB.out.1; omega)
      obtain ⟨F, rows, hJ, _⟩ := R1.out.2.2.2.jo
      exact hJ.lt (by have := HB.out.1; omega)
    have HTC : Hid ((∃ M, T = (0, M) ∧ Jo M i n (S + 1) 0 [] ∧ Rel m M i ∧ M.steps ≤ m.steps + 2) ∨ (∃ M, T = (2, M) ∧ M.on = false ∧ Rel m M i ∧ M.steps ≤ m.steps + 2 ∧ ∀ ks, Jc (M.boot ks) i n D ∨ Jc (M.boot ks) i n [])) := hTC
    obtain ⟨er, M⟩ := T
    clear hT hTC
    go_upto_region 4 with fail
    refine wp_region_lit ?_
    refine wl_mv (.tmp 0) rfl rfl (ptr gd) rfl ?_
    simp only [Act.put, aS, aC, aZ]
    refine wl_nil (.tmp 14) rfl rfl ⟨gd, 0, none⟩ rfl ?_
    simp only [Act.put, aS, aC, aZ]
    refine wl_fld f40_2 (.tmp 15) rfl rfl gd 0 rfl ?_
    simp only [Act.put, aS, aC, aZ]
    refine wl_ld o37 (.tmp 16) rfl rfl gd (0 + 2) rfl (ptr gw) (R1.out.2.2.2.dk.row.at 2 _ rfl) ?_
    simp only [Act.put, aS, aC, aZ]
    refine wpList_callF eN25 [.tmp 17] _ rfl rfl [(ptr gw)] rfl ?_
    refine HTR.out.mono ?_
    rintro e w2 ⟨rfl, c2, q1, q2, q3, q4⟩
    refine ⟨_, rfl, ?_⟩
    have hgc : (c gop).1 ≠ t := HI.out.dk.live.2.2 gop R1.out.2.2.1
    have hsh : M.sh = m.sh := by
      rcases HTC.out with ⟨M', e, _, r, _⟩ | ⟨M', e, _, r, _⟩
      · injection e with _ e; rw [e]; exact r.sh
      · injection e with _ e; rw [e]; exact r.sh
    have hch : Ch (fun b => (c b).1 = t ∨ b = gw) w w2 := (Ch.of_below R1.out.2.1).trans q3
    have hcc : ∀ b, b < w.heap.size → c2 b = c b := fun b hb => q1 b (Nat.lt_of_lt_of_le hb R1.out.2.1.size)
    have hk2 : ∀ b, b < w.heap.size → Fr3 T c t gd gw b → w2.heap[b]? = w.heap[b]? ∧ Fr3 T c2 t gd gw b := fun b hb hp => ⟨hch.block b hb (fun e => e.elim hp.1 hp.2.2.1), by rw [hcc b hb]; exact hp.1, hp.2⟩
    have R2 : Hid (Dk T w2 c2 t gd g M ds ts i n (ptr gw) nv (costs D) dims ∧ Row w2 gop 31 (opCells k N txv (.slice kp kn kc)) ∧ (∀ b, b < w.heap.size → c2 b = c b) ∧ Ch (fun b => (c b).1 = t ∨ b = gw) w w2 ∧ WalAt w2 c2 t gw g (i : Int) (if er = 0 then S + 1 else S) (if er = 0 then 0 else E) ∧ Rob (Fr3 T c2 t gd gw) (fun W => TxsC W nv D us) w2 ∧ KeepX w2 (Fr3 T c2 t gd gw) (.slice kp kn kc) ks) := ⟨R1.out.2.2.2.dk.wx q1 q2 q3 hsh HI.out.ne HI.out.wal.ne0, q3.row (fun e => e.elim hgc (fun e => by have := HB.out.2.2.2; have := R1.out.2.2.1; omega)) R1.out.1, hcc, hch, q4, HNOW.out.1.next hch.size hk2, HKP.out.next hch.size hk2⟩
    clear q1 q2 q3 q4 hgc hsh hch hcc hk2 HTR
    simp only [Act.put, aS, aC, aZ]
    refine wl_as (.tmp 18) rfl rfl (.int .i64 er) rfl ?_
    simp only [Act.put, aS, aC, aZ]
    refine wpList_nil ?_
    rcases HTC.out with ⟨M2, he, hj, hrl, hs⟩ | ⟨M2, he, hof, hrl, hs, hb⟩
    · injection he with h1 h2
      subst h1 h2
      have HJ : Hid (Jo M i n (S + 1) 0 [] ∧ Rel m M i ∧ M.steps ≤ m.steps + 2) := ⟨hj, hrl, hs⟩
      clear hj hrl hs
      go_upto_region 7 with fail
      refine wp_region_lit ?_
      refine wl_mv (.tmp 0) rfl rfl (ptr gd) rfl ?_
      simp only [Act.put, aS, aC, aZ]
      refine wl_nil (.tmp 31) rfl rfl ⟨gd, 0, none⟩ rfl ?_
      simp only [Act.put, aS, aC, aZ]
      refine wl_fld f40_3 (.tmp 32) rfl rfl gd 0 rfl ?_
      simp only [Act.put, aS, aC, aZ]
      refine wl_put s38 (.tmp 33) (.const (.slice none 0 0)) rfl rfl rfl gd (0 + 3) 38 (dkCells g i (ptr gw) nv (costs D) n dims) rfl (.slice none 0 0) rfl ⟨rfl, rfl⟩ R2.out.1.row (show 0 + 3 < 7 by decide) ?_
      refine wpList_nil ?_
      obtain ⟨w3, hw3⟩ : ∃ w3, w3 = w2.setCell ⟨gd, 0 + 3, none⟩ (.slice none 0 0) := ⟨_, rfl⟩
      have hset := R2.out.1.set (0 + 3) (.slice none 0 0) (wv' := ptr gw) (nv' := .slice none 0 0) (cost' := costs D) (dims' := dims) rfl R2.out.1.dim
      rw [← hw3] at hset
      rw [← hw3]
      have R3 : Hid (Dk T w3 c2 t gd g M ds ts i n (ptr gw) (.slice none 0 0) (costs D) dims ∧ Ch (· = gd) w2 w3) := hset
      clear hset hw3
      go_upto_region 8 with fail
      refine wp_region_lit ?_
      refine wl_mv (.tmp 0) rfl rfl (ptr gd) rfl ?_
      simp only [Act.put, aS, aC, aZ]
      refine wl_nil (.tmp 34) rfl rfl ⟨gd, 0, none⟩ rfl ?_
      simp only [Act.put, aS, aC, aZ]
      refine wl_fld f40_4 (.tmp 35) rfl rfl gd 0 rfl ?_
      simp only [Act.put, aS, aC, aZ]
      refine wl_put s3 (.tmp 36) (.const (.int .i64 0)) rfl rfl rfl gd (0 + 4) 38 (dkCells g i (ptr gw) (.slice none 0 0) (costs D) n dims) rfl (.int .i64 ((0 : Nat) : Int)) rfl ⟨rfl, rfl⟩ R3.out.1.row (show 0 + 4 < 7 by decide) ?_
      refine wpList_nil ?_
      obtain ⟨w4, hw4⟩ : ∃ w4, w4 = w3.setCell ⟨gd, 0 + 4, none⟩ (.int .i64 ((0 : Nat) : Int)) := ⟨_, rfl⟩
      have hset := R3.out.1.set (0 + 4) (.int .i64 ((0 : Nat) : Int)) (wv' := ptr gw) (nv' := .slice none 0 0) (cost' := 0) (dims' := dims) rfl R3.out.1.dim
      rw [← hw4] at hset
      rw [← hw4]
      have HD : Hid (Done T w c t gd gw g m ds ts i n dims w4 c2 gw M (S + 1) 0 [] (.slice none 0 0) dims) := by
        have hcg : Ch (· = gd) w2 w4 := R3.out.2.trans hset.2
        have hwl := R2.out.2.2.2.2.1
        rw [if_pos rfl, if_pos rfl] at hwl
        refine ⟨⟨hset.1, ⟨hcg.row (fun e => HI.out.ne e.symm) hwl.row, hwl.ap, hset.1.tab, hwl.tap⟩, HI.out.ne, HJ.out.1, [], fun W _ _ => TxsC.nil W⟩, R2.out.2.2.1, ?_, Or.inl rfl, HJ.out.2.1, by have := HJ.out.2.2; omega, by omega⟩
        exact (R2.out.2.2.2.1.mono fun b _ e => e.elim Or.inl (fun e => Or.inr (Or.inr e))).trans (hcg.mono fun b _ e => Or.inr (Or.inl e))
      clear hset hw4 R3
      go_wp2_with fail
      rw [HPQ.out]
      exact ⟨rfl, c2, gw, M, S + 1, 0, [], _, dims, HD.out⟩
    · injection he with h1 h2
      subst h1 h2
      have HJ : Hid (M.on = false ∧ Rel m M i ∧ M.steps ≤ m.steps + 2 ∧ (Jc (M.boot ks) i n D ∨ Jc (M.boot ks) i n [])) := ⟨hof, hrl, hs, hb ks⟩
      clear hof hrl hs hb
      go_upto_region 6 with fail
      refine wp_region_until (S := fun X => Row X gd 38 (dkCells g i (ptr gw) nv (costs D) n dims) ∧ Row X gop 31 (opCells k N txv (.slice kp kn kc))) 9 (by kernel_rfl) ?_
      show wpAnyU _ _ _ _ _ _ 11 (Array.replicate 11 false) _ _
      obtain ⟨Y, hX⟩ : ∃ Y : World, Y = { w2 with drawn := w2.drawn + 1 } := ⟨_, rfl⟩
      rw [← hX]
      have hbX : Below w2.heap.size w2 Y := by rw [hX]; exact ⟨rfl, rfl, rfl, Nat.le_refl _, fun _ _ => rfl⟩
      have RY : Hid (Dk T Y c2 t gd g M ds ts i n (ptr gw) nv (costs D) dims ∧ Row Y gop 31 (opCells k N txv (.slice kp kn kc)) ∧ Below w2.heap.size w2 Y) := ⟨R2.out.1.below hbX, R2.out.2.1.later hbX R2.out.2.1.lt, hbX⟩
      have hS0 : Row Y gd 38 (dkCells g i (ptr gw) nv (costs D) n dims) ∧ Row Y gop 31 (opCells k N txv (.slice kp kn kc)) := ⟨RY.out.1.row, RY.out.2.1⟩
      clear hbX
      clear hX
      refine takeV (i := 0) [9] (some 21) rfl rfl (by kernel_rfl) (by kernel_rfl) (by kernel_rfl) (by kernel_rfl) (fun _ _ _ h => h) (gMove rfl (.tmp 0) rfl (ptr gd) rfl) hS0 ?_
      simp only [Act.put, aS, aC, aZ]
      refine takeV (i := 1) [2, 9] (some 22) rfl rfl (by kernel_rfl) (by kernel_rfl) (by kernel_rfl) (by kernel_rfl) (fun _ _ _ h => h) (gField f33_3 rfl (.tmp 3) rfl gop 0 rfl) hS0 ?_
      simp only [Act.put, aS, aC, aZ]
      refine takeV (i := 2) [9] (some 23) rfl rfl (by kernel_rfl) (by kernel_rfl) (by kernel_rfl) (by kernel_rfl) (fun _ _ _ h => h) (gLoad o31 rfl (.tmp 22) rfl gop (0 + 3) rfl (.slice kp kn kc) (fun _ h => (h.2.at 3 _ rfl))) hS0 ?_
      simp only [Act.put, aS, aC, aZ]
      refine takeV (i := 3) [4, 5, 6, 8, 9] (some 24) rfl rfl (by kernel_rfl) (by kernel_rfl) (by kernel_rfl) (by kernel_rfl) (fun _ _ _ h => h) (gMove rfl (.tmp 0) rfl (ptr gd) rfl) hS0 ?_
      simp only [Act.put, aS, aC, aZ]
      refine takeV (i := 4) [5, 6, 8, 9] (some 25) rfl rfl (by kernel_rfl) (by kernel_rfl) (by kernel_rfl) (by kernel_rfl) (fun _ _ _ h => h) (nilOp rfl (.tmp 24) rfl ⟨gd, 0, none⟩ rfl) hS0 ?_
      simp only [Act.put, aS, aC, aZ]
      refine takeV (i := 5) [6, 8, 9] (some 26) rfl rfl (by kernel_rfl) (by kernel_rfl) (by kernel_rfl) (by kernel_rfl) (fun _ _ _ h => h) (gField f40_3 rfl (.tmp 25) rfl gd 0 rfl) hS0 ?_
      simp only [Act.put, aS, aC, aZ]
      refine takeV (i := 6) [8, 9] (some 27) rfl rfl (by kernel_rfl) (by kernel_rfl) (by kernel_rfl) (by kernel_rfl) (fun _ _ _ h => h) (gLoad o38 rfl (.tmp 26) rfl gd (0 + 3) rfl nv (fun _ h => (h.1.at 3 _ rfl))) hS0 ?_
      simp only [Act.put, aS, aC, aZ]
      clear hS0
      refine oneU (i := 7) (by kernel_rfl) ?_
      refine opValue (some 28) rfl rfl rfl _ _ (run_lit38z rfl) ?_
      obtain ⟨Y2, hY2⟩ : ∃ Y2, Y2 = Y.alloc (.cells #[] 28) := ⟨_, rfl⟩
      obtain ⟨gn, hgn⟩ : ∃ gn, gn = Y.heap.size := ⟨_, rfl⟩
      rw [← hY2, ← hgn]
      have b2 : Below Y.heap.size Y Y2 := by rw [hY2]; exact below_alloc Y _
      have RY2 : Hid (Dk T Y2 c2 t gd g M ds ts i n (ptr gw) nv (costs D) dims ∧ Row Y2 gop 31 (opCells k N txv (.slice kp kn kc)) ∧ Below w2.heap.size w2 Y2) := ⟨RY.out.1.below b2, RY.out.2.1.later b2 RY.out.2.1.lt, RY.out.2.2.trans (b2.mono RY.out.2.2.size)⟩
      have hS0 : Row Y2 gd 38 (dkCells g i (ptr gw) nv (costs D) n dims) ∧ Row Y2 gop 31 (opCells k N txv (.slice kp kn kc)) := ⟨RY2.out.1.row, RY2.out.2.1⟩
      clear hY2 hgn b2 RY
      refine ⟨fun _ => hS0, ?_⟩
      simp only [Act.put, aS, aC, aZ]
      clear hS0
      refine oneU (i := 8) (by kernel_rfl) ?_
      refine opValue (some 29) rfl rfl rfl _ _ (run_lit41_2 (.tmp 27) (.tmp 28) rfl nv (.slice (some ⟨gn, 0, none⟩) 0 0) HNOW.out.2 ⟨_, _, _, rfl⟩ rfl rfl) ?_
      obtain ⟨Y3, hY3⟩ : ∃ Y3, Y3 = Y2.alloc (.cells #[nv, .slice (some ⟨gn, 0, none⟩) 0 0] 36) := ⟨_, rfl⟩
      obtain ⟨gm, hgm⟩ : ∃ gm, gm = Y2.heap.size := ⟨_, rfl⟩
      have b3 : Below Y2.heap.size Y2 Y3 := by rw [hY3]; exact below_alloc Y2 _
      have hmay := may_new (w := Y2) (P := Fr2 T c2 t gd) (l := [(nv, D, us), (.slice (some ⟨gn, 0, none⟩) 0 0, [], [])]) (by
        intro x hx
        rcases List.mem_cons.1 hx with e | e
        · rw [e]; exact (R2.out.2.2.2.2.2.1.below RY2.out.2.2).next (Nat.le_refl _) fun b hb hp => ⟨rfl, hp.1, hp.2.1, hp.2.2.2⟩
        · rw [List.mem_singleton.1 e]; exact fun W _ _ => TxsC.none W _ _) (by simp) ⟨RY2.out.1.live.2.2 _ (Nat.le_refl _), (by have := RY2.out.1.row.lt; omega), fun e => by have := RY2.out.1.str _ e; omega⟩
      have hmay2 : Rob (Fr2 T c2 t gd) (fun W => MayIn W (.slice (some ⟨gm, 0, none⟩) 2 2) [(nv, D, us), (.slice (some ⟨gn, 0, none⟩) 0 0, [], [])]) Y3 := by rw [hY3, hgm]; exact hmay
      rw [← hY3, ← hgm]
      have RY3 : Hid (Dk T Y3 c2 t gd g M ds ts i n (ptr gw) nv (costs D) dims ∧ Row Y3 gop 31 (opCells k N txv (.slice kp kn kc)) ∧ Below w2.heap.size w2 Y3 ∧ Rob (Fr2 T c2 t gd) (fun W => MayIn W (.slice (some ⟨gm, 0, none⟩) 2 2) [(nv, D, us), (.slice (some ⟨gn, 0, none⟩) 0 0, [], [])]) Y3) := ⟨RY2.out.1.below b3, RY2.out.2.1.later b3 RY2.out.2.1.lt, RY2.out.2.2.trans (b3.mono RY2.out.2.2.size), hmay2⟩
      have hS0 : Row Y3 gd 38 (dkCells g i (ptr gw) nv (costs D) n dims) ∧ Row Y3 gop 31 (opCells k N txv (.slice kp kn kc)) := ⟨RY3.out.1.row, RY3.out.2.1⟩
      clear hY3 hgm b3 hmay hmay2 RY2
      refine ⟨fun _ => hS0, ?_⟩
      simp only [Act.put, aS, aC, aZ]
      clear hS0
      have HCL : Hid (Calls Tryd.prog 19 #[ptr gd, .slice kp kn kc, .slice (some ⟨gm, 0, none⟩) 2 2] Y3 fun e w' => e = .returned (.bool true) ∧ PQ e w') := by
        have hch : Ch (fun b => (c b).1 = t ∨ b = gd ∨ b = gw) w Y3 := (R2.out.2.2.2.1.mono fun b _ e => e.elim Or.inl (fun e => Or.inr (Or.inr e))).trans (Ch.of_below RY3.out.2.2.1)
        have hk : KeepX Y3 (Fr2 T c2 t gd) (.slice kp kn kc) ks := (R2.out.2.2.2.2.2.2.below RY3.out.2.2.1).next (Nat.le_refl _) fun b hb hp => ⟨rfl, hp.1, hp.2.1, hp.2.2.2⟩
        rcases HJ.out.2.2.2 with hj | hj
        · exact HDA.out Y3 c2 M _ _ D R2.out.2.2.1 hch RY3.out.1 HJ.out.2.1 (by have := HJ.out.2.2.1; omega) HJ.out.1 hj hk RY3.out.2.2.2 (Or.inl rfl)
        · by_cases e0 : D = []
          · exact HDA.out Y3 c2 M _ _ [] R2.out.2.2.1 hch RY3.out.1 HJ.out.2.1 (by have := HJ.out.2.2.1; omega) HJ.out.1 hj hk RY3.out.2.2.2 (Or.inl e0)
          · exact HDA.out Y3 c2 M _ _ [] R2.out.2.2.1 hch RY3.out.1 HJ.out.2.1 (by have := HJ.out.2.2.1; omega) HJ.out.1 hj hk RY3.out.2.2.2 (Or.inr ⟨fun h => e0 (List.length_eq_zero_iff.1 h), Or.inl rfl⟩)
      refine oneU (i := 9) (by kernel_rfl) ?_
      refine opCallA (some 30) rfl rfl rfl 19 _ (run_call eN28 [.tmp 21, .tmp 23, .tmp 29] _ rfl [ptr gd, .slice kp kn kc, .slice (some ⟨gm, 0, none⟩) 2 2] rfl) ?_
      refine HCL.out.mono ?_
      rintro e wz ⟨rfl, hQ⟩
      have HQ : Hid (PQ (.returned (.bool true)) wz) := hQ
      clear hQ HCL RY3
      refine ⟨_, rfl, ?_⟩
      refine ⟨fun h => absurd (show true = false from h) (by decide), ?_⟩
      simp only [Act.put, aS, aC, aZ]
      refine oneU (i := 10) (by kernel_rfl) ?_
      refine opValue (some 4) rfl rfl rfl (.bool true) _ (run_asZ (.tmp 30) rfl (.bool true) rfl) ?_
      refine ⟨fun h => absurd (show true = false from h) (by decide), ?_⟩
      simp only [Act.put, aS, aC, aZ]
      refine wpAnyU_done (by kernel_rfl) ?_ _
      go_wp2_with fail
      exact HQ.out
  · subst hq
    have RF : Hid (Dk T w1 c t gd g m ds ts i n (ptr gw) nv (costs D) dims ∧ Row w1 gop 31 (opCells k N txv (.slice kp kn kc)) ∧ (∀ b, b < w.heap.size → c b = c b) ∧ Ch (fun b => (c b).1 = t ∨ b = gd ∨ b = gw) w w1 ∧ Rel m m i ∧ m.steps ≤ m.steps + 100 ∧ Jc m i n D ∧ Rob (Fr2 T c t gd) (fun W => TxsC W nv D us) w1 ∧ KeepX w1 (Fr2 T c t gd) (.slice kp kn kc) ks) := ⟨R1.out.2.2.2.dk, R1.out.1, fun _ _ => rfl, Ch.of_below R1.out.2.1, Rel.refl m i, by omega, R1.out.2.2.2.jo.jc, (HNOW.out.1.below R1.out.2.1).next (Nat.le_refl _) fun b hb hp => ⟨rfl, hp.1, hp.2.1, hp.2.2.2⟩, (HKP.out.below R1.out.2.1).next (Nat.le_refl _) fun b hb hp => ⟨rfl, hp.1, hp.2.1, hp.2.2.2⟩⟩
    go_upto_region 11 with fail
    refine wp_region_until (S := fun X => Row X gd 38 (dkCells g i (ptr gw) nv (costs D) n dims) ∧ Row X gop 31 (opCells k N txv (.slice kp kn kc))) 8 (by kernel_rfl) ?_
    show wpAnyU _ _ _ _ _ _ 10 (Array.replicate 10 false) _ _
    obtain ⟨Y, hX⟩ : ∃ Y : World, Y = { w1 with drawn := w1.drawn + 1 } := ⟨_, rfl⟩
    rw [← hX]
    have hbX : Below w1.heap.size w1 Y := by rw [hX]; exact ⟨rfl, rfl, rfl, Nat.le_refl _, fun _ _ => rfl⟩
    have RY : Hid (Dk T Y c t gd g m ds ts i n (ptr gw) nv (costs D) dims ∧ Row Y gop 31 (opCells k N txv (.slice kp kn kc)) ∧ Below w1.heap.size w1 Y) := ⟨RF.out.1.below hbX, RF.out.2.1.later hbX RF.out.2.1.lt, hbX⟩
    have hS0 : Row Y gd 38 (dkCells g i (ptr gw) nv (costs D) n dims) ∧ Row Y gop 31 (opCells k N txv (.slice kp kn kc)) := ⟨RY.out.1.row, RY.out.2.1⟩
    clear hbX
    clear hX
    refine takeV (i := 0) [8] (some 41) rfl rfl (by kernel_rfl) (by kernel_rfl) (by kernel_rfl) (by kernel_rfl) (fun _ _ _ h => h) (gMove rfl (.tmp 0) rfl (ptr gd) rfl) hS0 ?_
    simp only [Act.put, aS, aC, aZ]
    refine takeV (i := 1) [2, 8] (some 42) rfl rfl (by kernel_rfl) (by kernel_rfl) (by kernel_rfl) (by kernel_rfl) (fun _ _ _ h => h) (gField f33_3 rfl (.tmp 3) rfl gop 0 rfl) hS0 ?_
    simp only [Act.put, aS, aC, aZ]
    refine takeV (i := 2) [8] (some 43) rfl rfl (by kernel_rfl) (by kernel_rfl) (by kernel_rfl) (by kernel_rfl) (fun _ _ _ h => h) (gLoad o31 rfl (.tmp 42) rfl gop (0 + 3) rfl (.slice kp kn kc) (fun _ h => (h.2.at 3 _ rfl))) hS0 ?_
    simp only [Act.put, aS, aC, aZ]
    refine takeV (i := 3) [4, 5, 6, 7, 8] (some 44) rfl rfl (by kernel_rfl) (by kernel_rfl) (by kernel_rfl) (by kernel_rfl) (fun _ _ _ h => h) (gMove rfl (.tmp 0) rfl (ptr gd) rfl) hS0 ?_
    simp only [Act.put, aS, aC, aZ]
    refine takeV (i := 4) [5, 6, 7, 8] (some 45) rfl rfl (by kernel_rfl) (by kernel_rfl) (by kernel_rfl) (by kernel_rfl) (fun _ _ _ h => h) (nilOp rfl (.tmp 44) rfl ⟨gd, 0, none⟩ rfl) hS0 ?_
    simp only [Act.put, aS, aC, aZ]
    refine takeV (i := 5) [6, 7, 8] (some 46) rfl rfl (by kernel_rfl) (by kernel_rfl) (by kernel_rfl) (by kernel_rfl) (fun _ _ _ h => h) (gField f40_3 rfl (.tmp 45) rfl gd 0 rfl) hS0 ?_
    simp only [Act.put, aS, aC, aZ]
    refine takeV (i := 6) [7, 8] (some 47) rfl rfl (by kernel_rfl) (by kernel_rfl) (by kernel_rfl) (by kernel_rfl) (fun _ _ _ h => h) (gLoad o38 rfl (.tmp 46) rfl gd (0 + 3) rfl nv (fun _ h => (h.1.at 3 _ rfl))) hS0 ?_
    simp only [Act.put, aS, aC, aZ]
    clear hS0
    refine oneU (i := 7) (by kernel_rfl) ?_
    refine opValue (some 48) rfl rfl rfl _ _ (run_lit41_1 (.tmp 47) rfl nv HNOW.out.2 rfl) ?_
    obtain ⟨Y3, hY3⟩ : ∃ Y3, Y3 = Y.alloc (.cells #[nv] 36) := ⟨_, rfl⟩
    obtain ⟨gm, hgm⟩ : ∃ gm, gm = Y.heap.size := ⟨_, rfl⟩
    have b3 : Below Y.heap.size Y Y3 := by rw [hY3]; exact below_alloc Y _
    have hmay2 : Rob (Fr2 T c t gd) (fun W => MayIn W (.slice (some ⟨gm, 0, none⟩) 1 1) [(nv, D, us)]) Y3 := by
      rw [hY3, hgm]
      exact may_one (RF.out.2.2.2.2.2.2.2.1.below RY.out.2.2) (RY.out.1.live.2.2 _ (Nat.le_refl _)) RY.out.1.row.lt (fun e => by have := RY.out.1.str _ e; omega)
    rw [← hY3, ← hgm]
    have RY3 : Hid (Dk T Y3 c t gd g m ds ts i n (ptr gw) nv (costs D) dims ∧ Row Y3 gop 31 (opCells k N txv (.slice kp kn kc)) ∧ Below w1.heap.size w1 Y3 ∧ Rob (Fr2 T c t gd) (fun W => MayIn W (.slice (some ⟨gm, 0, none⟩) 1 1) [(nv, D, us)]) Y3) := ⟨RY.out.1.below b3, RY.out.2.1.later b3 RY.out.2.1.lt, RY.out.2.2.trans (b3.mono RY.out.2.2.size), hmay2⟩
    have hS0 : Row Y3 gd 38 (dkCells g i (ptr gw) nv (costs D) n dims) ∧ Row Y3 gop 31 (opCells k N txv (.slice kp kn kc)) := ⟨RY3.out.1.row, RY3.out.2.1⟩
    clear hY3 hgm b3 hmay2 RY
    refine ⟨fun _ => hS0, ?_⟩
    simp only [Act.put, aS, aC, aZ]
    clear hS0
    have HCL : Hid (Calls Tryd.prog 10 #[ptr gd, .slice kp kn kc, .slice (some ⟨gm, 0, none⟩) 1 1] Y3 fun e w' => e = .returned (.bool true) ∧ PQ e w') := HOP.out Y3 c m _ _ D RF.out.2.2.1 (RF.out.2.2.2.1.trans (Ch.of_below RY3.out.2.2.1)) RY3.out.1 RF.out.2.2.2.2.1 RF.out.2.2.2.2.2.1 RF.out.2.2.2.2.2.2.1 (RF.out.2.2.2.2.2.2.2.2.below RY3.out.2.2.1) RY3.out.2.2.2 (Or.inl rfl)
    refine oneU (i := 8) (by kernel_rfl) ?_
    refine opCallA (some 49) rfl rfl rfl 10 _ (run_call eN16 [.tmp 41, .tmp 43, .tmp 48] _ rfl [ptr gd, .slice kp kn kc, .slice (some ⟨gm, 0, none⟩) 1 1] rfl) ?_
    refine HCL.out.mono ?_
    rintro e wz ⟨rfl, hQ⟩
    have HQ : Hid (PQ (.returned (.bool true)) wz) := hQ
    clear hQ HCL RY3
    refine ⟨_, rfl, ?_⟩
    refine ⟨fun h => absurd (show true = false from h) (by decide), ?_⟩
    simp only [Act.put, aS, aC, aZ]
    refine oneU (i := 9) (by kernel_rfl) ?_
    refine opValue (some 4) rfl rfl rfl (.bool true) _ (run_asZ (.tmp 49) rfl (.bool true) rfl) ?_
    refine ⟨fun h => absurd (show true = false from h) (by decide), ?_⟩
    simp only [Act.put, aS, aC, aZ]
    refine wpAnyU_done (by kernel_rfl) ?_ _
    go_wp2_with fail
    exact HQ.out
  · subst hq
    go_upto_region 13 with fail
    refine wp_region_held (S := fun X => Row X gd 38 (dkCells g i (ptr gw) nv (costs D) n dims) ∧ Row X gop 31 (opCells k N txv (.slice kp kn kc))) (by kernel_rfl) ?_
    show wpAnyH _ _ _ _ _ 7 (Array.replicate 7 false) _ _
    obtain ⟨X, hX⟩ : ∃ X : World, X = { w1 with drawn := w1.drawn + 1 } := ⟨_, rfl⟩
    rw [← hX]
    have hbX : Below w1.heap.size w1 X := by rw [hX]; exact ⟨rfl, rfl, rfl, Nat.le_refl _, fun _ _ => rfl⟩
    have RX : Hid (Below w.heap.size w X ∧ Row X gop 31 (opCells k N txv (.slice kp kn kc)) ∧ Desk T X c t gd gw g m ds ts i n S E D nv dims) := ⟨R1.out.2.1.trans (hbX.mono R1.out.2.1.size), R1.out.1.later hbX R1.out.1.lt, R1.out.2.2.2.below hbX⟩
    have hS0 : Row X gd 38 (dkCells g i (ptr gw) nv (costs D) n dims) ∧ Row X gop 31 (opCells k N txv (.slice kp kn kc)) := ⟨RX.out.2.2.dk.row, RX.out.2.1⟩
    clear hbX
    clear hX
    refine takeH (i := 0) (some 52) rfl rfl (by kernel_rfl) (by kernel_rfl) (by kernel_rfl) (fun _ _ _ h => h) (gMove rfl (.tmp 0) rfl (ptr gd) rfl) hS0 ?_
    simp only [Act.put, aS, aC, aZ]
    refine takeH (i := 1) (some 53) rfl rfl (by kernel_rfl) (by kernel_rfl) (by kernel_rfl) (fun _ _ _ h => h) (nilOp rfl (.tmp 52) rfl ⟨gd, 0, none⟩ rfl) hS0 ?_
    simp only [Act.put, aS, aC, aZ]
    refine takeH (i := 2) (some 54) rfl rfl (by kernel_rfl) (by kernel_rfl) (by kernel_rfl) (fun _ _ _ h => h) (gField f40_0 rfl (.tmp 53) rfl gd 0 rfl) hS0 ?_
    simp only [Act.put, aS, aC, aZ]
    refine takeH (i := 3) (some 55) rfl rfl (by kernel_rfl) (by kernel_rfl) (by kernel_rfl) (fun _ _ _ h => h) (gLoad o25 rfl (.tmp 54) rfl gd (0 + 0) rfl (ptr g) (fun _ h => (h.1.at 0 _ rfl))) hS0 ?_
    simp only [Act.put, aS, aC, aZ]
    refine takeH (i := 4) (some 56) rfl rfl (by kernel_rfl) (by kernel_rfl) (by kernel_rfl) (fun _ _ _ h => h) (gField f33_1 rfl (.tmp 3) rfl gop 0 rfl) hS0 ?_
    simp only [Act.put, aS, aC, aZ]
    refine takeH (i := 5) (some 57) rfl rfl (by kernel_rfl) (by kernel_rfl) (by kernel_rfl) (fun _ _ _ h => h) (gLoad o3' rfl (.tmp 56) rfl gop (0 + 1) rfl (.int .i64 N) (fun _ h => (h.2.at 1 _ rfl))) hS0 ?_
    simp only [Act.put, aS, aC, aZ]
    clear hS0
    refine oneH (i := 6) (by kernel_rfl) ?_
    refine opCallA (some 58) rfl rfl rfl 17 _ (run_call eN14 [.tmp 55, .tmp 57] _ rfl [ptr g, .int .i64 N] rfl) ?_
    refine (RX.out.2.2.dk.live.fuse N HO.out.n.1 HO.out.n.2).mono ?_
    rintro e w4 ⟨rfl, hnx⟩
    refine ⟨_, rfl, ?_⟩
    obtain ⟨c4, q1, q2, q3⟩ := hnx.nx
    have hgc : (c gop).1 ≠ t := HI.out.dk.live.2.2 gop R1.out.2.2.1
    have hch : Ch (fun b => (c b).1 = t) w w4 := (Ch.of_below RX.out.1).trans q3
    have hcc : ∀ b, b < w.heap.size → c4 b = c b := fun b hb => q1 b (Nat.lt_of_lt_of_le hb RX.out.1.size)
    have HD : Hid (Done T w c t gd gw g m ds ts i n dims w4 c4 gw (m.fuseTo N) S E D nv dims) := by
      refine ⟨⟨RX.out.2.2.dk.nx q1 q2 q3 (Rel.fuse m i N).sh, RX.out.2.2.wal.kept q1 q3, HI.out.ne, ?_, us, HNOW.out.1.next hch.size fun b hb hp => ⟨hch.block b hb hp.1, by rw [hcc b hb]; exact hp.1, hp.2⟩⟩, hcc, hch.mono fun b _ e => Or.inl e, Or.inl rfl, Rel.fuse m i N, by unfold Pl.fuseTo; split <;> (show m.steps ≤ _; omega), by omega⟩
      obtain ⟨F, rows, hJ, h2, h3⟩ := HI.out.jo
      exact ⟨F, rows, hJ.fuse N HO.out.n.1 HO.out.n.2, h2, h3⟩
    have hS4 : Row w4 gd 38 (dkCells g i (ptr gw) nv (costs D) n dims) ∧ Row w4 gop 31 (opCells k N txv (.slice kp kn kc)) := ⟨q3.row RX.out.2.2.dk.ap RX.out.2.2.dk.row, q3.row hgc RX.out.2.1⟩
    clear q1 q2 q3 hnx hgc hch hcc RX
    refine ⟨hS4, ?_⟩
    simp only [Act.put, aS, aC, aZ]
    clear hS4
    refine wpAnyH_done (by kernel_rfl) ?_ _
    go_wp2_with fail
    rw [HPQ.out]
    exact ⟨rfl, c4, gw, _, S, E, D, nv, dims, HD.out⟩
  · subst hq
    go_upto_region 15 with fail
    refine wp_region_held (S := fun X => Row X gd 38 (dkCells g i (ptr gw) nv (costs D) n dims) ∧ Row X gop 31 (opCells k N txv (.slice kp kn kc))) (by kernel_rfl) ?_
    show wpAnyH _ _ _ _ _ 7 (Array.replicate 7 false) _ _
    obtain ⟨X, hX⟩ : ∃ X : World, X = { w1 with drawn := w1.drawn + 1 } := ⟨_, rfl⟩
    rw [← hX]
    have hbX : Below w1.heap.size w1 X := by rw [hX]; exact ⟨rfl, rfl, rfl, Nat.le_refl _, fun _ _ => rfl⟩
    have RX : Hid (Below w.heap.size w X ∧ Row X gop 31 (opCells k N txv (.slice kp kn kc)) ∧ Desk T X c t gd gw g m ds ts i n S E D nv dims) := ⟨R1.out.2.1.trans (hbX.mono R1.out.2.1.size), R1.out.1.later hbX R1.out.1.lt, R1.out.2.2.2.below hbX⟩
    have hS0 : Row X gd 38 (dkCells g i (ptr gw) nv (costs D) n dims) ∧ Row X gop 31 (opCells k N txv (.slice kp kn kc)) := ⟨RX.out.2.2.dk.row, RX.out.2.1⟩
    clear hbX
    clear hX
    refine takeH (i := 0) (some 61) rfl rfl (by kernel_rfl) (by kernel_rfl) (by kernel_rfl) (fun _ _ _ h => h) (gMove rfl (.tmp 0) rfl (ptr gd) rfl) hS0 ?_
    simp only [Act.put, aS, aC, aZ]
    refine takeH (i := 1) (some 62) rfl rfl (by kernel_rfl) (by kernel_rfl) (by kernel_rfl) (fun _ _ _ h => h) (nilOp rfl (.tmp 61) rfl ⟨gd, 0, none⟩ rfl) hS0 ?_
    simp only [Act.put, aS, aC, aZ]
    refine takeH (i := 2) (some 63) rfl rfl (by kernel_rfl) (by kernel_rfl) (by kernel_rfl) (fun _ _ _ h => h) (gField f40_0 rfl (.tmp 62) rfl gd 0 rfl) hS0 ?_
    simp only [Act.put, aS, aC, aZ]
    refine takeH (i := 3) (some 64) rfl rfl (by kernel_rfl) (by kernel_rfl) (by kernel_rfl) (fun _ _ _ h => h) (gLoad o25 rfl (.tmp 63) rfl gd (0 + 0) rfl (ptr g) (fun _ h => (h.1.at 0 _ rfl))) hS0 ?_
    simp only [Act.put, aS, aC, aZ]
    refine takeH (i := 4) (some 65) rfl rfl (by kernel_rfl) (by kernel_rfl) (by kernel_rfl) (fun _ _ _ h => h) (gField f33_3 rfl (.tmp 3) rfl gop 0 rfl) hS0 ?_
    simp only [Act.put, aS, aC, aZ]
    refine takeH (i := 5) (some 66) rfl rfl (by kernel_rfl) (by kernel_rfl) (by kernel_rfl) (fun _ _ _ h => h) (gLoad o31 rfl (.tmp 65) rfl gop (0 + 3) rfl (.slice kp kn kc) (fun _ h => (h.2.at 3 _ rfl))) hS0 ?_
    simp only [Act.put, aS, aC, aZ]
    clear hS0
    refine oneH (i := 6) (by kernel_rfl) ?_
    refine opCallA (some 67) rfl rfl rfl 15 _ (run_call eN15 [.tmp 64, .tmp 66] _ rfl [ptr g, .slice kp kn kc] rfl) ?_
    refine (RX.out.2.2.dk.live.boot (by have := HB.out.1; omega) _ ks ((HKP.out.below RX.out.1).keep fun b hb hp => hp.1)).mono ?_
    rintro e w4 ⟨rfl, hnx⟩
    refine ⟨_, rfl, ?_⟩
    obtain ⟨c4, q1, q2, q3⟩ := hnx.nx
    have hgc : (c gop).1 ≠ t := HI.out.dk.live.2.2 gop R1.out.2.2.1
    have hch : Ch (fun b => (c b).1 = t) w w4 := (Ch.of_below RX.out.1).trans q3
    have hcc : ∀ b, b < w.heap.size → c4 b = c b := fun b hb => q1 b (Nat.lt_of_lt_of_le hb RX.out.1.size)
    have hk2 : ∀ b, b < w.heap.size → Fr3 T c t gd gw b → w4.heap[b]? = w.heap[b]? ∧ Fr2 T c4 t gd b := fun b hb hp => ⟨hch.block b hb hp.1, by rw [hcc b hb]; exact hp.1, hp.2.1, hp.2.2.2⟩
    have RF : Hid (Dk T w4 c4 t gd g (m.boot ks) ds ts i n (ptr gw) nv (costs D) dims ∧ Row w4 gop 31 (opCells k N txv (.slice kp kn kc)) ∧ (∀ b, b < w.heap.size → c4 b = c b) ∧ Ch (fun b => (c b).1 = t ∨ b = gd ∨ b = gw) w w4 ∧ Rel m (m.boot ks) i ∧ (m.boot ks).steps ≤ m.steps + 100 ∧ Jc (m.boot ks) i n D ∧ Rob (Fr2 T c4 t gd) (fun W => TxsC W nv D us) w4 ∧ KeepX w4 (Fr2 T c4 t gd) (.slice kp kn kc) ks) := ⟨RX.out.2.2.dk.nx q1 q2 q3 rfl, q3.row hgc RX.out.2.1, hcc, hch.mono fun b _ e => Or.inl e, Rel.boot m i ks, by show m.steps ≤ _; omega, HI.out.jo.jc.boot ks, HNOW.out.1.next hch.size hk2, HKP.out.next hch.size hk2⟩
    have hS4 : Row w4 gd 38 (dkCells g i (ptr gw) nv (costs D) n dims) ∧ Row w4 gop 31 (opCells k N txv (.slice kp kn kc)) := ⟨RF.out.1.row, RF.out.2.1⟩
    clear q1 q2 q3 hnx hgc hch hcc hk2 RX
    refine ⟨hS4, ?_⟩
    simp only [Act.put, aS, aC, aZ]
    clear hS4
    refine wpAnyH_done (by kernel_rfl) ?_ _
    go_upto_region 16 with fail
    refine wp_region_until (S := fun X => Row X gd 38 (dkCells g i (ptr gw) nv (costs D) n dims) ∧ Row X gop 31 (opCells k N txv (.slice kp kn kc))) 8 (by kernel_rfl) ?_
    show wpAnyU _ _ _ _ _ _ 10 (Array.replicate 10 false) _ _
    obtain ⟨Y, hX⟩ : ∃ Y : World, Y = { w4 with drawn := w4.drawn + 1 } := ⟨_, rfl⟩
    rw [← hX]
    have hbX : Below w4.heap.size w4 Y := by rw [hX]; exact ⟨rfl, rfl, rfl, Nat.le_refl _, fun _ _ => rfl⟩
    have RY : Hid (Dk T Y c4 t gd g (m.boot ks) ds ts i n (ptr gw) nv (costs D) dims ∧ Row Y gop 31 (opCells k N txv (.slice kp kn kc)) ∧ Below w4.heap.size w4 Y) := ⟨RF.out.1.below hbX, RF.out.2.1.later hbX RF.out.2.1.lt, hbX⟩
    have hS0 : Row Y gd 38 (dkCells g i (ptr gw) nv (costs D) n dims) ∧ Row Y gop 31 (opCells k N txv (.slice kp kn kc)) := ⟨RY.out.1.row, RY.out.2.1⟩
    clear hbX
    clear hX
    refine takeV (i := 0) [8] (some 68) rfl rfl (by kernel_rfl) (by kernel_rfl) (by kernel_rfl) (by kernel_rfl) (fun _ _ _ h => h) (gMove rfl (.tmp 0) rfl (ptr gd) rfl) hS0 ?_
    simp only [Act.put, aS, aC, aZ]
    refine takeV (i := 1) [2, 8] (some 69) rfl rfl (by kernel_rfl) (by kernel_rfl) (by kernel_rfl) (by kernel_rfl) (fun _ _ _ h => h) (gField f33_3 rfl (.tmp 3) rfl gop 0 rfl) hS0 ?_
    simp only [Act.put, aS, aC, aZ]
    refine takeV (i := 2) [8] (some 70) rfl rfl (by kernel_rfl) (by kernel_rfl) (by kernel_rfl) (by kernel_rfl) (fun _ _ _ h => h) (gLoad o31 rfl (.tmp 69) rfl gop (0 + 3) rfl (.slice kp kn kc) (fun _ h => (h.2.at 3 _ rfl))) hS0 ?_
    simp only [Act.put, aS, aC, aZ]
    refine takeV (i := 3) [4, 5, 6, 7, 8] (some 71) rfl rfl (by kernel_rfl) (by kernel_rfl) (by kernel_rfl) (by kernel_rfl) (fun _ _ _ h => h) (gMove rfl (.tmp 0) rfl (ptr gd) rfl) hS0 ?_
    simp only [Act.put, aS, aC, aZ]
    refine takeV (i := 4) [5, 6, 7, 8] (some 72) rfl rfl (by kernel_rfl) (by kernel_rfl) (by kernel_rfl) (by kernel_rfl) (fun _ _ _ h => h) (nilOp rfl (.tmp 71) rfl ⟨gd, 0, none⟩ rfl) hS0 ?_
    simp only [Act.put, aS, aC, aZ]
    refine takeV (i := 5) [6, 7, 8] (some 73) rfl rfl (by kernel_rfl) (by kernel_rfl) (by kernel_rfl) (by kernel_rfl) (fun _ _ _ h => h) (gField f40_3 rfl (.tmp 72) rfl gd 0 rfl) hS0 ?_
    simp only [Act.put, aS, aC, aZ]
    refine takeV (i := 6) [7, 8] (some 74) rfl rfl (by kernel_rfl) (by kernel_rfl) (by kernel_rfl) (by kernel_rfl) (fun _ _ _ h => h) (gLoad o38 rfl (.tmp 73) rfl gd (0 + 3) rfl nv (fun _ h => (h.1.at 3 _ rfl))) hS0 ?_
    simp only [Act.put, aS, aC, aZ]
    clear hS0
    refine oneU (i := 7) (by kernel_rfl) ?_
    refine opValue (some 75) rfl rfl rfl _ _ (run_lit41_1 (.tmp 74) rfl nv HNOW.out.2 rfl) ?_
    obtain ⟨Y3, hY3⟩ : ∃ Y3, Y3 = Y.alloc (.cells #[nv] 36) := ⟨_, rfl⟩
    obtain ⟨gm, hgm⟩ : ∃ gm, gm = Y.heap.size := ⟨_, rfl⟩
    have b3 : Below Y.heap.size Y Y3 := by rw [hY3]; exact below_alloc Y _
    have hmay2 : Rob (Fr2 T c4 t gd) (fun W => MayIn W (.slice (some ⟨gm, 0, none⟩) 1 1) [(nv, D, us)]) Y3 := by
      rw [hY3, hgm]
      exact may_one (RF.out.2.2.2.2.2.2.2.1.below RY.out.2.2) (RY.out.1.live.2.2 _ (Nat.le_refl _)) RY.out.1.row.lt (fun e => by have := RY.out.1.str _ e; omega)
    rw [← hY3, ← hgm]
    have RY3 : Hid (Dk T Y3 c4 t gd g (m.boot ks) ds ts i n (ptr gw) nv (costs D) dims ∧ Row Y3 gop 31 (opCells k N txv (.slice kp kn kc)) ∧ Below w4.heap.size w4 Y3 ∧ Rob (Fr2 T c4 t gd) (fun W => MayIn W (.slice (some ⟨gm, 0, none⟩) 1 1) [(nv, D, us)]) Y3) := ⟨RY.out.1.below b3, RY.out.2.1.later b3 RY.out.2.1.lt, RY.out.2.2.trans (b3.mono RY.out.2.2.size), hmay2⟩
    have hS0 : Row Y3 gd 38 (dkCells g i (ptr gw) nv (costs D) n dims) ∧ Row Y3 gop 31 (opCells k N txv (.slice kp kn kc)) := ⟨RY3.out.1.row, RY3.out.2.1⟩
    clear hY3 hgm b3 hmay2 RY
    refine ⟨fun _ => hS0, ?_⟩
    simp only [Act.put, aS, aC, aZ]
    clear hS0
    have HCL : Hid (Calls Tryd.prog 10 #[ptr gd, .slice kp kn kc, .slice (some ⟨gm, 0, none⟩) 1 1] Y3 fun e w' => e = .returned (.bool true) ∧ PQ e w') := HOP.out Y3 c4 (m.boot ks) _ _ D RF.out.2.2.1 (RF.out.2.2.2.1.trans (Ch.of_below RY3.out.2.2.1)) RY3.out.1 RF.out.2.2.2.2.1 RF.out.2.2.2.2.2.1 RF.out.2.2.2.2.2.2.1 (RF.out.2.2.2.2.2.2.2.2.below RY3.out.2.2.1) RY3.out.2.2.2 (Or.inl rfl)
    refine oneU (i := 8) (by kernel_rfl) ?_
    refine opCallA (some 76) rfl rfl rfl 10 _ (run_call eN16 [.tmp 68, .tmp 70, .tmp 75] _ rfl [ptr gd, .slice kp kn kc, .slice (some ⟨gm, 0, none⟩) 1 1] rfl) ?_
    refine HCL.out.mono ?_
    rintro e wz ⟨rfl, hQ⟩
    have HQ : Hid (PQ (.returned (.bool true)) wz) := hQ
    clear hQ HCL RY3
    refine ⟨_, rfl, ?_⟩
    refine ⟨fun h => absurd (show true = false from h) (by decide), ?_⟩
    simp only [Act.put, aS, aC, aZ]
    refine oneU (i := 9) (by kernel_rfl) ?_
    refine opValue (some 4) rfl rfl rfl (.bool true) _ (run_asZ (.tmp 76) rfl (.bool true) rfl) ?_
    refine ⟨fun h => absurd (show true = false from h) (by decide), ?_⟩
    simp only [Act.put, aS, aC, aZ]
    refine wpAnyU_done (by kernel_rfl) ?_ _
    go_wp2_with fail
    exact HQ.out
  · subst hq
    go_upto_region 18 with fail
    refine wp_region_lit ?_
    refine wl_mv (.tmp 0) rfl rfl (ptr gd) rfl ?_
    simp only [Act.put, aS, aC, aZ]
    refine wl_ldA agg33 (.tmp 3) rfl rfl gop 0 rfl (opCells k N txv (.slice kp kn kc)) rfl (fun j v hj => by rw [Nat.zero_add]; exact R1.out.1.at j v hj) ?_
    simp only [Act.put, aS, aC, aZ]
    refine wpList_callF eN29 [.tmp 79, .tmp 80] _ rfl rfl [(ptr gd), (.agg (opCells k N txv (.slice kp kn kc)).toArray)] rfl ?_
    refine (dformat_any R1.out.2.2.2 (by have := HB.out.1; omega) HB.out.2.1 (HO.out.below R1.out.2.1)).mono ?_
    rintro e wz ⟨rfl, c9, gw9, m9, S9, E9, D9, nv9, d9, hD⟩
    have HD : Hid (Done T w c t gd gw g m ds ts i n dims wz c9 gw9 m9 S9 E9 D9 nv9 d9) := hD.after R1.out.2.1
    clear hD
    refine ⟨_, rfl, ?_⟩
    simp only [Act.put, aS, aC, aZ]
    refine wl_as (.tmp 81) rfl rfl (.bool true) rfl ?_
    simp only [Act.put, aS, aC, aZ]
    refine wpList_nil ?_
    go_wp2_with fail
    rw [HPQ.out]
    exact ⟨rfl, c9, gw9, m9, S9, E9, D9, nv9, d9, HD.out⟩
  · have ta7 : ((q : Int) == 7) = false := by simp; omega
    have tb7 : decide ((q : Int) = 7) = false := decide_eq_false (by omega)
    have ta8 : ((q : Int) == 8) = false := by simp; omega
    have tb8 : decide ((q : Int) = 8) = false := decide_eq_false (by omega)
    have ta9 : ((q : Int) == 9) = false := by simp; omega
    have tb9 : decide ((q : Int) = 9) = false := decide_eq_false (by omega)
    have ta10 : ((q : Int) == 10) = false := by simp; omega
    have tb10 : decide ((q : Int) = 10) = false := decide_eq_false (by omega)
    have ta11 : ((q : Int) == 11) = false := by simp; omega
    have tb11 : decide ((q : Int) = 11) = false := decide_eq_false (by omega)
    go_upto_region 2 with fail
    refine wp_region_lit ?_
    refine wl_mv (.tmp 0) rfl rfl (ptr gd) rfl ?_
    simp only [Act.put, aS, aC, aZ]
    refine wl_ldA agg33 (.tmp 3) rfl rfl gop 0 rfl (opCells k N txv (.slice kp kn kc)) rfl (fun j v hj => by rw [Nat.zero_add]; exact R1.out.1.at j v hj) ?_
    simp only [Act.put, aS, aC, aZ]
    refine wpList_callF eN26 [.tmp 9, .tmp 10] _ rfl rfl [(ptr gd), (.agg (opCells k N txv (.slice kp kn kc)).toArray)] rfl ?_
    refine (dappend_any R1.out.2.2.2 (by have := HB.out.1; omega) HB.out.2.1 (HO.out.below R1.out.2.1)).mono ?_
    rintro e wz ⟨rfl, c9, gw9, m9, S9, E9, D9, nv9, d9, hD⟩
    have HD : Hid (Done T w c t gd gw g m ds ts i n dims wz c9 gw9 m9 S9 E9 D9 nv9 d9) := hD.after R1.out.2.1
    clear hD
    refine ⟨_, rfl, ?_⟩
    simp only [Act.put, aS, aC, aZ]
    refine wl_as (.tmp 11) rfl rfl (.bool true) rfl ?_
    simp only [Act.put, aS, aC, aZ]
    refine wpList_nil ?_
    go_wp2_with fail
    rw [HPQ.out]
    exact ⟨rfl, c9, gw9, m9, S9, E9, D9, nv9, d9, HD.out⟩
end Go.Proofs.YtebalanfagglnaaDoor

namespace Go.Proofs.YtebalanfagglnaaDoor
open Go.RowKit Go.Maps
variable {T : Nat → Prop}

theorem wl_ext {w : World} {ops : Array Oper} {rest : List Oper} {o : Oper} {a : Act} {Q : Exit → Act → World → Prop} (x : Operand) (i : Nat) (hgd : Region.wanted o (yielded ops a.tmps) = true) (ho : o.op = .extract x i) (vs : Array Value) (hx : a.eval x = .tuple vs) (v : Value) (hv : vs[i]? = some v) (h : wpList Tryd.prog ops Q rest (a.put o.dst v) w) : wpList Tryd.prog ops Q (o :: rest) a w := wl hgd v w (by simp [execOp, ho, hx, Instr.extract, hv]) h
theorem app_int {w : World} (v : Value) (n : Nat) (xs : List Value) (hown : w.ownsRow 0 3 1 v n xs) (b : Nat) (x : Int) (hb : Row w b 3 [.int .i64 x]) (hn : n ≤ 1000) :
    ∃ v' w', (Builtin.append_ #[29, 29] 29 #[v, .slice (some ⟨b, 0, none⟩) 1 1]).run Tryd.prog w = .ok v' w' ∧ w'.ownsRow 0 3 1 v' (n + 1) (xs ++ [.int .i64 x]) ∧ w.grownBy w' v.ownBlock ∧ (v'.ownBlock = v.ownBlock ∨ v'.ownBlock = some w.heap.size) := by
  obtain ⟨i, hi, hz0, hz1, hz2⟩ := info_parts info3
  obtain ⟨v', w', hr, h2, h3, _, h5⟩ := run_append_own_at (P := Tryd.prog) (w := w) 0 29 31 3 i (.int .i64 0) 1 8 Tryd.underlying29 hi hz0 hz1 hz2 rfl (by decide) v n xs hown
    ⟨b, 0, none⟩ 1 1 [.int .i64 x] (by simp) (fun j y hy => by rw [add_none, Nat.zero_add]; exact hb.at j y hy) (by intro y hy; rw [List.mem_singleton.1 hy]; rfl) (by unfold maxLen; omega) (by omega) (Nat.zero_le _)
  exact ⟨v', w', hr, h2, h3, h5⟩
theorem run_lit31 {w : World} {a : Act} {o : Oper} (x : Operand) (ho : o.op = .buildSlice 29 1 #[(0, x)]) (u : Int) (hx : a.eval x = .int .i64 u) : (execOp a.eval o).run Tryd.prog w = .ok (.value (.slice (some ⟨w.heap.size, 0, none⟩) 1 1)) (w.alloc (.cells #[.int .i64 u] 3)) := by
  simp only [execOp, ho, List.map_toArray, List.map_cons, List.map_nil, hx, run_oneInt, Sem.run_bind, Sem.run_pure, Result.andThen_ok]
theorem agg50' : AggT 53 2 := ⟨Or.inl ⟨_, Tryd.underlying53⟩, by kernel_rfl⟩
theorem eN17 : EntersF 18 := Go.Proofs.enters_of Tryd.func18 (by kernel_rfl) rfl
theorem f50_0 : FieldAt 53 0 0 := fun w g off => by kernel_rfl
theorem s31 : (Tryd.prog.info? 29).map (·.size) = some 1 := by kernel_rfl
theorem run_build50 {w : World} {a : Act} {o : Oper} (ho : o.op = .build 53 #[]) : (execOp a.eval o).run Tryd.prog w = .ok (.value (.agg ([.slice none 0 0, .slice none 0 0] : List Value).toArray)) w := by
  have hr : (Instr.build 53 #[]).run Tryd.prog w = .ok (.agg ([.slice none 0 0, .slice none 0 0] : List Value).toArray) w := by kernel_rfl
  simp only [execOp, ho, List.map_toArray, List.map_nil, hr, Sem.run_bind, Sem.run_pure, Result.andThen_ok]
/-- the shape that is made: k disks so far -/
structure MdSt (w : World) (gs n k : Nat) (v : Value) (W : World) : Prop where
  below : Below w.heap.size w W
  ge : w.heap.size ≤ gs
  row : Row W gs 53 [v, .slice none 0 0]
  own : W.ownsRow 0 3 1 v k (List.replicate k (.int .i64 (n : Nat)))
  ap : ∀ b, v.ownBlock = some b → w.heap.size ≤ b ∧ b ≠ gs
theorem MdSt.ints {w : World} {gs n k : Nat} {v : Value} {W : World} (h : MdSt w gs n k v W) (hk : k ≤ 1000) : IntsIn W v (List.replicate k (n : Int)) := by
  rcases h.own.2 with ⟨e, h0⟩ | ⟨g, cap, cur, e, _, hg, hcap, _, hsz, _⟩
  · subst h0
    exact ⟨none, 0, e, Nat.le_refl _, by simp, Or.inl rfl⟩
  · refine ⟨some ⟨g, 0, none⟩, cap, by rw [e, List.length_replicate], by rw [List.length_replicate]; exact hcap, by rw [List.length_replicate]; omega, Or.inr ⟨g, 0, rfl, fun j hj => ?_⟩⟩
    rw [List.length_replicate] at hj
    have h2 := h.own.cells (g := g) (by rw [e]; rfl) j (.int .i64 (n : Nat)) (by simp [hj])
    rw [add_none] at h2
    rw [h2]
    simp [hj]
theorem shapeOk_rep (k n : Nat) (hk : 1 ≤ k ∧ k ≤ 12) (hn : 1 ≤ n ∧ n ≤ 4096) : shapeOk (List.replicate k (n : Int)) [] = true := by
  unfold shapeOk
  simp only [Bool.and_eq_true, decide_eq_true_eq, List.length_replicate, List.length_nil]
  refine ⟨by omega, by omega, ?_, rfl⟩
  unfold sizesOk
  simp only [List.all_eq_true, List.mem_replicate, Bool.and_eq_true, decide_eq_true_eq]
  rintro x ⟨_, rfl⟩
  omega
theorem newPl_rep (k n : Nat) : ShapeOf (newPl (List.replicate k (n : Int)) []) (List.replicate k n) [] := by
  unfold ShapeOf newPl
  simp
set_option maxHeartbeats 4000000 in
set_option maxRecDepth 100000 in
theorem made_any (w : World) (c : Nat → Colour) (t dk n : Nat) (hd : 1 ≤ dk ∧ dk ≤ 12) (hn : 1 ≤ n ∧ n ≤ 4096) :
    Calls Tryd.prog 6 #[.int .i64 (dk : Nat), .int .i64 (n : Nat)] w fun e w' => ∃ g c', e = .returned (ptr g) ∧ w.heap.size ≤ g ∧ (∀ b, b < w.heap.size → c' b = c b) ∧ Live w' c' t g (newPl (List.replicate dk (n : Int)) []) ∧ Below w.heap.size w w' := by
  have HOK : Hid (shapeOk (List.replicate dk (n : Int)) [] = true) := shapeOk_rep dk n hd hn
  obtain ⟨PQ, hPQ⟩ : ∃ PQ : Ending → World → Prop, PQ = fun (e : Ending) (w' : World) => ∃ g c', e = .returned (ptr g) ∧ w.heap.size ≤ g ∧ (∀ b, b < w.heap.size → c' b = c b) ∧ Live w' c' t g (newPl (List.replicate dk (n : Int)) []) ∧ Below w.heap.size w w' := ⟨_, rfl⟩
  have HPQ : Hid (PQ = fun (e : Ending) (w' : World) => ∃ g c', e = .returned (ptr g) ∧ w.heap.size ≤ g ∧ (∀ b, b < w.heap.size → c' b = c b) ∧ Live w' c' t g (newPl (List.replicate dk (n : Int)) []) ∧ Below w.heap.size w w') := hPQ
  rw [← hPQ]
  clear hPQ
  go_enter Tryd.func6, Tryd.ntmps6
  go_upto_region 1 with fail
  refine wp_region_lit ?_
  refine wl rfl _ w (run_build50 rfl) ?_
  simp only [Act.put, aS, aC, aZ]
  refine wpList_alloc_store agg50' _ zero24 rfl rfl rfl rfl rfl (.tmp 9) rfl [.slice none 0 0, .slice none 0 0] rfl rfl (by intro v hv; simp at hv; rw [hv]; rfl) (fun _ => rfl) (fun _ => rfl) ?_
  intro w1 r1 s1 b1
  obtain ⟨gs, hgs⟩ : ∃ gs, gs = w.heap.size := ⟨_, rfl⟩
  rw [← hgs] at r1 s1 ⊢
  have H0 : Hid (MdSt w gs n 0 (.slice none 0 0) w1) := ⟨b1, by omega, r1, World.ownsRow_nil _ _ _ _, fun b hb => by cases hb⟩
  clear r1 s1 b1 hgs
  simp only [Act.put, aS, aC, aZ]
  refine wpList_nil ?_
  go_upto_region 2 with fail
  go_wp2_with fail
  go_loopw [6] (fun vi W => ∃ k : Nat, vi = .int .i64 (k : Nat) ∧ k ≤ dk ∧ ∃ v, MdSt w gs n k v W) (fun vi _ => dk - (intOf vi).toNat)
  case atStart => exact ⟨0, rfl, Nat.zero_le _, _, H0.out⟩
  case round =>
    obtain ⟨k, rfl, hk, v, hI⟩ := hrel
    have HI : Hid (MdSt w gs n k v wr) := hI
    clear hI H0
    by_cases hlt : k < dk
    · have t1 : decide ((k : Int) < (dk : Int)) = true := decide_eq_true (by omega)
      have b2 : Below wr.heap.size wr (wr.alloc (.cells #[.int .i64 (n : Nat)] 3)) := below_alloc wr _
      have r2 : Row (wr.alloc (.cells #[.int .i64 (n : Nat)] 3)) wr.heap.size 3 [.int .i64 (n : Nat)] := Row.new wr 3 _
      obtain ⟨v2, w2, e2, o2, g2, l2⟩ := app_int v k _ (ownK HI.out.own fun b hb => b2.block b (World.ownsRow.lt HI.out.own b hb).2) wr.heap.size (n : Nat) r2 (by omega)
      have hch : Ch (fun b => v.ownBlock = some b) wr w2 := (Ch.of_below b2).grown g2 fun k hk => Or.inl hk
      have z2 : (wr.alloc (.cells #[.int .i64 (n : Nat)] 3)).heap.size = wr.heap.size + 1 := World.size_alloc _ _
      have s2 := g2.size
      have HE : Hid ((Builtin.append_ #[29, 29] 29 #[v, .slice (some ⟨wr.heap.size, 0, none⟩) 1 1]).run Tryd.prog (wr.alloc (.cells #[.int .i64 (n : Nat)] 3)) = .ok v2 w2 ∧ Row w2 gs 53 [v, .slice none 0 0] ∧ (v2.cells = #[v2] ∧ v2.oneCell' = true)) := ⟨e2, hch.row (fun e => (HI.out.ap gs e).2 rfl) HI.out.row, own_cells o2⟩
      have hap : ∀ b, v2.ownBlock = some b → w.heap.size ≤ b ∧ b ≠ gs := fun b hb => by
        rcases l2 with e | e
        · exact HI.out.ap b (by rw [← e]; exact hb)
        · rw [hb] at e; injection e with e
          have := HI.out.row.lt
          have := HI.out.below.size
          exact ⟨by omega, by omega⟩
      have R3 : Hid (MdSt w gs n (k + 1) v2 (w2.setCell ⟨gs, 0 + 0, none⟩ v2)) := by
        have hc3 : Ch (· = gs) w2 (w2.setCell ⟨gs, 0 + 0, none⟩ v2) := (Ch.refl (· = gs) w2).setCell (Or.inl rfl) _ _
        refine ⟨HI.out.below.trans ((hch.below HI.out.below.size fun b hb e => by have := (HI.out.ap b e).1; omega).trans (hc3.below (Nat.le_trans HI.out.below.size hch.size) fun b hb e => by have := HI.out.ge; omega)), HI.out.ge, ?_, ?_, hap⟩
        · have h6 := row_cell' (i := 0 + 0) HE.out.2.1 v2
          simpa using h6
        · rw [List.replicate_succ']
          exact ownK o2 fun b hb => hc3.block b (World.ownsRow.lt o2 b hb).2 (hap b hb).2
      clear b2 r2 e2 o2 g2 l2 hch z2 s2 hap
      go_upto_region 5 with fail
      refine wp_region_lit ?_
      refine wl_fld f50_0 (.tmp 5) rfl rfl gs 0 rfl ?_
      simp only [Act.put, aS, aC, aZ]
      refine wl_ld o31 (.tmp 15) rfl rfl gs (0 + 0) rfl v (HI.out.row.at 0 _ rfl) ?_
      simp only [Act.put, aS, aC, aZ]
      refine wl_mv (.tmp 1) rfl rfl (.int .i64 (n : Nat)) rfl ?_
      simp only [Act.put, aS, aC, aZ]
      refine wl rfl _ _ (run_lit31 (.tmp 17) rfl (n : Nat) rfl) ?_
      simp only [Act.put, aS, aC, aZ]
      refine wl_app (.tmp 16) (.tmp 18) rfl rfl v _ v2 rfl rfl HE.out.1 ?_
      simp only [Act.put, aS, aC, aZ]
      refine wl_fld f50_0 (.tmp 5) rfl rfl gs 0 rfl ?_
      simp only [Act.put, aS, aC, aZ]
      refine wl_put s31 (.tmp 20) (.tmp 19) rfl rfl rfl gs (0 + 0) 53 [v, .slice none 0 0] rfl v2 rfl HE.out.2.2 HE.out.2.1 (show 0 + 0 < 2 by decide) ?_
      refine wpList_nil ?_
      clear HE HI
      obtain ⟨w4, hw4⟩ : ∃ w4, w4 = w2.setCell ⟨gs, 0 + 0, none⟩ v2 := ⟨_, rfl⟩
      rw [← hw4] at R3 ⊢
      clear hw4
      go_wp2_with fail
      refine ⟨⟨k + 1, by go_num, by omega, v2, R3.out⟩, ?_⟩
      simp [intOf]; omega
    · obtain rfl : dk = k := by omega
      have t1 : decide ((dk : Int) < (dk : Int)) = false := decide_eq_false (by omega)
      have HN : Hid (Calls Tryd.prog 18 #[.agg #[v, .slice none 0 0]] wr fun e w' => ∃ g, e = .returned (.tuple #[ptr g, .int .i64 0]) ∧ PQ (.returned (ptr g)) w') := by
        refine (Live.new wr c t v (.slice none 0 0) _ [] (HI.out.ints (by omega)) ⟨none, 0, rfl, Nat.le_refl _, by decide, Or.inl rfl⟩ HOK.out).mono ?_
        rintro e w' ⟨g, c', rfl, h1, h2, _, h4, h5⟩
        refine ⟨g, rfl, ?_⟩
        rw [HPQ.out]
        exact ⟨g, c', rfl, Nat.le_trans HI.out.below.size h1, fun b hb => h2 b (Nat.lt_of_lt_of_le hb HI.out.below.size), h4, HI.out.below.trans (h5.mono HI.out.below.size)⟩
      go_upto_region 6 with fail
      refine wp_region_lit ?_
      refine wl_ldA agg50' (.tmp 5) rfl rfl gs 0 rfl [v, .slice none 0 0] rfl (fun j v hj => by rw [Nat.zero_add]; exact HI.out.row.at j v hj) ?_
      simp only [Act.put, aS, aC, aZ]
      refine wpList_callF eN17 [.tmp 22] _ rfl rfl [.agg #[v, .slice none 0 0]] rfl ?_
      refine HN.out.mono ?_
      rintro e w2 ⟨g, rfl, hQ⟩
      have HQ : Hid (PQ (.returned (ptr g)) w2) := hQ
      clear hQ HN HI
      refine ⟨_, rfl, ?_⟩
      simp only [Act.put, aS, aC, aZ]
      refine wl_mv (.tmp 23) rfl rfl (.tuple #[ptr g, .int .i64 0]) rfl ?_
      simp only [Act.put, aS, aC, aZ]
      refine wl_ext (.tmp 21) 0 rfl rfl #[ptr g, .int .i64 0] rfl (ptr g) rfl ?_
      simp only [Act.put, aS, aC, aZ]
      refine wl_ext (.tmp 21) 1 rfl rfl #[ptr g, .int .i64 0] rfl (.int .i64 0) rfl ?_
      simp only [Act.put, aS, aC, aZ]
      refine wl_as (.tmp 24) rfl rfl (ptr g) rfl ?_
      simp only [Act.put, aS, aC, aZ]
      refine wl_as (.tmp 25) rfl rfl (.int .i64 0) rfl ?_
      simp only [Act.put, aS, aC, aZ]
      refine wpList_nil ?_
      go_wp2_with fail
      exact HQ.out
/-- a desk begins -/
structure Beg (T : Nat → Prop) (w : World) (c : Nat → Colour) (t g : Nat) (m : Pl) (ds ts : List Nat) (i n : Nat) (w' : World) (c' : Nat → Colour) (gd gw : Nat) (m' : Pl) (S E : Nat) : Prop where
  desk : Desk T w' c' t gd gw g m' ds ts i n S E [] (.slice none 0 0) 0
  cc : ∀ b, b < w.heap.size → c' b = c b
  ch : Ch (fun b => (c b).1 = t) w w'
  gd : w.heap.size ≤ gd
  gw : w.heap.size ≤ gw
  rel : Rel m m' i
  fuse : m'.fuse < 0
  le : m'.steps ≤ m.steps + 6000
theorem run_build40 {w : World} {a : Act} {o : Oper} (x0 x1 x2 x3 : Operand) (ho : o.op = .build 38 #[(0, x0), (1, x1), (2, x2), (5, x3)]) (g i gw n : Nat) (h0 : a.eval x0 = ptr g) (h1 : a.eval x1 = .int .i64 (i : Nat)) (h2 : a.eval x2 = ptr gw) (h3 : a.eval x3 = .int .i64 (n : Nat)) : (execOp a.eval o).run Tryd.prog w = .ok (.value (.agg (dkCells g i (ptr gw) (.slice none 0 0) 0 n 0).toArray)) w := by
  have hr : (Instr.build 38 #[(0, ptr g), (1, .int .i64 (i : Nat)), (2, ptr gw), (5, .int .i64 (n : Nat))]).run Tryd.prog w = .ok (.agg (dkCells g i (ptr gw) (.slice none 0 0) 0 n 0).toArray) w := by kernel_rfl
  simp only [execOp, ho, List.map_toArray, List.map_cons, List.map_nil, h0, h1, h2, h3, hr, Sem.run_bind, Sem.run_pure, Result.andThen_ok]
set_option maxHeartbeats 4000000 in
set_option maxRecDepth 100000 in
theorem begun_any {w : World} {c : Nat → Colour} {t g : Nat} {m : Pl} (h : Live w c t g m) {ds ts : List Nat} {i n : Nat} (hsh : ShapeOf m ds ts) (hi : i < ds.length) (hn : ds.getD i 0 = n) (h8 : 8 ≤ n) (hon : m.on = true) (hf : m.fuse < 0) (ht : Fr.TabIn w) (htc : (c 0).1 ≠ t) (hst : m.steps + 30000 < 1099511627775) (hT : ∀ b, T b → b < w.heap.size) :
    Calls Tryd.prog 7 #[ptr g, .int .i64 (i : Nat), .int .i64 (n : Nat)] w fun e w' => ∃ c' gd gw m' S E, e = .returned (ptr gd) ∧ Beg T w c t g m ds ts i n w' c' gd gw m' S E := by
  have HT : Hid (∀ b, T b → b < w.heap.size) := hT
  clear hT
  have hlt : i < m.n := by have := hsh.n; omega
  have hn4 : n ≤ 4096 := by have h1 := (h.2.1.sizes i hlt).2; rw [(hsh.disk i hi).2, hn] at h1; exact h1
  have HF : Hid (Calls Tryd.prog 11 #[ptr g, .int .i64 (i : Nat)] w fun e w' => e = .returned (.int .i64 0) ∧ ∃ c' m', (∀ b, b < w.heap.size → c' b = c b) ∧ Live w' c' t g m' ∧ Ch (fun b => (c b).1 = t) w w' ∧ Rel m m' i ∧ m'.steps ≤ m.steps + 5000 ∧ Jc m' i n [] ∧ m'.fuse < 0) := by
    refine (formatJ_any h hsh hi hn h8 hon ht htc (by omega)).mono ?_
    rintro e w' ⟨c', m', q1, q2, q3, q4, q5, q6⟩
    rcases q6 with ⟨q6, q7, q8⟩ | q6
    · exact ⟨q6, c', m', q1, q2, q3, q4, q5, q7, q8 hf⟩
    · exact absurd q6.1 (by omega)
  have HL : Hid (Live w c t g m ∧ ShapeOf m ds ts ∧ i < ds.length ∧ ds.getD i 0 = n ∧ 8 ≤ n ∧ Fr.TabIn w ∧ (c 0).1 ≠ t ∧ m.steps + 30000 < 1099511627775) := ⟨h, hsh, hi, hn, h8, ht, htc, hst⟩
  obtain ⟨PQ, hPQ⟩ : ∃ PQ : Ending → World → Prop, PQ = fun (e : Ending) (w' : World) => ∃ c' gd gw m' S E, e = .returned (ptr gd) ∧ Beg T w c t g m ds ts i n w' c' gd gw m' S E := ⟨_, rfl⟩
  have HPQ : Hid (PQ = fun (e : Ending) (w' : World) => ∃ c' gd gw m' S E, e = .returned (ptr gd) ∧ Beg T w c t g m ds ts i n w' c' gd gw m' S E) := hPQ
  rw [← hPQ]
  clear hPQ h hsh hi hn h8 hon hf ht htc hst hlt
  go_enter Tryd.func7, Tryd.ntmps7
  go_upto_region 2 with (go_at_call 11; refine HF.out.mono ?_; rintro e w2 ⟨rfl, c2, m2, q1, q2, q3, q4, q5, q6, q7⟩; have R2 : Hid ((∀ b, b < w.heap.size → c2 b = c b) ∧ Live w2 c2 t g m2 ∧ Ch (fun b => (c b).1 = t) w w2 ∧ Rel m m2 i ∧ m2.steps ≤ m.steps + 5000 ∧ Jc m2 i n [] ∧ m2.fuse < 0) := ⟨q1, q2, q3, q4, q5, q6, q7⟩; clear q1 q2 q3 q4 q5 q6 q7)
  have htab : Fr.TabIn w2 := TabIn.ch HL.out.2.2.2.2.2.1 R2.out.2.2.1 HL.out.2.2.2.2.2.2.1
  have hsh2 : ShapeOf m2 ds ts := by unfold ShapeOf; rw [R2.out.2.2.2.1.sh]; exact HL.out.2.1
  have htc2 : (c2 0).1 ≠ t := by rw [R2.out.1 0 (tab_lt HL.out.2.2.2.2.2.1)]; exact HL.out.2.2.2.2.2.2.1
  have HOP : Hid (Calls Tryd.prog 12 #[ptr g, .int .i64 (i : Nat)] w2 fun e w' => ∃ gw tv S E c' m', e = .returned (.tuple #[ptr gw, tv, .int .i64 0]) ∧ (∃ p cap, tv = .slice p 0 cap) ∧ (∀ b, b < w2.heap.size → c' b = c2 b) ∧ Live w' c' t g m' ∧ Ch (fun b => (c2 b).1 = t) w2 w' ∧ Rel m2 m' i ∧ m'.steps ≤ m2.steps + 2 ∧ w2.heap.size ≤ gw ∧ WalAt w' c' t gw g (i : Int) S E ∧ Jo m' i n S E [] ∧ m'.fuse < 0) := by
    have hst := HL.out.2.2.2.2.2.2.2
    have hs5 := R2.out.2.2.2.2.1
    refine (openJ_any R2.out.2.1 ⟨hsh2, HL.out.2.2.1, by rw [HL.out.2.2.2.1]; exact HL.out.2.2.2.2.1, R2.out.2.2.2.2.2.1.lv.1.on, by omega⟩ HL.out.2.2.2.1 htab htc2 R2.out.2.2.2.2.2.1).mono ?_
    rintro e w' ⟨c', m', q1, q2, q3, q4, q5, q6⟩
    rcases q6 with ⟨gw, tv, S, E, q6, q7, q8, q9, q10, us, q11⟩ | q6
    · refine ⟨gw, tv, S, E, c', m', q6, ?_, q1, q2, q3, q4, q5, q7, q8, q9, q10 R2.out.2.2.2.2.2.2⟩
      obtain ⟨p, cap, e, _⟩ := q11.now
      exact ⟨p, cap, e⟩
    · exact absurd q6.1 (by have := R2.out.2.2.2.2.2.2; omega)
  have RS : Hid (Fr.TabIn w2 ∧ ShapeOf m2 ds ts ∧ (c2 0).1 ≠ t) := ⟨htab, hsh2, htc2⟩
  clear htab hsh2 htc2 HF
  refine wp_region_lit ?_
  refine wl_mv (.tmp 0) rfl rfl (ptr g) rfl ?_
  simp only [Act.put, aS, aC, aZ]
  refine wl_mv (.tmp 1) rfl rfl (.int .i64 (i : Nat)) rfl ?_
  simp only [Act.put, aS, aC, aZ]
  refine wpList_callF eN20 [.tmp 15, .tmp 16] _ rfl rfl [ptr g, .int .i64 (i : Nat)] rfl ?_
  refine HOP.out.mono ?_
  rintro e w3 ⟨gw, tv, S, E, c3, m3, rfl, ⟨pt, ct, rfl⟩, q1, q2, q3, q4, q5, q6, q7, q8, q9⟩
  refine ⟨_, rfl, ?_⟩
  have R3 : Hid ((∀ b, b < w2.heap.size → c3 b = c2 b) ∧ Live w3 c3 t g m3 ∧ Ch (fun b => (c2 b).1 = t) w2 w3 ∧ Rel m2 m3 i ∧ m3.steps ≤ m2.steps + 2 ∧ w2.heap.size ≤ gw ∧ WalAt w3 c3 t gw g (i : Int) S E ∧ Jo m3 i n S E [] ∧ m3.fuse < 0) := ⟨q1, q2, q3, q4, q5, q6, q7, q8, q9⟩
  clear q1 q2 q3 q4 q5 q6 q7 q8 q9 HOP
  simp only [Act.put, aS, aC, aZ]
  refine wl_mv (.tmp 17) rfl rfl (.tuple #[(ptr gw), (.slice pt 0 ct), (.int .i64 0)]) rfl ?_
  simp only [Act.put, aS, aC, aZ]
  refine wl_ext (.tmp 14) 0 rfl rfl #[(ptr gw), (.slice pt 0 ct), (.int .i64 0)] rfl (ptr gw) rfl ?_
  simp only [Act.put, aS, aC, aZ]
  refine wl_ext (.tmp 14) 1 rfl rfl #[(ptr gw), (.slice pt 0 ct), (.int .i64 0)] rfl (.slice pt 0 ct) rfl ?_
  simp only [Act.put, aS, aC, aZ]
  refine wl_ext (.tmp 14) 2 rfl rfl #[(ptr gw), (.slice pt 0 ct), (.int .i64 0)] rfl (.int .i64 0) rfl ?_
  simp only [Act.put, aS, aC, aZ]
  refine wl_as (.tmp 18) rfl rfl (ptr gw) rfl ?_
  simp only [Act.put, aS, aC, aZ]
  refine wl_as (.tmp 19) rfl rfl (.slice pt 0 ct) rfl ?_
  simp only [Act.put, aS, aC, aZ]
  refine wl_as (.tmp 20) rfl rfl (.int .i64 0) rfl ?_
  simp only [Act.put, aS, aC, aZ]
  refine wpList_nil ?_
  go_upto_region 5 with (refine wl_sl sl38 (.tmp 32) rfl rfl pt 0 ct rfl ?_)
  refine wp_region_lit ?_
  refine wl_mv (.tmp 0) rfl rfl (ptr g) rfl ?_
  simp only [Act.put, aS, aC, aZ]
  refine wl_mv (.tmp 1) rfl rfl (.int .i64 (i : Nat)) rfl ?_
  simp only [Act.put, aS, aC, aZ]
  refine wl_mv (.tmp 8) rfl rfl (ptr gw) rfl ?_
  simp only [Act.put, aS, aC, aZ]
  refine wl_mv (.tmp 2) rfl rfl (.int .i64 (n : Nat)) rfl ?_
  simp only [Act.put, aS, aC, aZ]
  refine wl rfl _ _ (run_build40 (.tmp 36) (.tmp 37) (.tmp 38) (.tmp 39) rfl g i gw n rfl rfl rfl rfl) ?_
  simp only [Act.put, aS, aC, aZ]
  refine wpList_box (.tmp 40) rfl rfl (dkCells g i (ptr gw) (.slice none 0 0) 0 n 0) rfl ?_
  intro w4 r4 s4 b4
  obtain ⟨gd, hgd⟩ : ∃ gd, gd = w3.heap.size := ⟨_, rfl⟩
  rw [← hgd] at r4 s4 ⊢
  have HD : Hid (Beg T w c t g m ds ts i n w4 c3 gd gw m3 S E) := by
    have hcc : ∀ b, b < w.heap.size → c3 b = c b := fun b hb => by rw [R3.out.1 b (Nat.lt_of_lt_of_le hb R2.out.2.2.1.size)]; exact R2.out.1 b hb
    have hch : Ch (fun b => (c b).1 = t) w w4 := (R2.out.2.2.1.trans' R3.out.2.2.1 fun b hb e => by rw [← R2.out.1 b hb]; exact e).trans (Ch.of_below b4)
    have hgw := R3.out.2.2.2.2.2.2.1
    refine ⟨⟨⟨R3.out.2.1.below b4, r4, R3.out.2.1.2.2 gd (by omega), TabIn.later hgw.tab b4, hgw.tap, by unfold ShapeOf; rw [R3.out.2.2.2.1.sh]; exact RS.out.2.1, HL.out.2.2.1, HL.out.2.2.2.1, by decide, fun b hb => Nat.lt_of_lt_of_le (HT.out b hb) hch.size⟩, hgw.below b4, by have := hgw.row.lt; omega, R3.out.2.2.2.2.2.2.2.1, [], fun W _ _ => TxsC.nil W⟩, hcc, hch, by have := R2.out.2.2.1.size; have := R3.out.2.2.1.size; omega, by have := R2.out.2.2.1.size; have := R3.out.2.2.2.2.2.1; omega, R2.out.2.2.2.1.trans R3.out.2.2.2.1, R3.out.2.2.2.2.2.2.2.2, by have := R2.out.2.2.2.2.1; have := R3.out.2.2.2.2.1; omega⟩
  clear r4 s4 b4 hgd R2 R3
  simp only [Act.put, aS, aC, aZ]
  refine wl_as (.tmp 41) rfl rfl (ptr gd) rfl ?_
  simp only [Act.put, aS, aC, aZ]
  refine wpList_nil ?_
  go_wp2_with fail
  rw [HPQ.out]
  exact ⟨c3, gd, gw, m3, S, E, rfl, HD.out⟩
end Go.Proofs.YtebalanfagglnaaDoor

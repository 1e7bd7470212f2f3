/- The law PlantPlays, walked out of its callees' contracts. -/
import Derived.Test.YtdddfjkecmnggaaLawY0
namespace Go.Proofs.Ytdddfjkecmnggaa
open Go.RowKit Go.Maps

set_option maxHeartbeats 8000000 in
set_option maxRecDepth 100000 in
theorem plays_any (W0 : World) (vd vt lv : Value) (ds ts : List Int) (L : List OpD) (hd : IntsIn W0 vd ds) (ht : IntsIn W0 vt ts) (hl1 : ds.length ≤ 1048576) (hl2 : ts.length ≤ 1048576) (hL : OpsIn W0 lv L) :
    Calls Try.prog 4 #[.agg #[vd, vt], lv] W0 fun e w' => e = .returned (.bool true) ∧ Below W0.heap.size W0 w' := by
  obtain ⟨B, hB⟩ : ∃ B, B = W0.heap.size := ⟨_, rfl⟩
  have HB : Hid (B = W0.heap.size) := hB
  obtain ⟨pl, cl, rfl, hLl, hLc, hLo⟩ := hL
  obtain ⟨N, hN⟩ : ∃ N, N = L.length := ⟨_, rfl⟩
  have HN : Hid (N = L.length) := hN
  have HOP : Hid (∀ i, i < N → ∃ b off o, pl = some ⟨b, off, none⟩ ∧ OpIn W0 o ∧ ∀ j, j < 7 → W0.cell? ⟨b, off + (i * 7 + j), none⟩ = o.cells[j]?) := fun i hi => by
    rw [HN.out] at hi
    rcases hLc with h | ⟨b, off, h1, h2⟩
    · rw [h] at hi; exact absurd hi (Nat.not_lt_zero _)
    · exact ⟨b, off, L.getD i default, h1, hLo _ (by rw [List.getD_eq_getElem?_getD, List.getElem?_eq_getElem hi]; exact List.getElem_mem hi), h2 i hi⟩
  have hN1 : N ≤ 1048576 := by omega
  have HD : Hid (IntsIn W0 vd ds) := hd
  have HT : Hid (IntsIn W0 vt ts) := ht
  rw [← hN, ← hB]
  clear hd ht hB hLl hLc hLo hN
  go_enter Try.func4, Try.ntmps4
  go_upto_region 0 with fail
  refine wp_region_lit ?_
  refine wpList_box (.tmp 0) rfl rfl [vd, vt] rfl ?_
  intro w1 r1 s1 b1
  refine wpList_assign (.const (.bool false)) rfl rfl (.bool false) rfl ?_
  refine wpList_nil ?_
  simp only [Act.put, List.setIfInBounds_toArray, List.set_cons_succ, List.set_cons_zero]
  rw [← HB.out] at r1 s1 b1 ⊢
  have HLD : Hid (∀ W, Below w1.heap.size w1 W → (∀ j v, [vd, vt][j]? = some v → W.cell? ⟨B, 0 + j, none⟩ = some v) ∧ IntsIn W vd ds ∧ IntsIn W vt ts ∧ Below B W0 W) := fun W hW => by
    have hb : Below B W0 W := b1.trans (hW.mono (by omega))
    refine ⟨fun j v hj => ?_, HD.out.later (by rw [← HB.out]; exact hb), HT.out.later (by rw [← HB.out]; exact hb), hb⟩
    rw [Nat.zero_add]
    exact (r1.later hW r1.lt).at j v hj
  clear r1 s1 b1
  go_upto_region 2 with (go_at_call 8; refine (shown_any w1).mono ?_; rintro e w2 ⟨rfl, b2⟩; have B2 : Hid (Below w1.heap.size w1 w2) := b2; clear b2)
  refine wp_region_lit ?_
  refine wpList_load agg24 (.tmp 2) rfl rfl B 0 rfl [vd, vt] rfl (HLD.out w2 B2.out).1 ?_
  simp only [Act.put, List.setIfInBounds_toArray, List.set_cons_succ, List.set_cons_zero]
  by_cases hok : shapeOk ds ts = false
  · have HOK : Hid (shapeOk ds ts = false) := hok
    clear hok
    refine wpList_callF en9 [.tmp 39] _ rfl rfl [.agg #[vd, vt]] rfl ?_
    refine (newBad_any w2 vd vt ds ts (HLD.out w2 B2.out).2.1 (HLD.out w2 B2.out).2.2.1 (by omega) (by omega) HOK.out).mono ?_
    rintro e w3 ⟨rfl, b3⟩
    refine ⟨_, rfl, ?_⟩
    have B3 : Hid (Below w1.heap.size w1 w3) := B2.out.trans (b3.mono B2.out.size)
    clear b3
    go_upto_region 3 with fail
    refine wp_region_lit ?_
    refine wpList_load agg24 (.tmp 2) rfl rfl B 0 rfl [vd, vt] rfl (HLD.out w3 B3.out).1 ?_
    simp only [Act.put, List.setIfInBounds_toArray, List.set_cons_succ, List.set_cons_zero]
    refine wpList_callF en10 [.tmp 44] _ rfl rfl [.agg #[vd, vt]] rfl ?_
    refine (refNew_any w3 (fun _ => (0, 0)) 4 (by decide) (by decide) vd vt ds ts (HLD.out w3 B3.out).2.1 (HLD.out w3 B3.out).2.2.1 (by omega) (by omega)).mono ?_
    intro e w4 hr
    obtain ⟨_, rfl, b4⟩ : shapeOk ds ts = false ∧ e = .returned (.tuple #[.pointer none, .int .i64 30]) ∧ Below w3.heap.size w3 w4 := by
      rcases hr with h | h
      · exact h
      · exact absurd h.1 (by rw [HOK.out]; decide)
    refine ⟨_, rfl, ?_⟩
    have B4 : Hid (Below w1.heap.size w1 w4) := B3.out.trans (b4.mono B3.out.size)
    clear b4 hr
    go_wp2_with fail
    go_ret
    exact ⟨rfl, (HLD.out w4 B4.out).2.2.2⟩
  · have HOK : Hid (shapeOk ds ts = true) := by show _ = _; simpa using hok
    clear hok
    refine wpList_callF en9 [.tmp 39] _ rfl rfl [.agg #[vd, vt]] rfl ?_
    refine (Live.new w2 (fun _ => (0, 0)) 2 vd vt ds ts (HLD.out w2 B2.out).2.1 (HLD.out w2 B2.out).2.2.1 HOK.out).mono ?_
    rintro e w3 ⟨gx, c1, rfl, _, h1, h2, h3, b3⟩
    refine ⟨_, rfl, ?_⟩
    have B3 : Hid (Below w1.heap.size w1 w3) := B2.out.trans (b3.mono B2.out.size)
    obtain ⟨m, hm⟩ : ∃ m, m = newPl ds ts := ⟨_, rfl⟩
    have HM0 : Hid (m = newPl ds ts ∧ m.steps = 0) := ⟨hm, by rw [hm]; rfl⟩
    have Q1 : Hid (P1 W0 w3 c1 gx m) := by show P1 _ _ _ _ _; rw [hm]; exact begin1 (by rw [← HB.out]; exact (HLD.out w2 B2.out).2.2.2) h1 h2 h3 b3
    clear b3 h1 h2 h3 hm
    go_upto_region 3 with fail
    refine wp_region_lit ?_
    refine wpList_load agg24 (.tmp 2) rfl rfl B 0 rfl [vd, vt] rfl (HLD.out w3 B3.out).1 ?_
    simp only [Act.put, List.setIfInBounds_toArray, List.set_cons_succ, List.set_cons_zero]
    refine wpList_callF en10 [.tmp 44] _ rfl rfl [.agg #[vd, vt]] rfl ?_
    refine (refNew_any w3 c1 4 (by decide) (by decide) vd vt ds ts (HLD.out w3 B3.out).2.1 (HLD.out w3 B3.out).2.2.1 (by omega) (by omega)).mono ?_
    intro e w4 hr
    rcases hr with h | ⟨_, gy, c2, rfl, _, h1, h2, hf, h3, b4⟩
    · exact absurd h.1 (by rw [HOK.out]; decide)
    refine ⟨_, rfl, ?_⟩
    have Q2 : Hid (P2 W0 w4 c2 gx gy m) := begin2 Q1.out h1 h2 hf (by rw [HM0.out.1]; exact h3) b4
    clear b4 h1 h2 h3 hf
    go_upto_region 8 with fail
    refine wp_region_lit ?_
    refine wl_mv (.tmp 6) rfl rfl (ptr gx) rfl ?_
    simp only [Act.put, List.setIfInBounds_toArray, List.set_cons_succ, List.set_cons_zero]
    refine wpList_callF en12 [.tmp 64] _ rfl rfl [ptr gx] rfl ?_
    refine (Q2.out.x.clone (by rw [HM0.out.2]; decide) 6).mono ?_
    rintro e w5 ⟨gz, c3, rfl, _, h1, h2, h3, b5⟩
    refine ⟨_, rfl, ?_⟩
    have Q3 : Hid (P3 W0 w5 c3 gx gy gz m) := begin3 Q2.out h1 h2 h3 b5
    clear b5 h1 h2 h3
    go_upto_region 9 with fail
    refine wp_region_lit ?_
    refine wl_mv (.tmp 8) rfl rfl (ptr gy) rfl ?_
    simp only [Act.put, List.setIfInBounds_toArray, List.set_cons_succ, List.set_cons_zero]
    refine wpList_callF en13 [.tmp 66] _ rfl rfl [ptr gy] rfl ?_
    refine (Q3.out.y.clone (by decide) (by rw [HM0.out.2]; decide) 8 (by decide) (by decide)).mono ?_
    rintro e w6 ⟨gw, c4, rfl, _, h1, h2, h3, b6⟩
    refine ⟨_, rfl, ?_⟩
    have Q4 : Hid (LoopQ W0 0 (ptr gx) (ptr gy) (ptr gz) (ptr gw) w6) := ⟨c4, 10, 2, gx, 4, gy, 6, gz, 8, gw, m, m, rfl, rfl, rfl, rfl, begin4 Q3.out h1 h2 h3 b6, by rw [HM0.out.2]; decide, by rw [HM0.out.2]; decide⟩
    clear b6 h1 h2 h3 Q1 Q2 Q3 HLD B2 B3 HM0 HOK HD HT
    go_upto_region 12 with fail
    go_wp2_with fail
    go_loopw [6, 8, 10, 11, 12] (fun sx sy sz sw si W => ∃ i : Nat, i ≤ N ∧ si = .int .i64 i ∧ LoopQ W0 i sx sy sz sw W) (fun _ _ _ _ si _ => N - (intOf si).toNat)
    case atStart => exact ⟨0, Nat.zero_le _, rfl, Q4.out⟩
    case round =>
      clear Q4
      obtain ⟨i, hi, rfl, c, T, tx, gx, ty, gy, tz, gz, tw, gw, m1, m2, rfl, rfl, rfl, rfl, q, hs1, hs2⟩ := hrel
      have HQ : Hid (Quad W0 wr c T tx gx m1 ty gy m1 tz gz m2 tw gw m2) := q
      have HS : Hid (m1.steps ≤ i ∧ m2.steps ≤ i) := ⟨hs1, hs2⟩
      clear q hs1 hs2
      by_cases hlt : i < N
      · have hlt' : decide ((i : Int) < (N : Int)) = true := decide_eq_true (by omega)
        obtain ⟨bl, off, o, rfl, ho, hcs⟩ := HOP.out i hlt
        have HO : Hid (OpIn W0 o ∧ ∀ j v, o.cells[j]? = some v → wr.cell? ⟨bl, off + i * 7 + j, none⟩ = some v) := ⟨ho, fun j v hj => by
          have hj7 : j < 7 := by
            have := (List.getElem?_eq_some_iff.1 hj).1
            exact this
          have h1 := hcs j hj7
          rw [hj] at h1
          rw [HQ.out.bel.cell (by show bl < _; exact block_lt_of_cell h1), Nat.add_assoc]
          exact h1⟩
        clear ho hcs
        go_upto_region 15 with (refine wl_slen (.tmp 71) rfl rfl (some ⟨bl, off, none⟩) N cl rfl ?_)
        refine wp_region_lit ?_
        refine wl_mv (.tmp 1) rfl rfl (.slice (some ⟨bl, off, none⟩) N cl) rfl ?_
        simp only [Act.put, List.setIfInBounds_toArray, List.set_cons_succ, List.set_cons_zero]
        refine wl_mv (.tmp 12) rfl rfl (.int .i64 (i : Nat)) rfl ?_
        simp only [Act.put, List.setIfInBounds_toArray, List.set_cons_succ, List.set_cons_zero]
        refine wl_ix (.tmp 76) (.tmp 77) rfl rfl _ (.pointer (some ⟨bl, off + i * 7, none⟩)) _ rfl rfl (idx35 bl off N cl i hlt) ?_
        simp only [Act.put, List.setIfInBounds_toArray, List.set_cons_succ, List.set_cons_zero]
        refine wpList_load agg39 (.tmp 78) rfl rfl bl (off + i * 7) rfl o.cells rfl HO.out.2 ?_
        simp only [Act.put, List.setIfInBounds_toArray, List.set_cons_succ, List.set_cons_zero]
        refine wpList_alloc_store agg39 _ zero39 rfl rfl rfl rfl rfl (.tmp 79) rfl o.cells rfl rfl (o.ones W0 HO.out.1) (fun _ => rfl) (fun _ => rfl) ?_
        intro w1 r1 s1 b1
        simp only [Act.put, List.setIfInBounds_toArray, List.set_cons_succ, List.set_cons_zero]
        refine wpList_nil ?_
        obtain ⟨bo, hbo⟩ : ∃ bo, bo = wr.heap.size := ⟨_, rfl⟩
        rw [← hbo] at r1 s1 b1 ⊢
        have HA : Hid (Quad W0 w1 c T tx gx m1 ty gy m1 tz gz m2 tw gw m2 ∧ Scr W0 w1 c tx ty tz tw bo ∧ Row w1 bo 39 o.cells) := ⟨HQ.out.below (by rw [← hbo]; exact b1), HQ.out.fresh bo (by omega) r1.lt, r1⟩
        clear r1 s1 b1 hbo HQ
        go_upto_region 16 with fail
        refine wp_region_lit ?_
        refine wpList_load agg39 (.tmp 13) rfl rfl bo 0 rfl o.cells rfl (fun j v hj => by rw [Nat.zero_add]; exact HA.out.2.2.at j v hj) ?_
        simp only [Act.put, List.setIfInBounds_toArray, List.set_cons_succ, List.set_cons_zero]
        refine wpList_callF en14 [.tmp 80] _ rfl rfl [.agg o.cells.toArray] rfl ?_
        refine (sector_any w1 o.k o.d o.p o.a o.n o.x o.kv).mono ?_
        rintro e w2 ⟨bq, rfl, hbq, r2, b2⟩
        refine ⟨_, rfl, ?_⟩
        simp only [Act.put, List.setIfInBounds_toArray, List.set_cons_succ, List.set_cons_zero]
        refine wl_as (.tmp 81) rfl rfl (.slice (some ⟨bq, 0, none⟩) 64 64) rfl ?_
        simp only [Act.put, List.setIfInBounds_toArray, List.set_cons_succ, List.set_cons_zero]
        refine wpList_nil ?_
        have H0 : Hid (St4 W0 o bo bq (bcells (secOf o.x o.p o.n)) gx m1 gy m1 gz m2 gw m2 w2) := ⟨c, T, tx, ty, tz, tw, HA.out.1.below b2, ⟨HA.out.2.1.below bo b2, HA.out.2.2.later b2 HA.out.2.2.lt⟩, HA.out.1.fresh bq hbq r2.lt, r2⟩
        have HNE : Hid (bo ≠ bq) := by have := HA.out.2.1.2.1; show bo ≠ bq; omega
        clear HA hbq r2 b2
        have k0 := H0.out.row.at 0 _ rfl
        go_upto_block 2 with (go_at_call 15; refine (kind_any w2 o.k HO.out.1.k.1 HO.out.1.k.2).mono ?_; rintro e w3 ⟨rfl, rfl⟩)
        clear k0
        obtain ⟨kd, hkd⟩ : ∃ kd, kd = kindOf o.k := ⟨_, rfl⟩
        rw [← hkd]
        have hk0 : 0 ≤ kd ∧ kd < 14 := by rw [hkd]; exact kindOf_lt _
        clear hkd
        have hm1 : m1.steps < 1048576 := by have := HS.out; omega
        have hm2 : m2.steps < 1048576 := by have := HS.out; omega
        go_cut [6, 8, 10, 11] from 85 to 266 (fun sx sy sz sw W => SwQ W0 o bo bq i sx sy sz sw W)
        case first =>
          obtain ⟨S, hS0⟩ : ∃ S, S = secOf o.x o.p o.n := ⟨_, rfl⟩
          obtain ⟨C, hC0⟩ : ∃ C, C = bcells (secOf o.x o.p o.n) := ⟨_, rfl⟩
          have HC64 : Hid (C.length = 64) := by show _ = _; rw [hC0, bcells_length]; simp [secOf, ones]
          have HSL : Hid (SliceIn w2 (.slice (some ⟨bq, 0, none⟩) 64 64) S) := by rw [hS0]; exact sec_in H0.out.bytes HO.out.1.b
          have sec_in : ∀ {W : World} {b : Nat}, Row W b 5 (bcells (secOf o.x o.p o.n)) → o.x < 256 → SliceIn W (.slice (some ⟨b, 0, none⟩) 64 64) S := fun h1 h2 => by rw [hS0]; exact sec_in h1 h2
          rw [← hC0] at H0
          clear hC0 hS0
          have hcase : kd = 0 ∨ kd = 1 ∨ kd = 2 ∨ kd = 3 ∨ kd = 4 ∨ kd = 5 ∨ kd = 6 ∨ kd = 7 ∨ kd = 8 ∨ kd = 9 ∨ kd = 10 ∨ kd = 11 ∨ kd = 12 ∨ kd = 13 := by omega
          clear hk0
          rcases hcase with rfl | rfl | rfl | rfl | rfl | rfl | rfl | rfl | rfl | rfl | rfl | rfl | rfl | rfl
          · as_aux_lemma =>
              obtain ⟨z, hz⟩ : ∃ z, z = (m1.write o.d o.p S).1 := ⟨_, rfl⟩
              obtain ⟨M, hM⟩ : ∃ M, M = (m1.write o.d o.p S).2 := ⟨_, rfl⟩
              have HM : Hid (M.steps ≤ i + 1) := by show _ ≤ _; rw [hM]; have h1 := m1.write_le o.d o.p S; have h2 := HS.out; omega
              have CX : Hid (Calls Try.prog 16 #[ptr gx, .int .i64 o.d, .int .i64 o.p, .slice (some ⟨bq, 0, none⟩) 64 64] w2 fun e W' => e = .returned (.int .i64 z) ∧ St4 W0 o bo bq C gx M gy m1 gz m2 gw m2 W') := by show Calls _ _ _ _ _; rw [hz, hM]; exact H0.out.writeX (by omega) o.d o.p _ S HSL.out
              have CY : Hid (∀ W v, St4 W0 o bo bq C gx M gy m1 gz m2 gw m2 W → SliceIn W v S → (∀ b, v.ownBlock = some b → b ≠ gy) → Calls Try.prog 17 #[ptr gy, .int .i64 o.d, .int .i64 o.p, v] W fun e W' => e = .returned (.int .i64 z) ∧ St4 W0 o bo bq C gx M gy M gz m2 gw m2 W') := fun W v h1 h2 h3 => by have h4 := h1.writeY (by omega) o.d o.p v S h2 h3; rw [← hz, ← hM] at h4; exact h4
              clear hz hM
              have k1 := H0.out.row.at 1 _ rfl
              have k2 := H0.out.row.at 2 _ rfl
              go_upto_region 21 with (go_at_call 16; refine CX.out.mono ?_; rintro e w3 ⟨rfl, h3⟩; have H3 : Hid (St4 W0 o bo bq C gx M gy m1 gz m2 gw m2 w3) := h3; clear h3)
              clear k1 k2
              refine wp_region_held (S := fun X => Row X bo 39 o.cells) (by kernel_rfl) ?_
              show wpAnyH _ _ _ _ _ 9 (Array.replicate 9 false) _ _
              obtain ⟨X, hX⟩ : ∃ X : World, X = { w3 with drawn := w3.drawn + 1 } := ⟨_, rfl⟩
              rw [← hX]
              have HX : Hid (St4 W0 o bo bq C gx M gy m1 gz m2 gw m2 X) := H3.out.below (by rw [hX]; exact ⟨rfl, rfl, rfl, Nat.le_refl _, fun _ _ => rfl⟩)
              have hS : Row X bo 39 o.cells := HX.out.row
              clear hX
              refine takeH (i := 0) (some 95) rfl rfl (by kernel_rfl) (by kernel_rfl) (by kernel_rfl) (fun _ _ _ h => h) (hMove rfl (.tmp 8) rfl (ptr gy) rfl) hS ?_
              simp only [Act.put, List.setIfInBounds_toArray, List.set_cons_succ, List.set_cons_zero]
              refine takeH (i := 1) (some 96) rfl rfl (by kernel_rfl) (by kernel_rfl) (by kernel_rfl) (fun _ _ _ h => h) (hField f39_1 rfl (.tmp 13) rfl bo 0 rfl) hS ?_
              simp only [Act.put, List.setIfInBounds_toArray, List.set_cons_succ, List.set_cons_zero]
              refine takeH (i := 2) (some 97) rfl rfl (by kernel_rfl) (by kernel_rfl) (by kernel_rfl) (fun _ _ _ h => h) (hLoad o3 rfl (.tmp 96) rfl bo (0 + 1) rfl (.int .i64 o.d) (fun _ h => h.at 1 _ rfl)) hS ?_
              simp only [Act.put, List.setIfInBounds_toArray, List.set_cons_succ, List.set_cons_zero]
              refine takeH (i := 3) (some 98) rfl rfl (by kernel_rfl) (by kernel_rfl) (by kernel_rfl) (fun _ _ _ h => h) (hField f39_2 rfl (.tmp 13) rfl bo 0 rfl) hS ?_
              simp only [Act.put, List.setIfInBounds_toArray, List.set_cons_succ, List.set_cons_zero]
              refine takeH (i := 4) (some 99) rfl rfl (by kernel_rfl) (by kernel_rfl) (by kernel_rfl) (fun _ _ _ h => h) (hLoad o3 rfl (.tmp 98) rfl bo (0 + 2) rfl (.int .i64 o.p) (fun _ h => h.at 2 _ rfl)) hS ?_
              simp only [Act.put, List.setIfInBounds_toArray, List.set_cons_succ, List.set_cons_zero]
              refine takeH (i := 5) (some 100) rfl rfl (by kernel_rfl) (by kernel_rfl) (by kernel_rfl) (fun _ _ _ h => h) (hLoadA agg39 rfl (.tmp 13) rfl bo rfl o.cells rfl (fun _ h => h)) hS ?_
              simp only [Act.put, List.setIfInBounds_toArray, List.set_cons_succ, List.set_cons_zero]
              refine oneH (i := 6) (by kernel_rfl) ?_
              refine opCallA (some 101) rfl rfl rfl 14 _ (run_call en14 [.tmp 100] _ rfl [.agg o.cells.toArray] rfl) ?_
              refine (sector_any X o.k o.d o.p o.a o.n o.x o.kv).mono ?_
              rintro e w4 ⟨bs, rfl, hbs, r4, b4⟩
              refine ⟨_, rfl, ?_⟩
              have H4 : Hid (St4 W0 o bo bq C gx M gy m1 gz m2 gw m2 w4) := HX.out.below b4
              have HGY : Hid (∀ b, (Value.slice (some ⟨bs, 0, none⟩) 64 64).ownBlock = some b → b ≠ gy) := fun b hb => by have hb2 : bs = b := (by injection hb); have := HX.out.gy_lt; omega
              have HR4 : Hid (SliceIn w4 (.slice (some ⟨bs, 0, none⟩) 64 64) S) := sec_in r4 HO.out.1.b
              clear r4 b4 hbs hS
              refine ⟨H4.out.row, ?_⟩
              simp only [Act.put, List.setIfInBounds_toArray, List.set_cons_succ, List.set_cons_zero]
              refine oneH (i := 7) (by kernel_rfl) ?_
              refine opCallA (some 102) rfl rfl rfl 17 _ (run_call en17 [.tmp 95, .tmp 97, .tmp 99, .tmp 101] _ rfl [ptr gy, .int .i64 o.d, .int .i64 o.p, .slice (some ⟨bs, 0, none⟩) 64 64] rfl) ?_
              refine (CY.out w4 _ H4.out HR4.out HGY.out).mono ?_
              rintro e w5 ⟨rfl, h5⟩
              refine ⟨_, rfl, ?_⟩
              have H5 : Hid (St4 W0 o bo bq C gx M gy M gz m2 gw m2 w5) := h5
              clear h5
              refine ⟨H5.out.row, ?_⟩
              simp only [Act.put, List.setIfInBounds_toArray, List.set_cons_succ, List.set_cons_zero]
              refine takeH (i := 8) (some 16) rfl rfl (by kernel_rfl) (by kernel_rfl) (by kernel_rfl) (fun _ _ _ h => h) (hAssign rfl (.tmp 102) rfl (.int .i64 z) rfl) H5.out.row ?_
              simp only [Act.put, List.setIfInBounds_toArray, List.set_cons_succ, List.set_cons_zero]
              refine wpAnyH_done (by kernel_rfl) ?_ _
              have hzz : (z != z) = false := by simp
              go_wp2_with fail
              go_meet
              case rel => exact ⟨gx, gy, gz, gw, _, _, _, rfl, rfl, rfl, rfl, HC64.out, H5.out, HM.out, (by have := HS.out; omega)⟩
          · as_aux_lemma =>
              obtain ⟨z, hz⟩ : ∃ z, z = (m1.write o.d o.p S).1 := ⟨_, rfl⟩
              obtain ⟨M, hM⟩ : ∃ M, M = (m1.write o.d o.p S).2 := ⟨_, rfl⟩
              have HM : Hid (M.steps ≤ i + 1) := by show _ ≤ _; rw [hM]; have h1 := m1.write_le o.d o.p S; have h2 := HS.out; omega
              have CX : Hid (Calls Try.prog 16 #[ptr gx, .int .i64 o.d, .int .i64 o.p, .slice (some ⟨bq, 0, none⟩) 64 64] w2 fun e W' => e = .returned (.int .i64 z) ∧ St4 W0 o bo bq C gx M gy m1 gz m2 gw m2 W') := by show Calls _ _ _ _ _; rw [hz, hM]; exact H0.out.writeX (by omega) o.d o.p _ S HSL.out
              have CY : Hid (∀ W v, St4 W0 o bo bq C gx M gy m1 gz m2 gw m2 W → SliceIn W v S → (∀ b, v.ownBlock = some b → b ≠ gy) → Calls Try.prog 17 #[ptr gy, .int .i64 o.d, .int .i64 o.p, v] W fun e W' => e = .returned (.int .i64 z) ∧ St4 W0 o bo bq C gx M gy M gz m2 gw m2 W') := fun W v h1 h2 h3 => by have h4 := h1.writeY (by omega) o.d o.p v S h2 h3; rw [← hz, ← hM] at h4; exact h4
              clear hz hM
              have k1 := H0.out.row.at 1 _ rfl
              have k2 := H0.out.row.at 2 _ rfl
              go_upto_region 21 with (go_at_call 16; refine CX.out.mono ?_; rintro e w3 ⟨rfl, h3⟩; have H3 : Hid (St4 W0 o bo bq C gx M gy m1 gz m2 gw m2 w3) := h3; clear h3)
              clear k1 k2
              refine wp_region_held (S := fun X => Row X bo 39 o.cells) (by kernel_rfl) ?_
              show wpAnyH _ _ _ _ _ 9 (Array.replicate 9 false) _ _
              obtain ⟨X, hX⟩ : ∃ X : World, X = { w3 with drawn := w3.drawn + 1 } := ⟨_, rfl⟩
              rw [← hX]
              have HX : Hid (St4 W0 o bo bq C gx M gy m1 gz m2 gw m2 X) := H3.out.below (by rw [hX]; exact ⟨rfl, rfl, rfl, Nat.le_refl _, fun _ _ => rfl⟩)
              have hS : Row X bo 39 o.cells := HX.out.row
              clear hX
              refine takeH (i := 0) (some 95) rfl rfl (by kernel_rfl) (by kernel_rfl) (by kernel_rfl) (fun _ _ _ h => h) (hMove rfl (.tmp 8) rfl (ptr gy) rfl) hS ?_
              simp only [Act.put, List.setIfInBounds_toArray, List.set_cons_succ, List.set_cons_zero]
              refine takeH (i := 1) (some 96) rfl rfl (by kernel_rfl) (by kernel_rfl) (by kernel_rfl) (fun _ _ _ h => h) (hField f39_1 rfl (.tmp 13) rfl bo 0 rfl) hS ?_
              simp only [Act.put, List.setIfInBounds_toArray, List.set_cons_succ, List.set_cons_zero]
              refine takeH (i := 2) (some 97) rfl rfl (by kernel_rfl) (by kernel_rfl) (by kernel_rfl) (fun _ _ _ h => h) (hLoad o3 rfl (.tmp 96) rfl bo (0 + 1) rfl (.int .i64 o.d) (fun _ h => h.at 1 _ rfl)) hS ?_
              simp only [Act.put, List.setIfInBounds_toArray, List.set_cons_succ, List.set_cons_zero]
              refine takeH (i := 3) (some 98) rfl rfl (by kernel_rfl) (by kernel_rfl) (by kernel_rfl) (fun _ _ _ h => h) (hField f39_2 rfl (.tmp 13) rfl bo 0 rfl) hS ?_
              simp only [Act.put, List.setIfInBounds_toArray, List.set_cons_succ, List.set_cons_zero]
              refine takeH (i := 4) (some 99) rfl rfl (by kernel_rfl) (by kernel_rfl) (by kernel_rfl) (fun _ _ _ h => h) (hLoad o3 rfl (.tmp 98) rfl bo (0 + 2) rfl (.int .i64 o.p) (fun _ h => h.at 2 _ rfl)) hS ?_
              simp only [Act.put, List.setIfInBounds_toArray, List.set_cons_succ, List.set_cons_zero]
              refine takeH (i := 5) (some 100) rfl rfl (by kernel_rfl) (by kernel_rfl) (by kernel_rfl) (fun _ _ _ h => h) (hLoadA agg39 rfl (.tmp 13) rfl bo rfl o.cells rfl (fun _ h => h)) hS ?_
              simp only [Act.put, List.setIfInBounds_toArray, List.set_cons_succ, List.set_cons_zero]
              refine oneH (i := 6) (by kernel_rfl) ?_
              refine opCallA (some 101) rfl rfl rfl 14 _ (run_call en14 [.tmp 100] _ rfl [.agg o.cells.toArray] rfl) ?_
              refine (sector_any X o.k o.d o.p o.a o.n o.x o.kv).mono ?_
              rintro e w4 ⟨bs, rfl, hbs, r4, b4⟩
              refine ⟨_, rfl, ?_⟩
              have H4 : Hid (St4 W0 o bo bq C gx M gy m1 gz m2 gw m2 w4) := HX.out.below b4
              have HGY : Hid (∀ b, (Value.slice (some ⟨bs, 0, none⟩) 64 64).ownBlock = some b → b ≠ gy) := fun b hb => by have hb2 : bs = b := (by injection hb); have := HX.out.gy_lt; omega
              have HR4 : Hid (SliceIn w4 (.slice (some ⟨bs, 0, none⟩) 64 64) S) := sec_in r4 HO.out.1.b
              clear r4 b4 hbs hS
              refine ⟨H4.out.row, ?_⟩
              simp only [Act.put, List.setIfInBounds_toArray, List.set_cons_succ, List.set_cons_zero]
              refine oneH (i := 7) (by kernel_rfl) ?_
              refine opCallA (some 102) rfl rfl rfl 17 _ (run_call en17 [.tmp 95, .tmp 97, .tmp 99, .tmp 101] _ rfl [ptr gy, .int .i64 o.d, .int .i64 o.p, .slice (some ⟨bs, 0, none⟩) 64 64] rfl) ?_
              refine (CY.out w4 _ H4.out HR4.out HGY.out).mono ?_
              rintro e w5 ⟨rfl, h5⟩
              refine ⟨_, rfl, ?_⟩
              have H5 : Hid (St4 W0 o bo bq C gx M gy M gz m2 gw m2 w5) := h5
              clear h5
              refine ⟨H5.out.row, ?_⟩
              simp only [Act.put, List.setIfInBounds_toArray, List.set_cons_succ, List.set_cons_zero]
              refine takeH (i := 8) (some 16) rfl rfl (by kernel_rfl) (by kernel_rfl) (by kernel_rfl) (fun _ _ _ h => h) (hAssign rfl (.tmp 102) rfl (.int .i64 z) rfl) H5.out.row ?_
              simp only [Act.put, List.setIfInBounds_toArray, List.set_cons_succ, List.set_cons_zero]
              refine wpAnyH_done (by kernel_rfl) ?_ _
              have hzz : (z != z) = false := by simp
              go_wp2_with fail
              go_meet
              case rel => exact ⟨gx, gy, gz, gw, _, _, _, rfl, rfl, rfl, rfl, HC64.out, H5.out, HM.out, (by have := HS.out; omega)⟩
          · as_aux_lemma =>
              obtain ⟨n, hn⟩ : ∃ n : Int, n = ((m1.append o.d S).1 : Int) := ⟨_, rfl⟩
              obtain ⟨z, hz⟩ : ∃ z, z = (m1.append o.d S).2.1 := ⟨_, rfl⟩
              obtain ⟨M, hM⟩ : ∃ M, M = (m1.append o.d S).2.2 := ⟨_, rfl⟩
              have HM : Hid (M.steps ≤ i + 1) := by show _ ≤ _; rw [hM]; have h1 := m1.append_le o.d S; have h2 := HS.out; omega
              have CX : Hid (Calls Try.prog 18 #[ptr gx, .int .i64 o.d, .slice (some ⟨bq, 0, none⟩) 64 64] w2 fun e W' => e = .returned (.tuple #[.int .i64 n, .int .i64 z]) ∧ St4 W0 o bo bq C gx M gy m1 gz m2 gw m2 W') := by show Calls _ _ _ _ _; rw [hn, hz, hM]; exact H0.out.appendX (by omega) o.d _ S HSL.out
              have CY : Hid (∀ W v, St4 W0 o bo bq C gx M gy m1 gz m2 gw m2 W → SliceIn W v S → (∀ b, v.ownBlock = some b → b ≠ gy) → Calls Try.prog 19 #[ptr gy, .int .i64 o.d, v] W fun e W' => e = .returned (.tuple #[.int .i64 n, .int .i64 z]) ∧ St4 W0 o bo bq C gx M gy M gz m2 gw m2 W') := fun W v h1 h2 h3 => by have h4 := h1.appendY (by omega) o.d v S h2 h3; rw [← hn, ← hz, ← hM] at h4; exact h4
              clear hz hM hn
              have k1 := H0.out.row.at 1 _ rfl
              go_upto_region 27 with (go_at_call 18; refine CX.out.mono ?_; rintro e w3 ⟨rfl, h3⟩; have H3 : Hid (St4 W0 o bo bq C gx M gy m1 gz m2 gw m2 w3) := h3; clear h3)
              clear k1
              refine wp_region_held (S := fun X => Row X bo 39 o.cells) (by kernel_rfl) ?_
              show wpAnyH _ _ _ _ _ 11 (Array.replicate 11 false) _ _
              obtain ⟨X, hX⟩ : ∃ X : World, X = { w3 with drawn := w3.drawn + 1 } := ⟨_, rfl⟩
              rw [← hX]
              have HX : Hid (St4 W0 o bo bq C gx M gy m1 gz m2 gw m2 X) := H3.out.below (by rw [hX]; exact ⟨rfl, rfl, rfl, Nat.le_refl _, fun _ _ => rfl⟩)
              have hS : Row X bo 39 o.cells := HX.out.row
              clear hX
              refine takeH (i := 0) (some 118) rfl rfl (by kernel_rfl) (by kernel_rfl) (by kernel_rfl) (fun _ _ _ h => h) (hMove rfl (.tmp 8) rfl (ptr gy) rfl) hS ?_
              simp only [Act.put, List.setIfInBounds_toArray, List.set_cons_succ, List.set_cons_zero]
              refine takeH (i := 1) (some 119) rfl rfl (by kernel_rfl) (by kernel_rfl) (by kernel_rfl) (fun _ _ _ h => h) (hField f39_1 rfl (.tmp 13) rfl bo 0 rfl) hS ?_
              simp only [Act.put, List.setIfInBounds_toArray, List.set_cons_succ, List.set_cons_zero]
              refine takeH (i := 2) (some 120) rfl rfl (by kernel_rfl) (by kernel_rfl) (by kernel_rfl) (fun _ _ _ h => h) (hLoad o3 rfl (.tmp 119) rfl bo (0 + 1) rfl (.int .i64 o.d) (fun _ h => h.at 1 _ rfl)) hS ?_
              simp only [Act.put, List.setIfInBounds_toArray, List.set_cons_succ, List.set_cons_zero]
              refine takeH (i := 3) (some 121) rfl rfl (by kernel_rfl) (by kernel_rfl) (by kernel_rfl) (fun _ _ _ h => h) (hLoadA agg39 rfl (.tmp 13) rfl bo rfl o.cells rfl (fun _ h => h)) hS ?_
              simp only [Act.put, List.setIfInBounds_toArray, List.set_cons_succ, List.set_cons_zero]
              refine oneH (i := 4) (by kernel_rfl) ?_
              refine opCallA (some 122) rfl rfl rfl 14 _ (run_call en14 [.tmp 121] _ rfl [.agg o.cells.toArray] rfl) ?_
              refine (sector_any X o.k o.d o.p o.a o.n o.x o.kv).mono ?_
              rintro e w4 ⟨bs, rfl, hbs, r4, b4⟩
              refine ⟨_, rfl, ?_⟩
              have H4 : Hid (St4 W0 o bo bq C gx M gy m1 gz m2 gw m2 w4) := HX.out.below b4
              have HGY : Hid (∀ b, (Value.slice (some ⟨bs, 0, none⟩) 64 64).ownBlock = some b → b ≠ gy) := fun b hb => by have hb2 : bs = b := (by injection hb); have := HX.out.gy_lt; omega
              have HR4 : Hid (SliceIn w4 (.slice (some ⟨bs, 0, none⟩) 64 64) S) := sec_in r4 HO.out.1.b
              clear r4 b4 hbs hS
              refine ⟨H4.out.row, ?_⟩
              simp only [Act.put, List.setIfInBounds_toArray, List.set_cons_succ, List.set_cons_zero]
              refine oneH (i := 5) (by kernel_rfl) ?_
              refine opCallA (some 123) rfl rfl rfl 19 _ (run_call en19 [.tmp 118, .tmp 120, .tmp 122] _ rfl [ptr gy, .int .i64 o.d, .slice (some ⟨bs, 0, none⟩) 64 64] rfl) ?_
              refine (CY.out w4 _ H4.out HR4.out HGY.out).mono ?_
              rintro e w5 ⟨rfl, h5⟩
              refine ⟨_, rfl, ?_⟩
              have H5 : Hid (St4 W0 o bo bq C gx M gy M gz m2 gw m2 w5) := h5
              clear h5
              have hS5 := H5.out.row
              refine ⟨hS5, ?_⟩
              simp only [Act.put, List.setIfInBounds_toArray, List.set_cons_succ, List.set_cons_zero]
              refine takeH (i := 6) (some 117) rfl rfl (by kernel_rfl) (by kernel_rfl) (by kernel_rfl) (fun _ _ _ h => h) (hMove rfl (.tmp 123) rfl (.tuple #[.int .i64 n, .int .i64 z]) rfl) hS5 ?_
              simp only [Act.put, List.setIfInBounds_toArray, List.set_cons_succ, List.set_cons_zero]
              refine takeH (i := 7) (some 124) rfl rfl (by kernel_rfl) (by kernel_rfl) (by kernel_rfl) (fun _ _ _ h => h) (hExtract rfl (.tmp 117) 0 rfl (.int .i64 n) (.int .i64 z) rfl (.int .i64 n) rfl) hS5 ?_
              simp only [Act.put, List.setIfInBounds_toArray, List.set_cons_succ, List.set_cons_zero]
              refine takeH (i := 8) (some 125) rfl rfl (by kernel_rfl) (by kernel_rfl) (by kernel_rfl) (fun _ _ _ h => h) (hExtract rfl (.tmp 117) 1 rfl (.int .i64 n) (.int .i64 z) rfl (.int .i64 z) rfl) hS5 ?_
              simp only [Act.put, List.setIfInBounds_toArray, List.set_cons_succ, List.set_cons_zero]
              refine takeH (i := 9) (some 19) rfl rfl (by kernel_rfl) (by kernel_rfl) (by kernel_rfl) (fun _ _ _ h => h) (hAssign rfl (.tmp 124) rfl (.int .i64 n) rfl) hS5 ?_
              simp only [Act.put, List.setIfInBounds_toArray, List.set_cons_succ, List.set_cons_zero]
              refine takeH (i := 10) (some 20) rfl rfl (by kernel_rfl) (by kernel_rfl) (by kernel_rfl) (fun _ _ _ h => h) (hAssign rfl (.tmp 125) rfl (.int .i64 z) rfl) hS5 ?_
              simp only [Act.put, List.setIfInBounds_toArray, List.set_cons_succ, List.set_cons_zero]
              clear hS5
              refine wpAnyH_done (by kernel_rfl) ?_ _
              have hzz : (z != z) = false := by simp
              go_wp2_with fail
              go_meet
              case rel => exact ⟨gx, gy, gz, gw, _, _, _, rfl, rfl, rfl, rfl, HC64.out, H5.out, HM.out, (by have := HS.out; omega)⟩
          · as_aux_lemma =>
              obtain ⟨n, hn⟩ : ∃ n : Int, n = ((m1.append o.d S).1 : Int) := ⟨_, rfl⟩
              obtain ⟨z, hz⟩ : ∃ z, z = (m1.append o.d S).2.1 := ⟨_, rfl⟩
              obtain ⟨M, hM⟩ : ∃ M, M = (m1.append o.d S).2.2 := ⟨_, rfl⟩
              have HM : Hid (M.steps ≤ i + 1) := by show _ ≤ _; rw [hM]; have h1 := m1.append_le o.d S; have h2 := HS.out; omega
              have CX : Hid (Calls Try.prog 18 #[ptr gx, .int .i64 o.d, .slice (some ⟨bq, 0, none⟩) 64 64] w2 fun e W' => e = .returned (.tuple #[.int .i64 n, .int .i64 z]) ∧ St4 W0 o bo bq C gx M gy m1 gz m2 gw m2 W') := by show Calls _ _ _ _ _; rw [hn, hz, hM]; exact H0.out.appendX (by omega) o.d _ S HSL.out
              have CY : Hid (∀ W v, St4 W0 o bo bq C gx M gy m1 gz m2 gw m2 W → SliceIn W v S → (∀ b, v.ownBlock = some b → b ≠ gy) → Calls Try.prog 19 #[ptr gy, .int .i64 o.d, v] W fun e W' => e = .returned (.tuple #[.int .i64 n, .int .i64 z]) ∧ St4 W0 o bo bq C gx M gy M gz m2 gw m2 W') := fun W v h1 h2 h3 => by have h4 := h1.appendY (by omega) o.d v S h2 h3; rw [← hn, ← hz, ← hM] at h4; exact h4
              clear hz hM hn
              have k1 := H0.out.row.at 1 _ rfl
              go_upto_region 27 with (go_at_call 18; refine CX.out.mono ?_; rintro e w3 ⟨rfl, h3⟩; have H3 : Hid (St4 W0 o bo bq C gx M gy m1 gz m2 gw m2 w3) := h3; clear h3)
              clear k1
              refine wp_region_held (S := fun X => Row X bo 39 o.cells) (by kernel_rfl) ?_
              show wpAnyH _ _ _ _ _ 11 (Array.replicate 11 false) _ _
              obtain ⟨X, hX⟩ : ∃ X : World, X = { w3 with drawn := w3.drawn + 1 } := ⟨_, rfl⟩
              rw [← hX]
              have HX : Hid (St4 W0 o bo bq C gx M gy m1 gz m2 gw m2 X) := H3.out.below (by rw [hX]; exact ⟨rfl, rfl, rfl, Nat.le_refl _, fun _ _ => rfl⟩)
              have hS : Row X bo 39 o.cells := HX.out.row
              clear hX
              refine takeH (i := 0) (some 118) rfl rfl (by kernel_rfl) (by kernel_rfl) (by kernel_rfl) (fun _ _ _ h => h) (hMove rfl (.tmp 8) rfl (ptr gy) rfl) hS ?_
              simp only [Act.put, List.setIfInBounds_toArray, List.set_cons_succ, List.set_cons_zero]
              refine takeH (i := 1) (some 119) rfl rfl (by kernel_rfl) (by kernel_rfl) (by kernel_rfl) (fun _ _ _ h => h) (hField f39_1 rfl (.tmp 13) rfl bo 0 rfl) hS ?_
              simp only [Act.put, List.setIfInBounds_toArray, List.set_cons_succ, List.set_cons_zero]
              refine takeH (i := 2) (some 120) rfl rfl (by kernel_rfl) (by kernel_rfl) (by kernel_rfl) (fun _ _ _ h => h) (hLoad o3 rfl (.tmp 119) rfl bo (0 + 1) rfl (.int .i64 o.d) (fun _ h => h.at 1 _ rfl)) hS ?_
              simp only [Act.put, List.setIfInBounds_toArray, List.set_cons_succ, List.set_cons_zero]
              refine takeH (i := 3) (some 121) rfl rfl (by kernel_rfl) (by kernel_rfl) (by kernel_rfl) (fun _ _ _ h => h) (hLoadA agg39 rfl (.tmp 13) rfl bo rfl o.cells rfl (fun _ h => h)) hS ?_
              simp only [Act.put, List.setIfInBounds_toArray, List.set_cons_succ, List.set_cons_zero]
              refine oneH (i := 4) (by kernel_rfl) ?_
              refine opCallA (some 122) rfl rfl rfl 14 _ (run_call en14 [.tmp 121] _ rfl [.agg o.cells.toArray] rfl) ?_
              refine (sector_any X o.k o.d o.p o.a o.n o.x o.kv).mono ?_
              rintro e w4 ⟨bs, rfl, hbs, r4, b4⟩
              refine ⟨_, rfl, ?_⟩
              have H4 : Hid (St4 W0 o bo bq C gx M gy m1 gz m2 gw m2 w4) := HX.out.below b4
              have HGY : Hid (∀ b, (Value.slice (some ⟨bs, 0, none⟩) 64 64).ownBlock = some b → b ≠ gy) := fun b hb => by have hb2 : bs = b := (by injection hb); have := HX.out.gy_lt; omega
              have HR4 : Hid (SliceIn w4 (.slice (some ⟨bs, 0, none⟩) 64 64) S) := sec_in r4 HO.out.1.b
              clear r4 b4 hbs hS
              refine ⟨H4.out.row, ?_⟩
              simp only [Act.put, List.setIfInBounds_toArray, List.set_cons_succ, List.set_cons_zero]
              refine oneH (i := 5) (by kernel_rfl) ?_
              refine opCallA (some 123) rfl rfl rfl 19 _ (run_call en19 [.tmp 118, .tmp 120, .tmp 122] _ rfl [ptr gy, .int .i64 o.d, .slice (some ⟨bs, 0, none⟩) 64 64] rfl) ?_
              refine (CY.out w4 _ H4.out HR4.out HGY.out).mono ?_
              rintro e w5 ⟨rfl, h5⟩
              refine ⟨_, rfl, ?_⟩
              have H5 : Hid (St4 W0 o bo bq C gx M gy M gz m2 gw m2 w5) := h5
              clear h5
              have hS5 := H5.out.row
              refine ⟨hS5, ?_⟩
              simp only [Act.put, List.setIfInBounds_toArray, List.set_cons_succ, List.set_cons_zero]
              refine takeH (i := 6) (some 117) rfl rfl (by kernel_rfl) (by kernel_rfl) (by kernel_rfl) (fun _ _ _ h => h) (hMove rfl (.tmp 123) rfl (.tuple #[.int .i64 n, .int .i64 z]) rfl) hS5 ?_
              simp only [Act.put, List.setIfInBounds_toArray, List.set_cons_succ, List.set_cons_zero]
              refine takeH (i := 7) (some 124) rfl rfl (by kernel_rfl) (by kernel_rfl) (by kernel_rfl) (fun _ _ _ h => h) (hExtract rfl (.tmp 117) 0 rfl (.int .i64 n) (.int .i64 z) rfl (.int .i64 n) rfl) hS5 ?_
              simp only [Act.put, List.setIfInBounds_toArray, List.set_cons_succ, List.set_cons_zero]
              refine takeH (i := 8) (some 125) rfl rfl (by kernel_rfl) (by kernel_rfl) (by kernel_rfl) (fun _ _ _ h => h) (hExtract rfl (.tmp 117) 1 rfl (.int .i64 n) (.int .i64 z) rfl (.int .i64 z) rfl) hS5 ?_
              simp only [Act.put, List.setIfInBounds_toArray, List.set_cons_succ, List.set_cons_zero]
              refine takeH (i := 9) (some 19) rfl rfl (by kernel_rfl) (by kernel_rfl) (by kernel_rfl) (fun _ _ _ h => h) (hAssign rfl (.tmp 124) rfl (.int .i64 n) rfl) hS5 ?_
              simp only [Act.put, List.setIfInBounds_toArray, List.set_cons_succ, List.set_cons_zero]
              refine takeH (i := 10) (some 20) rfl rfl (by kernel_rfl) (by kernel_rfl) (by kernel_rfl) (fun _ _ _ h => h) (hAssign rfl (.tmp 125) rfl (.int .i64 z) rfl) hS5 ?_
              simp only [Act.put, List.setIfInBounds_toArray, List.set_cons_succ, List.set_cons_zero]
              clear hS5
              refine wpAnyH_done (by kernel_rfl) ?_ _
              have hzz : (z != z) = false := by simp
              go_wp2_with fail
              go_meet
              case rel => exact ⟨gx, gy, gz, gw, _, _, _, rfl, rfl, rfl, rfl, HC64.out, H5.out, HM.out, (by have := HS.out; omega)⟩
          · as_aux_lemma =>
              go_upto_region 31 with fail
              refine wp_region_lit ?_
              refine wl_mv (.tmp 6) rfl rfl (ptr gx) rfl ?_
              simp only [Act.put, List.setIfInBounds_toArray, List.set_cons_succ, List.set_cons_zero]
              refine wl_fld f39_1 (.tmp 13) rfl rfl bo 0 rfl ?_
              simp only [Act.put, List.setIfInBounds_toArray, List.set_cons_succ, List.set_cons_zero]
              refine wl_ld o3 (.tmp 138) rfl rfl bo (0 + 1) rfl (.int .i64 o.d) (H0.out.row.at 1 _ rfl) ?_
              simp only [Act.put, List.setIfInBounds_toArray, List.set_cons_succ, List.set_cons_zero]
              refine wl_fld f39_2 (.tmp 13) rfl rfl bo 0 rfl ?_
              simp only [Act.put, List.setIfInBounds_toArray, List.set_cons_succ, List.set_cons_zero]
              refine wl_ld o3 (.tmp 140) rfl rfl bo (0 + 2) rfl (.int .i64 o.p) (H0.out.row.at 2 _ rfl) ?_
              simp only [Act.put, List.setIfInBounds_toArray, List.set_cons_succ, List.set_cons_zero]
              refine wpList_callF en20 [.tmp 137, .tmp 139, .tmp 141] _ rfl rfl [ptr gx, .int .i64 o.d, .int .i64 o.p] rfl ?_
              refine (H0.out.readX (by omega) o.d o.p).mono ?_
              intro e w3 hr
              rcases hr with ⟨br, er, cs, rfl, hb1, hb2, hcs, h5⟩ | ⟨er, rfl, h4⟩
              · refine ⟨_, rfl, ?_⟩
                have H3 : Hid (St5 W0 o bo bq C gx m1 gy m1 gz m2 gw m2 br cs w3 ∧ cs.length = 64 ∧ br ≠ bo ∧ br ≠ bq) := ⟨h5, hcs, hb1, hb2⟩
                clear h5 hcs hb1 hb2
                go_upto_region 32 with fail
                go_wp2_with fail
                go_loopw [23] (fun s W => ∃ j : Nat, j ≤ 64 ∧ s = .int .i64 j ∧ ∃ cs, cs.length = 64 ∧ St5 W0 o bo bq C gx m1 gy m1 gz m2 gw m2 br cs W) (fun s _ => 64 - (intOf s).toNat)
                case atStart => exact ⟨0, Nat.zero_le _, rfl, cs, H3.out.2.1, H3.out.1⟩
                case round =>
                  obtain ⟨j, hj, rfl, cs2, hcl, hst⟩ := hrel
                  have HT5 : Hid (St5 W0 o bo bq C gx m1 gy m1 gz m2 gw m2 br cs2 wr ∧ cs2.length = 64) := ⟨hst, hcl⟩
                  clear hcl hst
                  by_cases hj2 : j < 64
                  · have t3 : decide ((j : Int) < 64) = true := decide_eq_true (by omega)
                    go_upto_region 35 with fail
                    refine wp_region_lit ?_
                    refine wl_mv (.tmp 21) rfl rfl (.slice (some ⟨br, 0, none⟩) 64 64) rfl ?_
                    simp only [Act.put, List.setIfInBounds_toArray, List.set_cons_succ, List.set_cons_zero]
                    refine wl_mv (.tmp 23) rfl rfl (.int .i64 (j : Nat)) rfl ?_
                    simp only [Act.put, List.setIfInBounds_toArray, List.set_cons_succ, List.set_cons_zero]
                    refine wl_ix (.tmp 151) (.tmp 152) rfl rfl _ (.pointer (some ⟨br, j, none⟩)) _ rfl rfl (idx40 br j hj2) ?_
                    simp only [Act.put, List.setIfInBounds_toArray, List.set_cons_succ, List.set_cons_zero]
                    refine wl_put size5' (.tmp 153) (.const (.int .u8 99)) rfl rfl rfl br j 5 _ rfl (.int .u8 99) rfl ⟨rfl, rfl⟩ HT5.out.1.row (by rw [HT5.out.2]; exact hj2) ?_
                    refine wpList_nil ?_
                    have HT6 : Hid (St5 W0 o bo bq C gx m1 gy m1 gz m2 gw m2 br (cs2.set j (.int .u8 99)) (wr.setCell ⟨br, j, none⟩ (.int .u8 99))) := HT5.out.1.set H3.out.2.2.1 H3.out.2.2.2 j _
                    generalize wr.setCell ⟨br, j, none⟩ (.int .u8 99) = w4 at HT6 ⊢
                    go_wp2_with fail
                    refine ⟨⟨j + 1, by omega, by go_num, _, by rw [List.length_set]; exact HT5.out.2, HT6.out⟩, ?_⟩
                    simp [intOf]; omega
                  · have t3 : decide ((j : Int) < 64) = false := decide_eq_false (by omega)
                    go_wp2_with fail
                    go_meet
                    case rel => exact ⟨gx, gy, gz, gw, _, _, _, rfl, rfl, rfl, rfl, HC64.out, HT5.out.1.out, (by have := HS.out; omega), (by have := HS.out; omega)⟩
              · refine ⟨_, rfl, ?_⟩
                have H3 : Hid (St4 W0 o bo bq C gx m1 gy m1 gz m2 gw m2 w3) := h4
                clear h4
                go_upto_region 32 with fail
                go_wp2_with fail
                go_loopw [23] (fun s W => s = .int .i64 0 ∧ St4 W0 o bo bq C gx m1 gy m1 gz m2 gw m2 W) (fun _ _ => 0)
                case atStart => exact ⟨rfl, H3.out⟩
                case round =>
                  obtain ⟨rfl, hst⟩ := hrel
                  have HT5 : Hid (St4 W0 o bo bq C gx m1 gy m1 gz m2 gw m2 wr) := hst
                  clear hst
                  go_wp2_with fail
                  go_meet
                  case rel => exact ⟨gx, gy, gz, gw, _, _, _, rfl, rfl, rfl, rfl, HC64.out, HT5.out, (by have := HS.out; omega), (by have := HS.out; omega)⟩
          · as_aux_lemma =>
              obtain ⟨z, hz⟩ : ∃ z, z = (m1.flush o.d).1 := ⟨_, rfl⟩
              obtain ⟨M, hM⟩ : ∃ M, M = (m1.flush o.d).2 := ⟨_, rfl⟩
              have HM : Hid (M.steps ≤ i + 1) := by show _ ≤ _; rw [hM]; have h1 := m1.flush_le o.d; have h2 := HS.out; omega
              have CX : Hid (Calls Try.prog 21 #[ptr gx, .int .i64 o.d] w2 fun e W' => e = .returned (.int .i64 z) ∧ St4 W0 o bo bq C gx M gy m1 gz m2 gw m2 W') := by show Calls _ _ _ _ _; rw [hz, hM]; exact H0.out.flushX (by omega) o.d
              have CY : Hid (∀ W, St4 W0 o bo bq C gx M gy m1 gz m2 gw m2 W → Calls Try.prog 22 #[ptr gy, .int .i64 o.d] W fun e W' => e = .returned (.int .i64 z) ∧ St4 W0 o bo bq C gx M gy M gz m2 gw m2 W') := fun W h1 => by have h4 := h1.flushY (by omega) o.d; rw [← hz, ← hM] at h4; exact h4
              clear hM hz
              have k1 := H0.out.row.at 1 _ rfl
              go_upto_region 38 with (go_at_call 21; refine CX.out.mono ?_; rintro e w3 ⟨rfl, h3⟩; have H3 : Hid (St4 W0 o bo bq C gx M gy m1 gz m2 gw m2 w3) := h3; clear h3)
              clear k1
              have q1 := H3.out.row.at 1 _ rfl
              go_wp2_with (go_at_call 22; refine (CY.out w3 H3.out).mono ?_; rintro e w4 ⟨rfl, h4⟩; have H4 : Hid (St4 W0 o bo bq C gx M gy M gz m2 gw m2 w4) := h4; clear h4)
              go_meet
              case rel => exact ⟨gx, gy, gz, gw, _, _, _, rfl, rfl, rfl, rfl, HC64.out, H4.out, HM.out, (by have := HS.out; omega)⟩
          · as_aux_lemma =>
              obtain ⟨M, hM⟩ : ∃ M, M = m1.fuseTo o.n := ⟨_, rfl⟩
              have HM : Hid (M.steps ≤ i + 1) := by show _ ≤ _; rw [hM]; have h1 := m1.fuse_le o.n; have h2 := HS.out; omega
              have CX : Hid (Calls Try.prog 23 #[ptr gx, .int .i64 o.n] w2 fun e W' => e = .returned (noResult) ∧ St4 W0 o bo bq C gx M gy m1 gz m2 gw m2 W') := by show Calls _ _ _ _ _; rw [hM]; exact H0.out.fuseX o.n HO.out.1.n
              have CY : Hid (∀ W, St4 W0 o bo bq C gx M gy m1 gz m2 gw m2 W → Calls Try.prog 24 #[ptr gy, .int .i64 o.n] W fun e W' => e = .returned (noResult) ∧ St4 W0 o bo bq C gx M gy M gz m2 gw m2 W') := fun W h1 => by have h4 := h1.fuseY o.n HO.out.1.n; rw [← hM] at h4; exact h4
              clear hM
              have k4 := H0.out.row.at 4 _ rfl
              go_upto_region 43 with (go_at_call 23; refine CX.out.mono ?_; rintro e w3 ⟨rfl, h3⟩; have H3 : Hid (St4 W0 o bo bq C gx M gy m1 gz m2 gw m2 w3) := h3; clear h3)
              clear k4
              have q4 := H3.out.row.at 4 _ rfl
              go_wp2_with (go_at_call 24; refine (CY.out w3 H3.out).mono ?_; rintro e w4 ⟨rfl, h4⟩; have H4 : Hid (St4 W0 o bo bq C gx M gy M gz m2 gw m2 w4) := h4; clear h4)
              go_meet
              case rel => exact ⟨gx, gy, gz, gw, _, _, _, rfl, rfl, rfl, rfl, HC64.out, H4.out, HM.out, (by have := HS.out; omega)⟩
          · as_aux_lemma =>
              obtain ⟨M, hM⟩ : ∃ M, M = m1.boot o.ks := ⟨_, rfl⟩
              have HM : Hid (M.steps ≤ i + 1) := by show _ ≤ _; rw [hM]; have h1 := m1.boot_le o.ks; have h2 := HS.out; omega
              have CX : Hid (Calls Try.prog 25 #[ptr gx, o.kv] w2 fun e W' => e = .returned (noResult) ∧ St4 W0 o bo bq C gx M gy m1 gz m2 gw m2 W') := by show Calls _ _ _ _ _; rw [hM]; exact H0.out.bootX (by omega) HO.out.1
              have CY : Hid (∀ W, St4 W0 o bo bq C gx M gy m1 gz m2 gw m2 W → Calls Try.prog 26 #[ptr gy, o.kv] W fun e W' => e = .returned (noResult) ∧ St4 W0 o bo bq C gx M gy M gz m2 gw m2 W') := fun W h1 => by have h4 := h1.bootY (by omega) HO.out.1; rw [← hM] at h4; exact h4
              clear hM
              have k6 := H0.out.row.at 6 _ rfl
              go_upto_region 46 with (go_at_call 25; refine CX.out.mono ?_; rintro e w3 ⟨rfl, h3⟩; have H3 : Hid (St4 W0 o bo bq C gx M gy m1 gz m2 gw m2 w3) := h3; clear h3)
              clear k6
              have q6 := H3.out.row.at 6 _ rfl
              go_wp2_with (go_at_call 26; refine (CY.out w3 H3.out).mono ?_; rintro e w4 ⟨rfl, h4⟩; have H4 : Hid (St4 W0 o bo bq C gx M gy M gz m2 gw m2 w4) := h4; clear h4)
              go_meet
              case rel => exact ⟨gx, gy, gz, gw, _, _, _, rfl, rfl, rfl, rfl, HC64.out, H4.out, HM.out, (by have := HS.out; omega)⟩
          · as_aux_lemma =>
              obtain ⟨z, hz⟩ : ∃ z, z = (m1.rot o.d o.p o.a o.n).1 := ⟨_, rfl⟩
              obtain ⟨M, hM⟩ : ∃ M, M = (m1.rot o.d o.p o.a o.n).2 := ⟨_, rfl⟩
              have HM : Hid (M.steps ≤ i + 1) := by show _ ≤ _; rw [hM]; have h1 := m1.rot_le o.d o.p o.a o.n; have h2 := HS.out; omega
              have CX : Hid (Calls Try.prog 27 #[ptr gx, .int .i64 o.d, .int .i64 o.p, .int .i64 o.a, .int .i64 o.n] w2 fun e W' => e = .returned (.bool z) ∧ St4 W0 o bo bq C gx M gy m1 gz m2 gw m2 W') := by show Calls _ _ _ _ _; rw [hz, hM]; exact H0.out.rotX o.d o.p o.a o.n
              have CY : Hid (∀ W, St4 W0 o bo bq C gx M gy m1 gz m2 gw m2 W → Calls Try.prog 28 #[ptr gy, .int .i64 o.d, .int .i64 o.p, .int .i64 o.a, .int .i64 o.n] W fun e W' => e = .returned (.bool z) ∧ St4 W0 o bo bq C gx M gy M gz m2 gw m2 W') := fun W h1 => by have h4 := h1.rotY o.d o.p o.a o.n; rw [← hz, ← hM] at h4; exact h4
              clear hM hz
              have k1 := H0.out.row.at 1 _ rfl
              have k2 := H0.out.row.at 2 _ rfl
              have k3 := H0.out.row.at 3 _ rfl
              have k4 := H0.out.row.at 4 _ rfl
              go_upto_region 49 with (go_at_call 27; refine CX.out.mono ?_; rintro e w3 ⟨rfl, h3⟩; have H3 : Hid (St4 W0 o bo bq C gx M gy m1 gz m2 gw m2 w3) := h3; clear h3)
              clear k1 k2 k3 k4
              have q1 := H3.out.row.at 1 _ rfl
              have q2 := H3.out.row.at 2 _ rfl
              have q3 := H3.out.row.at 3 _ rfl
              have q4 := H3.out.row.at 4 _ rfl
              go_wp2_with (go_at_call 28; refine (CY.out w3 H3.out).mono ?_; rintro e w4 ⟨rfl, h4⟩; have H4 : Hid (St4 W0 o bo bq C gx M gy M gz m2 gw m2 w4) := h4; clear h4)
              go_meet
              case rel => exact ⟨gx, gy, gz, gw, _, _, _, rfl, rfl, rfl, rfl, HC64.out, H4.out, HM.out, (by have := HS.out; omega)⟩
          · as_aux_lemma =>
              obtain ⟨M, hM⟩ : ∃ M, M = m1.tick o.n := ⟨_, rfl⟩
              have HM : Hid (M.steps ≤ i + 1) := by show _ ≤ _; rw [hM]; have h1 := m1.tick_le o.n; have h2 := HS.out; omega
              have CX : Hid (Calls Try.prog 29 #[ptr gx, .int .i64 o.n] w2 fun e W' => e = .returned (noResult) ∧ St4 W0 o bo bq C gx M gy m1 gz m2 gw m2 W') := by show Calls _ _ _ _ _; rw [hM]; exact H0.out.tickX o.n HO.out.1.n
              have CY : Hid (∀ W, St4 W0 o bo bq C gx M gy m1 gz m2 gw m2 W → Calls Try.prog 30 #[ptr gy, .int .i64 o.n] W fun e W' => e = .returned (noResult) ∧ St4 W0 o bo bq C gx M gy M gz m2 gw m2 W') := fun W h1 => by have h4 := h1.tickY o.n HO.out.1.n; rw [← hM] at h4; exact h4
              clear hM
              have k4 := H0.out.row.at 4 _ rfl
              go_upto_region 54 with (go_at_call 29; refine CX.out.mono ?_; rintro e w3 ⟨rfl, h3⟩; have H3 : Hid (St4 W0 o bo bq C gx M gy m1 gz m2 gw m2 w3) := h3; clear h3)
              clear k4
              have q4 := H3.out.row.at 4 _ rfl
              go_wp2_with (go_at_call 30; refine (CY.out w3 H3.out).mono ?_; rintro e w4 ⟨rfl, h4⟩; have H4 : Hid (St4 W0 o bo bq C gx M gy M gz m2 gw m2 w4) := h4; clear h4)
              go_meet
              case rel => exact ⟨gx, gy, gz, gw, _, _, _, rfl, rfl, rfl, rfl, HC64.out, H4.out, HM.out, (by have := HS.out; omega)⟩
          · as_aux_lemma =>
              go_wp2_with fail
              go_meet
              case rel => exact ⟨gx, gy, gz, gw, _, _, _, rfl, rfl, rfl, rfl, HC64.out, H0.out, (by have := HS.out; omega), (by have := HS.out; omega)⟩
          · as_aux_lemma =>
              go_upto_region 57 with fail
              refine wp_region_lit ?_
              refine wl_mv (.tmp 6) rfl rfl (ptr gx) rfl ?_
              simp only [Act.put, List.setIfInBounds_toArray, List.set_cons_succ, List.set_cons_zero]
              refine wpList_callF en12 [.tmp 225] _ rfl rfl [ptr gx] rfl ?_
              refine (H0.out.cloneX (by omega)).mono ?_
              rintro e w3 ⟨G, rfl, h3⟩
              refine ⟨_, rfl, ?_⟩
              have H3 : Hid (St4 W0 o bo bq C G m1 gy m1 gx m1 gw m2 w3) := h3
              clear h3
              go_upto_region 59 with fail
              refine wp_region_lit ?_
              refine wl_mv (.tmp 8) rfl rfl (ptr gy) rfl ?_
              simp only [Act.put, List.setIfInBounds_toArray, List.set_cons_succ, List.set_cons_zero]
              refine wpList_callF en13 [.tmp 228] _ rfl rfl [ptr gy] rfl ?_
              refine (H3.out.cloneY (by omega)).mono ?_
              rintro e w4 ⟨G2, rfl, h4⟩
              refine ⟨_, rfl, ?_⟩
              have H4 : Hid (St4 W0 o bo bq C G m1 G2 m1 gx m1 gy m1 w4) := h4
              clear h4
              go_wp2_with fail
              go_meet
              case rel => exact ⟨G, G2, gx, gy, _, _, _, rfl, rfl, rfl, rfl, HC64.out, H4.out, (by have := HS.out; omega), (by have := HS.out; omega)⟩
          · as_aux_lemma =>
              go_wp2_with fail
              go_meet
              case rel => exact ⟨gz, gw, gx, gy, _, _, _, rfl, rfl, rfl, rfl, HC64.out, H0.out.swap, (by have := HS.out; omega), (by have := HS.out; omega)⟩
          · as_aux_lemma =>
              have k3 := H0.out.row.at 3 _ rfl
              by_cases ha : o.a < 0
              · have t1 : decide (o.a < 0) = true := decide_eq_true ha
                obtain ⟨n, hnn⟩ : ∃ n : Nat, n = 3 := ⟨_, rfl⟩
                have hn70 : n ≤ 70 := by omega
                have HN3 : Hid ((3 : Int) = (n : Int)) := by show _ = _; omega
                clear hnn
                go_upto_region 69 with fail
                clear k3 t1
                rw [HN3.out]
                clear HN3
                obtain ⟨z, hz⟩ : ∃ z, z = (m1.write o.d o.p (List.replicate n 0)).1 := ⟨_, rfl⟩
                obtain ⟨M, hM⟩ : ∃ M, M = (m1.write o.d o.p (List.replicate n 0)).2 := ⟨_, rfl⟩
                have HM : Hid (M.steps ≤ i + 1) := by show _ ≤ _; rw [hM]; have h1 := m1.write_le o.d o.p (List.replicate n 0); have h2 := HS.out; omega
                have CX : Hid (∀ W v, St4 W0 o bo bq C gx m1 gy m1 gz m2 gw m2 W → SliceIn W v (List.replicate n 0) → Calls Try.prog 16 #[ptr gx, .int .i64 o.d, .int .i64 o.p, v] W fun e W' => e = .returned (.int .i64 z) ∧ St4 W0 o bo bq C gx M gy m1 gz m2 gw m2 W') := fun W v h1 h2 => by have h4 := h1.writeX (by omega) o.d o.p v _ h2; rw [← hz, ← hM] at h4; exact h4
                have CY : Hid (∀ W v, St4 W0 o bo bq C gx M gy m1 gz m2 gw m2 W → SliceIn W v (List.replicate n 0) → (∀ b, v.ownBlock = some b → b ≠ gy) → Calls Try.prog 17 #[ptr gy, .int .i64 o.d, .int .i64 o.p, v] W fun e W' => e = .returned (.int .i64 z) ∧ St4 W0 o bo bq C gx M gy M gz m2 gw m2 W') := fun W v h1 h2 h3 => by have h4 := h1.writeY (by omega) o.d o.p v _ h2 h3; rw [← hz, ← hM] at h4; exact h4
                clear hz hM
                refine wp_region_held (S := fun X => Row X bo 39 o.cells) (by kernel_rfl) ?_
                show wpAnyH _ _ _ _ _ 9 (Array.replicate 9 false) _ _
                obtain ⟨X, hX⟩ : ∃ X : World, X = { w2 with drawn := w2.drawn + 1 } := ⟨_, rfl⟩
                rw [← hX]
                have HX : Hid (St4 W0 o bo bq C gx m1 gy m1 gz m2 gw m2 X) := H0.out.below (by rw [hX]; exact ⟨rfl, rfl, rfl, Nat.le_refl _, fun _ _ => rfl⟩)
                have hS : Row X bo 39 o.cells := HX.out.row
                clear hX
                refine takeH (i := 0) (some 248) rfl rfl (by kernel_rfl) (by kernel_rfl) (by kernel_rfl) (fun _ _ _ h => h) (hMove rfl (.tmp 6) rfl (ptr gx) rfl) hS ?_
                simp only [Act.put, List.setIfInBounds_toArray, List.set_cons_succ, List.set_cons_zero]
                refine takeH (i := 1) (some 249) rfl rfl (by kernel_rfl) (by kernel_rfl) (by kernel_rfl) (fun _ _ _ h => h) (hField f39_1 rfl (.tmp 13) rfl bo 0 rfl) hS ?_
                simp only [Act.put, List.setIfInBounds_toArray, List.set_cons_succ, List.set_cons_zero]
                refine takeH (i := 2) (some 250) rfl rfl (by kernel_rfl) (by kernel_rfl) (by kernel_rfl) (fun _ _ _ h => h) (hLoad o3 rfl (.tmp 249) rfl bo (0 + 1) rfl (.int .i64 o.d) (fun _ h => h.at 1 _ rfl)) hS ?_
                simp only [Act.put, List.setIfInBounds_toArray, List.set_cons_succ, List.set_cons_zero]
                refine takeH (i := 3) (some 251) rfl rfl (by kernel_rfl) (by kernel_rfl) (by kernel_rfl) (fun _ _ _ h => h) (hField f39_2 rfl (.tmp 13) rfl bo 0 rfl) hS ?_
                simp only [Act.put, List.setIfInBounds_toArray, List.set_cons_succ, List.set_cons_zero]
                refine takeH (i := 4) (some 252) rfl rfl (by kernel_rfl) (by kernel_rfl) (by kernel_rfl) (fun _ _ _ h => h) (hLoad o3 rfl (.tmp 251) rfl bo (0 + 2) rfl (.int .i64 o.p) (fun _ h => h.at 2 _ rfl)) hS ?_
                simp only [Act.put, List.setIfInBounds_toArray, List.set_cons_succ, List.set_cons_zero]
                refine takeH (i := 5) (some 253) rfl rfl (by kernel_rfl) (by kernel_rfl) (by kernel_rfl) (fun _ _ _ h => h) (hMove rfl (.tmp 28) rfl (.int .i64 (n : Nat)) rfl) hS ?_
                simp only [Act.put, List.setIfInBounds_toArray, List.set_cons_succ, List.set_cons_zero]
                refine oneH (i := 6) (by kernel_rfl) ?_
                refine opMake40 (some 254) rfl rfl rfl (.tmp 253) (.tmp 253) rfl n hn70 rfl rfl ?_
                intro Y hsl hbel
                have HY : Hid (St4 W0 o bo bq C gx m1 gy m1 gz m2 gw m2 Y ∧ SliceIn Y (.slice (some ⟨X.heap.size, 0, none⟩) n n) (List.replicate n 0)) := ⟨HX.out.below hbel, hsl⟩
                have HGY : Hid (∀ b, (Value.slice (some ⟨X.heap.size, 0, none⟩) n n).ownBlock = some b → b ≠ gy) := fun b hb => by have hb2 : X.heap.size = b := (by injection hb); have := HX.out.gy_lt; omega
                clear hsl hbel hS
                refine ⟨HY.out.1.row, ?_⟩
                simp only [Act.put, List.setIfInBounds_toArray, List.set_cons_succ, List.set_cons_zero]
                refine oneH (i := 7) (by kernel_rfl) ?_
                refine opCallA (some 255) rfl rfl rfl 16 _ (run_call en16' [.tmp 248, .tmp 250, .tmp 252, .tmp 254] _ rfl [ptr gx, .int .i64 o.d, .int .i64 o.p, .slice (some ⟨X.heap.size, 0, none⟩) n n] rfl) ?_
                refine (CX.out Y _ HY.out.1 HY.out.2).mono ?_
                rintro e w5 ⟨rfl, h5⟩
                refine ⟨_, rfl, ?_⟩
                have H5 : Hid (St4 W0 o bo bq C gx M gy m1 gz m2 gw m2 w5) := h5
                clear h5 HY HGY HX
                refine ⟨H5.out.row, ?_⟩
                simp only [Act.put, List.setIfInBounds_toArray, List.set_cons_succ, List.set_cons_zero]
                refine takeH (i := 8) (some 29) rfl rfl (by kernel_rfl) (by kernel_rfl) (by kernel_rfl) (fun _ _ _ h => h) (hAssign rfl (.tmp 255) rfl (.int .i64 z) rfl) H5.out.row ?_
                simp only [Act.put, List.setIfInBounds_toArray, List.set_cons_succ, List.set_cons_zero]
                refine wpAnyH_done (by kernel_rfl) ?_ _
                go_upto_region 70 with fail
                refine wp_region_held (S := fun X => Row X bo 39 o.cells) (by kernel_rfl) ?_
                show wpAnyH _ _ _ _ _ 9 (Array.replicate 9 false) _ _
                obtain ⟨X, hX⟩ : ∃ X : World, X = { w5 with drawn := w5.drawn + 1 } := ⟨_, rfl⟩
                rw [← hX]
                have HX : Hid (St4 W0 o bo bq C gx M gy m1 gz m2 gw m2 X) := H5.out.below (by rw [hX]; exact ⟨rfl, rfl, rfl, Nat.le_refl _, fun _ _ => rfl⟩)
                have hS : Row X bo 39 o.cells := HX.out.row
                clear hX
                refine takeH (i := 0) (some 256) rfl rfl (by kernel_rfl) (by kernel_rfl) (by kernel_rfl) (fun _ _ _ h => h) (hMove rfl (.tmp 8) rfl (ptr gy) rfl) hS ?_
                simp only [Act.put, List.setIfInBounds_toArray, List.set_cons_succ, List.set_cons_zero]
                refine takeH (i := 1) (some 257) rfl rfl (by kernel_rfl) (by kernel_rfl) (by kernel_rfl) (fun _ _ _ h => h) (hField f39_1 rfl (.tmp 13) rfl bo 0 rfl) hS ?_
                simp only [Act.put, List.setIfInBounds_toArray, List.set_cons_succ, List.set_cons_zero]
                refine takeH (i := 2) (some 258) rfl rfl (by kernel_rfl) (by kernel_rfl) (by kernel_rfl) (fun _ _ _ h => h) (hLoad o3 rfl (.tmp 257) rfl bo (0 + 1) rfl (.int .i64 o.d) (fun _ h => h.at 1 _ rfl)) hS ?_
                simp only [Act.put, List.setIfInBounds_toArray, List.set_cons_succ, List.set_cons_zero]
                refine takeH (i := 3) (some 259) rfl rfl (by kernel_rfl) (by kernel_rfl) (by kernel_rfl) (fun _ _ _ h => h) (hField f39_2 rfl (.tmp 13) rfl bo 0 rfl) hS ?_
                simp only [Act.put, List.setIfInBounds_toArray, List.set_cons_succ, List.set_cons_zero]
                refine takeH (i := 4) (some 260) rfl rfl (by kernel_rfl) (by kernel_rfl) (by kernel_rfl) (fun _ _ _ h => h) (hLoad o3 rfl (.tmp 259) rfl bo (0 + 2) rfl (.int .i64 o.p) (fun _ h => h.at 2 _ rfl)) hS ?_
                simp only [Act.put, List.setIfInBounds_toArray, List.set_cons_succ, List.set_cons_zero]
                refine takeH (i := 5) (some 261) rfl rfl (by kernel_rfl) (by kernel_rfl) (by kernel_rfl) (fun _ _ _ h => h) (hMove rfl (.tmp 28) rfl (.int .i64 (n : Nat)) rfl) hS ?_
                simp only [Act.put, List.setIfInBounds_toArray, List.set_cons_succ, List.set_cons_zero]
                refine oneH (i := 6) (by kernel_rfl) ?_
                refine opMake40 (some 262) rfl rfl rfl (.tmp 261) (.tmp 261) rfl n hn70 rfl rfl ?_
                intro Y hsl hbel
                have HY : Hid (St4 W0 o bo bq C gx M gy m1 gz m2 gw m2 Y ∧ SliceIn Y (.slice (some ⟨X.heap.size, 0, none⟩) n n) (List.replicate n 0)) := ⟨HX.out.below hbel, hsl⟩
                have HGY : Hid (∀ b, (Value.slice (some ⟨X.heap.size, 0, none⟩) n n).ownBlock = some b → b ≠ gy) := fun b hb => by have hb2 : X.heap.size = b := (by injection hb); have := HX.out.gy_lt; omega
                clear hsl hbel hS
                refine ⟨HY.out.1.row, ?_⟩
                simp only [Act.put, List.setIfInBounds_toArray, List.set_cons_succ, List.set_cons_zero]
                refine oneH (i := 7) (by kernel_rfl) ?_
                refine opCallA (some 263) rfl rfl rfl 17 _ (run_call en17 [.tmp 256, .tmp 258, .tmp 260, .tmp 262] _ rfl [ptr gy, .int .i64 o.d, .int .i64 o.p, .slice (some ⟨X.heap.size, 0, none⟩) n n] rfl) ?_
                refine (CY.out Y _ HY.out.1 HY.out.2 HGY.out).mono ?_
                rintro e w6 ⟨rfl, h6⟩
                refine ⟨_, rfl, ?_⟩
                have H6 : Hid (St4 W0 o bo bq C gx M gy M gz m2 gw m2 w6) := h6
                clear h6 HY HGY HX
                refine ⟨H6.out.row, ?_⟩
                simp only [Act.put, List.setIfInBounds_toArray, List.set_cons_succ, List.set_cons_zero]
                refine takeH (i := 8) (some 30) rfl rfl (by kernel_rfl) (by kernel_rfl) (by kernel_rfl) (fun _ _ _ h => h) (hAssign rfl (.tmp 263) rfl (.int .i64 z) rfl) H6.out.row ?_
                simp only [Act.put, List.setIfInBounds_toArray, List.set_cons_succ, List.set_cons_zero]
                refine wpAnyH_done (by kernel_rfl) ?_ _
                have hzz : (z != z) = false := by simp
                go_wp2_with fail
                go_meet
                case rel => exact ⟨gx, gy, gz, gw, _, _, _, rfl, rfl, rfl, rfl, HC64.out, H6.out, HM.out, (by have := HS.out; omega)⟩
              · have t1 : decide (o.a < 0) = false := decide_eq_false ha
                by_cases hb : 70 < o.a
                · have t2 : decide (70 < o.a) = true := decide_eq_true hb
                  obtain ⟨n, hnn⟩ : ∃ n : Nat, n = 3 := ⟨_, rfl⟩
                  have hn70 : n ≤ 70 := by omega
                  have HN3 : Hid ((3 : Int) = (n : Int)) := by show _ = _; omega
                  clear hnn
                  go_upto_region 69 with fail
                  clear k3 t1 t2
                  rw [HN3.out]
                  clear HN3
                  obtain ⟨z, hz⟩ : ∃ z, z = (m1.write o.d o.p (List.replicate n 0)).1 := ⟨_, rfl⟩
                  obtain ⟨M, hM⟩ : ∃ M, M = (m1.write o.d o.p (List.replicate n 0)).2 := ⟨_, rfl⟩
                  have HM : Hid (M.steps ≤ i + 1) := by show _ ≤ _; rw [hM]; have h1 := m1.write_le o.d o.p (List.replicate n 0); have h2 := HS.out; omega
                  have CX : Hid (∀ W v, St4 W0 o bo bq C gx m1 gy m1 gz m2 gw m2 W → SliceIn W v (List.replicate n 0) → Calls Try.prog 16 #[ptr gx, .int .i64 o.d, .int .i64 o.p, v] W fun e W' => e = .returned (.int .i64 z) ∧ St4 W0 o bo bq C gx M gy m1 gz m2 gw m2 W') := fun W v h1 h2 => by have h4 := h1.writeX (by omega) o.d o.p v _ h2; rw [← hz, ← hM] at h4; exact h4
                  have CY : Hid (∀ W v, St4 W0 o bo bq C gx M gy m1 gz m2 gw m2 W → SliceIn W v (List.replicate n 0) → (∀ b, v.ownBlock = some b → b ≠ gy) → Calls Try.prog 17 #[ptr gy, .int .i64 o.d, .int .i64 o.p, v] W fun e W' => e = .returned (.int .i64 z) ∧ St4 W0 o bo bq C gx M gy M gz m2 gw m2 W') := fun W v h1 h2 h3 => by have h4 := h1.writeY (by omega) o.d o.p v _ h2 h3; rw [← hz, ← hM] at h4; exact h4
                  clear hz hM
                  refine wp_region_held (S := fun X => Row X bo 39 o.cells) (by kernel_rfl) ?_
                  show wpAnyH _ _ _ _ _ 9 (Array.replicate 9 false) _ _
                  obtain ⟨X, hX⟩ : ∃ X : World, X = { w2 with drawn := w2.drawn + 1 } := ⟨_, rfl⟩
                  rw [← hX]
                  have HX : Hid (St4 W0 o bo bq C gx m1 gy m1 gz m2 gw m2 X) := H0.out.below (by rw [hX]; exact ⟨rfl, rfl, rfl, Nat.le_refl _, fun _ _ => rfl⟩)
                  have hS : Row X bo 39 o.cells := HX.out.row
                  clear hX
                  refine takeH (i := 0) (some 248) rfl rfl (by kernel_rfl) (by kernel_rfl) (by kernel_rfl) (fun _ _ _ h => h) (hMove rfl (.tmp 6) rfl (ptr gx) rfl) hS ?_
                  simp only [Act.put, List.setIfInBounds_toArray, List.set_cons_succ, List.set_cons_zero]
                  refine takeH (i := 1) (some 249) rfl rfl (by kernel_rfl) (by kernel_rfl) (by kernel_rfl) (fun _ _ _ h => h) (hField f39_1 rfl (.tmp 13) rfl bo 0 rfl) hS ?_
                  simp only [Act.put, List.setIfInBounds_toArray, List.set_cons_succ, List.set_cons_zero]
                  refine takeH (i := 2) (some 250) rfl rfl (by kernel_rfl) (by kernel_rfl) (by kernel_rfl) (fun _ _ _ h => h) (hLoad o3 rfl (.tmp 249) rfl bo (0 + 1) rfl (.int .i64 o.d) (fun _ h => h.at 1 _ rfl)) hS ?_
                  simp only [Act.put, List.setIfInBounds_toArray, List.set_cons_succ, List.set_cons_zero]
                  refine takeH (i := 3) (some 251) rfl rfl (by kernel_rfl) (by kernel_rfl) (by kernel_rfl) (fun _ _ _ h => h) (hField f39_2 rfl (.tmp 13) rfl bo 0 rfl) hS ?_
                  simp only [Act.put, List.setIfInBounds_toArray, List.set_cons_succ, List.set_cons_zero]
                  refine takeH (i := 4) (some 252) rfl rfl (by kernel_rfl) (by kernel_rfl) (by kernel_rfl) (fun _ _ _ h => h) (hLoad o3 rfl (.tmp 251) rfl bo (0 + 2) rfl (.int .i64 o.p) (fun _ h => h.at 2 _ rfl)) hS ?_
                  simp only [Act.put, List.setIfInBounds_toArray, List.set_cons_succ, List.set_cons_zero]
                  refine takeH (i := 5) (some 253) rfl rfl (by kernel_rfl) (by kernel_rfl) (by kernel_rfl) (fun _ _ _ h => h) (hMove rfl (.tmp 28) rfl (.int .i64 (n : Nat)) rfl) hS ?_
                  simp only [Act.put, List.setIfInBounds_toArray, List.set_cons_succ, List.set_cons_zero]
                  refine oneH (i := 6) (by kernel_rfl) ?_
                  refine opMake40 (some 254) rfl rfl rfl (.tmp 253) (.tmp 253) rfl n hn70 rfl rfl ?_
                  intro Y hsl hbel
                  have HY : Hid (St4 W0 o bo bq C gx m1 gy m1 gz m2 gw m2 Y ∧ SliceIn Y (.slice (some ⟨X.heap.size, 0, none⟩) n n) (List.replicate n 0)) := ⟨HX.out.below hbel, hsl⟩
                  have HGY : Hid (∀ b, (Value.slice (some ⟨X.heap.size, 0, none⟩) n n).ownBlock = some b → b ≠ gy) := fun b hb => by have hb2 : X.heap.size = b := (by injection hb); have := HX.out.gy_lt; omega
                  clear hsl hbel hS
                  refine ⟨HY.out.1.row, ?_⟩
                  simp only [Act.put, List.setIfInBounds_toArray, List.set_cons_succ, List.set_cons_zero]
                  refine oneH (i := 7) (by kernel_rfl) ?_
                  refine opCallA (some 255) rfl rfl rfl 16 _ (run_call en16' [.tmp 248, .tmp 250, .tmp 252, .tmp 254] _ rfl [ptr gx, .int .i64 o.d, .int .i64 o.p, .slice (some ⟨X.heap.size, 0, none⟩) n n] rfl) ?_
                  refine (CX.out Y _ HY.out.1 HY.out.2).mono ?_
                  rintro e w5 ⟨rfl, h5⟩
                  refine ⟨_, rfl, ?_⟩
                  have H5 : Hid (St4 W0 o bo bq C gx M gy m1 gz m2 gw m2 w5) := h5
                  clear h5 HY HGY HX
                  refine ⟨H5.out.row, ?_⟩
                  simp only [Act.put, List.setIfInBounds_toArray, List.set_cons_succ, List.set_cons_zero]
                  refine takeH (i := 8) (some 29) rfl rfl (by kernel_rfl) (by kernel_rfl) (by kernel_rfl) (fun _ _ _ h => h) (hAssign rfl (.tmp 255) rfl (.int .i64 z) rfl) H5.out.row ?_
                  simp only [Act.put, List.setIfInBounds_toArray, List.set_cons_succ, List.set_cons_zero]
                  refine wpAnyH_done (by kernel_rfl) ?_ _
                  go_upto_region 70 with fail
                  refine wp_region_held (S := fun X => Row X bo 39 o.cells) (by kernel_rfl) ?_
                  show wpAnyH _ _ _ _ _ 9 (Array.replicate 9 false) _ _
                  obtain ⟨X, hX⟩ : ∃ X : World, X = { w5 with drawn := w5.drawn + 1 } := ⟨_, rfl⟩
                  rw [← hX]
                  have HX : Hid (St4 W0 o bo bq C gx M gy m1 gz m2 gw m2 X) := H5.out.below (by rw [hX]; exact ⟨rfl, rfl, rfl, Nat.le_refl _, fun _ _ => rfl⟩)
                  have hS : Row X bo 39 o.cells := HX.out.row
                  clear hX
                  refine takeH (i := 0) (some 256) rfl rfl (by kernel_rfl) (by kernel_rfl) (by kernel_rfl) (fun _ _ _ h => h) (hMove rfl (.tmp 8) rfl (ptr gy) rfl) hS ?_
                  simp only [Act.put, List.setIfInBounds_toArray, List.set_cons_succ, List.set_cons_zero]
                  refine takeH (i := 1) (some 257) rfl rfl (by kernel_rfl) (by kernel_rfl) (by kernel_rfl) (fun _ _ _ h => h) (hField f39_1 rfl (.tmp 13) rfl bo 0 rfl) hS ?_
                  simp only [Act.put, List.setIfInBounds_toArray, List.set_cons_succ, List.set_cons_zero]
                  refine takeH (i := 2) (some 258) rfl rfl (by kernel_rfl) (by kernel_rfl) (by kernel_rfl) (fun _ _ _ h => h) (hLoad o3 rfl (.tmp 257) rfl bo (0 + 1) rfl (.int .i64 o.d) (fun _ h => h.at 1 _ rfl)) hS ?_
                  simp only [Act.put, List.setIfInBounds_toArray, List.set_cons_succ, List.set_cons_zero]
                  refine takeH (i := 3) (some 259) rfl rfl (by kernel_rfl) (by kernel_rfl) (by kernel_rfl) (fun _ _ _ h => h) (hField f39_2 rfl (.tmp 13) rfl bo 0 rfl) hS ?_
                  simp only [Act.put, List.setIfInBounds_toArray, List.set_cons_succ, List.set_cons_zero]
                  refine takeH (i := 4) (some 260) rfl rfl (by kernel_rfl) (by kernel_rfl) (by kernel_rfl) (fun _ _ _ h => h) (hLoad o3 rfl (.tmp 259) rfl bo (0 + 2) rfl (.int .i64 o.p) (fun _ h => h.at 2 _ rfl)) hS ?_
                  simp only [Act.put, List.setIfInBounds_toArray, List.set_cons_succ, List.set_cons_zero]
                  refine takeH (i := 5) (some 261) rfl rfl (by kernel_rfl) (by kernel_rfl) (by kernel_rfl) (fun _ _ _ h => h) (hMove rfl (.tmp 28) rfl (.int .i64 (n : Nat)) rfl) hS ?_
                  simp only [Act.put, List.setIfInBounds_toArray, List.set_cons_succ, List.set_cons_zero]
                  refine oneH (i := 6) (by kernel_rfl) ?_
                  refine opMake40 (some 262) rfl rfl rfl (.tmp 261) (.tmp 261) rfl n hn70 rfl rfl ?_
                  intro Y hsl hbel
                  have HY : Hid (St4 W0 o bo bq C gx M gy m1 gz m2 gw m2 Y ∧ SliceIn Y (.slice (some ⟨X.heap.size, 0, none⟩) n n) (List.replicate n 0)) := ⟨HX.out.below hbel, hsl⟩
                  have HGY : Hid (∀ b, (Value.slice (some ⟨X.heap.size, 0, none⟩) n n).ownBlock = some b → b ≠ gy) := fun b hb => by have hb2 : X.heap.size = b := (by injection hb); have := HX.out.gy_lt; omega
                  clear hsl hbel hS
                  refine ⟨HY.out.1.row, ?_⟩
                  simp only [Act.put, List.setIfInBounds_toArray, List.set_cons_succ, List.set_cons_zero]
                  refine oneH (i := 7) (by kernel_rfl) ?_
                  refine opCallA (some 263) rfl rfl rfl 17 _ (run_call en17 [.tmp 256, .tmp 258, .tmp 260, .tmp 262] _ rfl [ptr gy, .int .i64 o.d, .int .i64 o.p, .slice (some ⟨X.heap.size, 0, none⟩) n n] rfl) ?_
                  refine (CY.out Y _ HY.out.1 HY.out.2 HGY.out).mono ?_
                  rintro e w6 ⟨rfl, h6⟩
                  refine ⟨_, rfl, ?_⟩
                  have H6 : Hid (St4 W0 o bo bq C gx M gy M gz m2 gw m2 w6) := h6
                  clear h6 HY HGY HX
                  refine ⟨H6.out.row, ?_⟩
                  simp only [Act.put, List.setIfInBounds_toArray, List.set_cons_succ, List.set_cons_zero]
                  refine takeH (i := 8) (some 30) rfl rfl (by kernel_rfl) (by kernel_rfl) (by kernel_rfl) (fun _ _ _ h => h) (hAssign rfl (.tmp 263) rfl (.int .i64 z) rfl) H6.out.row ?_
                  simp only [Act.put, List.setIfInBounds_toArray, List.set_cons_succ, List.set_cons_zero]
                  refine wpAnyH_done (by kernel_rfl) ?_ _
                  have hzz : (z != z) = false := by simp
                  go_wp2_with fail
                  go_meet
                  case rel => exact ⟨gx, gy, gz, gw, _, _, _, rfl, rfl, rfl, rfl, HC64.out, H6.out, HM.out, (by have := HS.out; omega)⟩
                · have t2 : decide (70 < o.a) = false := decide_eq_false hb
                  obtain ⟨n, hnn⟩ : ∃ n : Nat, n = o.a.toNat := ⟨_, rfl⟩
                  have hn70 : n ≤ 70 := by omega
                  have HN3 : Hid (o.a = (n : Int)) := by show _ = _; omega
                  clear hnn
                  go_upto_region 69 with fail
                  clear k3 t1 t2
                  rw [HN3.out]
                  clear HN3
                  obtain ⟨z, hz⟩ : ∃ z, z = (m1.write o.d o.p (List.replicate n 0)).1 := ⟨_, rfl⟩
                  obtain ⟨M, hM⟩ : ∃ M, M = (m1.write o.d o.p (List.replicate n 0)).2 := ⟨_, rfl⟩
                  have HM : Hid (M.steps ≤ i + 1) := by show _ ≤ _; rw [hM]; have h1 := m1.write_le o.d o.p (List.replicate n 0); have h2 := HS.out; omega
                  have CX : Hid (∀ W v, St4 W0 o bo bq C gx m1 gy m1 gz m2 gw m2 W → SliceIn W v (List.replicate n 0) → Calls Try.prog 16 #[ptr gx, .int .i64 o.d, .int .i64 o.p, v] W fun e W' => e = .returned (.int .i64 z) ∧ St4 W0 o bo bq C gx M gy m1 gz m2 gw m2 W') := fun W v h1 h2 => by have h4 := h1.writeX (by omega) o.d o.p v _ h2; rw [← hz, ← hM] at h4; exact h4
                  have CY : Hid (∀ W v, St4 W0 o bo bq C gx M gy m1 gz m2 gw m2 W → SliceIn W v (List.replicate n 0) → (∀ b, v.ownBlock = some b → b ≠ gy) → Calls Try.prog 17 #[ptr gy, .int .i64 o.d, .int .i64 o.p, v] W fun e W' => e = .returned (.int .i64 z) ∧ St4 W0 o bo bq C gx M gy M gz m2 gw m2 W') := fun W v h1 h2 h3 => by have h4 := h1.writeY (by omega) o.d o.p v _ h2 h3; rw [← hz, ← hM] at h4; exact h4
                  clear hz hM
                  refine wp_region_held (S := fun X => Row X bo 39 o.cells) (by kernel_rfl) ?_
                  show wpAnyH _ _ _ _ _ 9 (Array.replicate 9 false) _ _
                  obtain ⟨X, hX⟩ : ∃ X : World, X = { w2 with drawn := w2.drawn + 1 } := ⟨_, rfl⟩
                  rw [← hX]
                  have HX : Hid (St4 W0 o bo bq C gx m1 gy m1 gz m2 gw m2 X) := H0.out.below (by rw [hX]; exact ⟨rfl, rfl, rfl, Nat.le_refl _, fun _ _ => rfl⟩)
                  have hS : Row X bo 39 o.cells := HX.out.row
                  clear hX
                  refine takeH (i := 0) (some 248) rfl rfl (by kernel_rfl) (by kernel_rfl) (by kernel_rfl) (fun _ _ _ h => h) (hMove rfl (.tmp 6) rfl (ptr gx) rfl) hS ?_
                  simp only [Act.put, List.setIfInBounds_toArray, List.set_cons_succ, List.set_cons_zero]
                  refine takeH (i := 1) (some 249) rfl rfl (by kernel_rfl) (by kernel_rfl) (by kernel_rfl) (fun _ _ _ h => h) (hField f39_1 rfl (.tmp 13) rfl bo 0 rfl) hS ?_
                  simp only [Act.put, List.setIfInBounds_toArray, List.set_cons_succ, List.set_cons_zero]
                  refine takeH (i := 2) (some 250) rfl rfl (by kernel_rfl) (by kernel_rfl) (by kernel_rfl) (fun _ _ _ h => h) (hLoad o3 rfl (.tmp 249) rfl bo (0 + 1) rfl (.int .i64 o.d) (fun _ h => h.at 1 _ rfl)) hS ?_
                  simp only [Act.put, List.setIfInBounds_toArray, List.set_cons_succ, List.set_cons_zero]
                  refine takeH (i := 3) (some 251) rfl rfl (by kernel_rfl) (by kernel_rfl) (by kernel_rfl) (fun _ _ _ h => h) (hField f39_2 rfl (.tmp 13) rfl bo 0 rfl) hS ?_
                  simp only [Act.put, List.setIfInBounds_toArray, List.set_cons_succ, List.set_cons_zero]
                  refine takeH (i := 4) (some 252) rfl rfl (by kernel_rfl) (by kernel_rfl) (by kernel_rfl) (fun _ _ _ h => h) (hLoad o3 rfl (.tmp 251) rfl bo (0 + 2) rfl (.int .i64 o.p) (fun _ h => h.at 2 _ rfl)) hS ?_
                  simp only [Act.put, List.setIfInBounds_toArray, List.set_cons_succ, List.set_cons_zero]
                  refine takeH (i := 5) (some 253) rfl rfl (by kernel_rfl) (by kernel_rfl) (by kernel_rfl) (fun _ _ _ h => h) (hMove rfl (.tmp 28) rfl (.int .i64 (n : Nat)) rfl) hS ?_
                  simp only [Act.put, List.setIfInBounds_toArray, List.set_cons_succ, List.set_cons_zero]
                  refine oneH (i := 6) (by kernel_rfl) ?_
                  refine opMake40 (some 254) rfl rfl rfl (.tmp 253) (.tmp 253) rfl n hn70 rfl rfl ?_
                  intro Y hsl hbel
                  have HY : Hid (St4 W0 o bo bq C gx m1 gy m1 gz m2 gw m2 Y ∧ SliceIn Y (.slice (some ⟨X.heap.size, 0, none⟩) n n) (List.replicate n 0)) := ⟨HX.out.below hbel, hsl⟩
                  have HGY : Hid (∀ b, (Value.slice (some ⟨X.heap.size, 0, none⟩) n n).ownBlock = some b → b ≠ gy) := fun b hb => by have hb2 : X.heap.size = b := (by injection hb); have := HX.out.gy_lt; omega
                  clear hsl hbel hS
                  refine ⟨HY.out.1.row, ?_⟩
                  simp only [Act.put, List.setIfInBounds_toArray, List.set_cons_succ, List.set_cons_zero]
                  refine oneH (i := 7) (by kernel_rfl) ?_
                  refine opCallA (some 255) rfl rfl rfl 16 _ (run_call en16' [.tmp 248, .tmp 250, .tmp 252, .tmp 254] _ rfl [ptr gx, .int .i64 o.d, .int .i64 o.p, .slice (some ⟨X.heap.size, 0, none⟩) n n] rfl) ?_
                  refine (CX.out Y _ HY.out.1 HY.out.2).mono ?_
                  rintro e w5 ⟨rfl, h5⟩
                  refine ⟨_, rfl, ?_⟩
                  have H5 : Hid (St4 W0 o bo bq C gx M gy m1 gz m2 gw m2 w5) := h5
                  clear h5 HY HGY HX
                  refine ⟨H5.out.row, ?_⟩
                  simp only [Act.put, List.setIfInBounds_toArray, List.set_cons_succ, List.set_cons_zero]
                  refine takeH (i := 8) (some 29) rfl rfl (by kernel_rfl) (by kernel_rfl) (by kernel_rfl) (fun _ _ _ h => h) (hAssign rfl (.tmp 255) rfl (.int .i64 z) rfl) H5.out.row ?_
                  simp only [Act.put, List.setIfInBounds_toArray, List.set_cons_succ, List.set_cons_zero]
                  refine wpAnyH_done (by kernel_rfl) ?_ _
                  go_upto_region 70 with fail
                  refine wp_region_held (S := fun X => Row X bo 39 o.cells) (by kernel_rfl) ?_
                  show wpAnyH _ _ _ _ _ 9 (Array.replicate 9 false) _ _
                  obtain ⟨X, hX⟩ : ∃ X : World, X = { w5 with drawn := w5.drawn + 1 } := ⟨_, rfl⟩
                  rw [← hX]
                  have HX : Hid (St4 W0 o bo bq C gx M gy m1 gz m2 gw m2 X) := H5.out.below (by rw [hX]; exact ⟨rfl, rfl, rfl, Nat.le_refl _, fun _ _ => rfl⟩)
                  have hS : Row X bo 39 o.cells := HX.out.row
                  clear hX
                  refine takeH (i := 0) (some 256) rfl rfl (by kernel_rfl) (by kernel_rfl) (by kernel_rfl) (fun _ _ _ h => h) (hMove rfl (.tmp 8) rfl (ptr gy) rfl) hS ?_
                  simp only [Act.put, List.setIfInBounds_toArray, List.set_cons_succ, List.set_cons_zero]
                  refine takeH (i := 1) (some 257) rfl rfl (by kernel_rfl) (by kernel_rfl) (by kernel_rfl) (fun _ _ _ h => h) (hField f39_1 rfl (.tmp 13) rfl bo 0 rfl) hS ?_
                  simp only [Act.put, List.setIfInBounds_toArray, List.set_cons_succ, List.set_cons_zero]
                  refine takeH (i := 2) (some 258) rfl rfl (by kernel_rfl) (by kernel_rfl) (by kernel_rfl) (fun _ _ _ h => h) (hLoad o3 rfl (.tmp 257) rfl bo (0 + 1) rfl (.int .i64 o.d) (fun _ h => h.at 1 _ rfl)) hS ?_
                  simp only [Act.put, List.setIfInBounds_toArray, List.set_cons_succ, List.set_cons_zero]
                  refine takeH (i := 3) (some 259) rfl rfl (by kernel_rfl) (by kernel_rfl) (by kernel_rfl) (fun _ _ _ h => h) (hField f39_2 rfl (.tmp 13) rfl bo 0 rfl) hS ?_
                  simp only [Act.put, List.setIfInBounds_toArray, List.set_cons_succ, List.set_cons_zero]
                  refine takeH (i := 4) (some 260) rfl rfl (by kernel_rfl) (by kernel_rfl) (by kernel_rfl) (fun _ _ _ h => h) (hLoad o3 rfl (.tmp 259) rfl bo (0 + 2) rfl (.int .i64 o.p) (fun _ h => h.at 2 _ rfl)) hS ?_
                  simp only [Act.put, List.setIfInBounds_toArray, List.set_cons_succ, List.set_cons_zero]
                  refine takeH (i := 5) (some 261) rfl rfl (by kernel_rfl) (by kernel_rfl) (by kernel_rfl) (fun _ _ _ h => h) (hMove rfl (.tmp 28) rfl (.int .i64 (n : Nat)) rfl) hS ?_
                  simp only [Act.put, List.setIfInBounds_toArray, List.set_cons_succ, List.set_cons_zero]
                  refine oneH (i := 6) (by kernel_rfl) ?_
                  refine opMake40 (some 262) rfl rfl rfl (.tmp 261) (.tmp 261) rfl n hn70 rfl rfl ?_
                  intro Y hsl hbel
                  have HY : Hid (St4 W0 o bo bq C gx M gy m1 gz m2 gw m2 Y ∧ SliceIn Y (.slice (some ⟨X.heap.size, 0, none⟩) n n) (List.replicate n 0)) := ⟨HX.out.below hbel, hsl⟩
                  have HGY : Hid (∀ b, (Value.slice (some ⟨X.heap.size, 0, none⟩) n n).ownBlock = some b → b ≠ gy) := fun b hb => by have hb2 : X.heap.size = b := (by injection hb); have := HX.out.gy_lt; omega
                  clear hsl hbel hS
                  refine ⟨HY.out.1.row, ?_⟩
                  simp only [Act.put, List.setIfInBounds_toArray, List.set_cons_succ, List.set_cons_zero]
                  refine oneH (i := 7) (by kernel_rfl) ?_
                  refine opCallA (some 263) rfl rfl rfl 17 _ (run_call en17 [.tmp 256, .tmp 258, .tmp 260, .tmp 262] _ rfl [ptr gy, .int .i64 o.d, .int .i64 o.p, .slice (some ⟨X.heap.size, 0, none⟩) n n] rfl) ?_
                  refine (CY.out Y _ HY.out.1 HY.out.2 HGY.out).mono ?_
                  rintro e w6 ⟨rfl, h6⟩
                  refine ⟨_, rfl, ?_⟩
                  have H6 : Hid (St4 W0 o bo bq C gx M gy M gz m2 gw m2 w6) := h6
                  clear h6 HY HGY HX
                  refine ⟨H6.out.row, ?_⟩
                  simp only [Act.put, List.setIfInBounds_toArray, List.set_cons_succ, List.set_cons_zero]
                  refine takeH (i := 8) (some 30) rfl rfl (by kernel_rfl) (by kernel_rfl) (by kernel_rfl) (fun _ _ _ h => h) (hAssign rfl (.tmp 263) rfl (.int .i64 z) rfl) H6.out.row ?_
                  simp only [Act.put, List.setIfInBounds_toArray, List.set_cons_succ, List.set_cons_zero]
                  refine wpAnyH_done (by kernel_rfl) ?_ _
                  have hzz : (z != z) = false := by simp
                  go_wp2_with fail
                  go_meet
                  case rel => exact ⟨gx, gy, gz, gw, _, _, _, rfl, rfl, rfl, rfl, HC64.out, H6.out, HM.out, (by have := HS.out; omega)⟩
        case rest =>
          as_aux_lemma =>
            obtain ⟨gx, gy, gz, gw, m1, m2, cells, rfl, rfl, rfl, rfl, hcl, hst, hs1, hs2⟩ := hcut
            have HT4 : Hid (St4 W0 o bo bq cells gx m1 gy m1 gz m2 gw m2 wc) := hst
            have HS2 : Hid (m1.steps ≤ i + 1 ∧ m2.steps ≤ i + 1) := ⟨hs1, hs2⟩
            have HCL : Hid (cells.length = 64) := hcl
            clear hcl hst hs1 hs2 H0 HS
            go_wp2_with fail
            go_loopw [31] (fun s W => ∃ j : Nat, j ≤ 64 ∧ s = .int .i64 j ∧ ∃ cells, cells.length = 64 ∧ St4 W0 o bo bq cells gx m1 gy m1 gz m2 gw m2 W) (fun s _ => 64 - (intOf s).toNat)
            case atStart => exact ⟨0, Nat.zero_le _, rfl, cells, HCL.out, HT4.out⟩
            case round =>
              obtain ⟨j, hj, rfl, cells, hcl, hst⟩ := hrel
              have HT5 : Hid (St4 W0 o bo bq cells gx m1 gy m1 gz m2 gw m2 wr) := hst
              have HCL : Hid (cells.length = 64) := hcl
              clear hcl hst HT4
              by_cases hj2 : j < 64
              · have t3 : decide ((j : Int) < 64) = true := decide_eq_true (by omega)
                go_upto_region 76 with fail
                refine wp_region_lit ?_
                refine wl_mv (.tmp 14) rfl rfl (.slice (some ⟨bq, 0, none⟩) 64 64) rfl ?_
                simp only [Act.put, List.setIfInBounds_toArray, List.set_cons_succ, List.set_cons_zero]
                refine wl_mv (.tmp 31) rfl rfl (.int .i64 (j : Nat)) rfl ?_
                simp only [Act.put, List.setIfInBounds_toArray, List.set_cons_succ, List.set_cons_zero]
                refine wl_ix (.tmp 273) (.tmp 274) rfl rfl _ (.pointer (some ⟨bq, j, none⟩)) _ rfl rfl (idx40 bq j hj2) ?_
                simp only [Act.put, List.setIfInBounds_toArray, List.set_cons_succ, List.set_cons_zero]
                refine wl_put size5' (.tmp 275) (.const (.int .u8 98)) rfl rfl rfl bq j 5 _ rfl (.int .u8 98) rfl ⟨rfl, rfl⟩ HT5.out.bytes (by rw [HCL.out]; exact hj2) ?_
                refine wpList_nil ?_
                have HT6 : Hid (St4 W0 o bo bq (cells.set j (.int .u8 98)) gx m1 gy m1 gz m2 gw m2 (wr.setCell ⟨bq, j, none⟩ (.int .u8 98))) := HT5.out.setB HNE.out j _
                generalize wr.setCell ⟨bq, j, none⟩ (.int .u8 98) = w4 at HT6 ⊢
                go_wp2_with fail
                refine ⟨⟨j + 1, by omega, by go_num, _, by rw [List.length_set]; exact HCL.out, HT6.out⟩, ?_⟩
                simp [intOf]; omega
              · have t3 : decide ((j : Int) < 64) = false := decide_eq_false (by omega)
                have k1 := HT5.out.row.at 1 _ rfl
                have k2 := HT5.out.row.at 2 _ rfl
                go_upto_region 78 with (go_at_call 31; refine (HT5.out.alikeX (by have := HS2.out; omega) o.d o.p).mono ?_; rintro e w4 ⟨rfl, h4⟩; have H4 : Hid (St4 W0 o bo bq cells gx m1 gy m1 gz m2 gw m2 w4) := h4; clear h4)
                have k3 := H4.out.row.at 1 _ rfl
                have k4 := H4.out.row.at 2 _ rfl
                clear k1 k2
                go_upto_region 79 with (go_at_call 31; refine (H4.out.alikeZ (by have := HS2.out; omega) o.d o.p).mono ?_; rintro e w5 ⟨rfl, h5⟩; have H5 : Hid (St4 W0 o bo bq cells gx m1 gy m1 gz m2 gw m2 w5) := h5; clear h5)
                go_wp2_with fail
                refine ⟨⟨i + 1, by omega, by go_num, H5.out.loop HS2.out.1 HS2.out.2⟩, ?_⟩
                simp [intOf]; omega
      · obtain rfl : N = i := by omega
        as_aux_lemma =>
          have hlt' : decide ((N : Int) < (N : Int)) = false := decide_eq_false (by omega)
          obtain ⟨wq, rfl⟩ : ∃ wq, wq = wr := ⟨_, rfl⟩
          have hm1 : m1.steps < 1048577 := by have := HS.out; omega
          obtain ⟨⟨vd', vt', hv, wv, ds', ts', hA⟩, hwf, _⟩ := HQ.out.y
          obtain ⟨⟨us, o1, o2⟩, _⟩ := hA.has
          obtain ⟨left, _, hrow⟩ := hA.row
          obtain ⟨n, hn⟩ : ∃ n, n = m1.n := ⟨_, rfl⟩
          have hn12 : n ≤ 12 := by rw [hn]; exact hwf.few
          have HO1 : Hid (wq.ownsRow 0 57 1 hv n us) := by rw [hn]; exact o1
          have HO2 : Hid (∀ d, d < n → ∃ L xs, wq.ownsRow 0 40 1 (us.getD d undef) L xs ∧ L < 1000000) := fun d hd => by
            rw [hn] at hd
            obtain ⟨⟨xs, r1, _⟩, _⟩ := o2 d hd
            refine ⟨_, xs, r1, ?_⟩
            have h1 := hwf.sizes d hd
            cases ht : m1.tape d with
            | false => have := hwf.disk d hd ht; omega
            | true => have := (hwf.tapes d hd ht).1; omega
          have HC2 : Hid (∀ W, Below wq.heap.size wq W → W.cell? ⟨gy, 2, none⟩ = some hv) := fun W hW => by rw [hW.cell (by show gy < _; exact hrow.lt)]; exact hrow.at 2 _ rfl
          have HUL : Hid (us.length = n) := by have := HO1.out.1; show _ = _; omega
          have HAL : Hid (∀ W d k, Below wq.heap.size wq W → Calls Try.prog 31 #[ptr gx, ptr gy, .int .i64 d, .int .i64 k] W fun e w' => e = .returned (.bool true) ∧ Below wq.heap.size wq w') := fun W d k hW => (alike_any (HQ.out.x.below hW) (HQ.out.y.below hW) (by omega) d k).mono fun e w' he => ⟨he.1, hW.trans (he.2.mono hW.size)⟩
          have HBQ : Hid (Below B W0 wq) := by show Below _ _ _; rw [HB.out]; exact HQ.out.bel
          have HQS : Hid (B ≤ wq.heap.size) := by rw [HB.out]; exact HQ.out.bel.size
          clear hA o1 o2 hrow hn hwf HQ HS HOP hm1 hi
          go_upto_region 81 with (refine wl_slen (.tmp 71) rfl rfl pl N cl rfl ?_)
          go_wp2_with fail
          go_loopw [34] (fun s W => ∃ d : Nat, d ≤ n ∧ s = .int .i64 d ∧ Below wq.heap.size wq W) (fun s _ => n - (intOf s).toNat)
          case atStart => exact ⟨0, Nat.zero_le _, rfl, Below.refl _ _⟩
          case round =>
            obtain ⟨d, hd, rfl, hbd⟩ := hrel
            have HBD : Hid (Below wq.heap.size wq wr) := hbd
            have kH := HC2.out wr hbd
            clear hbd
            by_cases hdn : d < n
            · have t3 : decide ((d : Int) < (n : Int)) = true := decide_eq_true (by omega)
              obtain ⟨bh, hbh, hih, hch⟩ := own_index HO1.out Try.underlying53 s57 d hdn
              rw [Nat.mul_one] at hih
              have HIH : Hid (∀ w', (Instr.indexAt 53 hv (.int .i64 (d : Nat))).run Try.prog w' = .ok (.pointer (some ⟨bh, d, none⟩)) w') := hih
              obtain ⟨rv, hrv⟩ : ∃ rv, rv = us.getD d undef := ⟨_, rfl⟩
              have HCH : Hid (∀ W, Below wq.heap.size wq W → W.cell? ⟨bh, d, none⟩ = some rv) := fun W hW => by
                have h1 := hch 0 (by decide)
                rw [Nat.add_zero, Nat.mul_one] at h1
                rw [hW.cell (by show bh < _; exact (HO1.out.lt bh hbh).2), h1, hrv]
                have hl := HUL.out
                simp [show d < us.length by omega]
              obtain ⟨ln, xs, hr1, hln⟩ := HO2.out d hdn
              rw [← hrv] at hr1
              have HR1 : Hid (wq.ownsRow 0 40 1 rv ln xs) := hr1
              clear hih hch hrv hr1 hbh
              go_upto_region 84 with (refine wl_olen (.tmp 300) 53 rfl rfl sl53 hv rfl HO1.out ?_)
              clear kH
              go_wp2_with fail
              go_loopw [35] (fun s W => ∃ k : Nat, k ≤ 40 ∧ s = .int .i64 k ∧ Below wq.heap.size wq W) (fun s _ => 40 - (intOf s).toNat)
              case atStart => exact ⟨0, Nat.zero_le _, rfl, HBD.out⟩
              case round =>
                obtain ⟨k, hk, rfl, hbk⟩ := hrel
                have HBK : Hid (Below wq.heap.size wq wr) := hbk
                have kH := HC2.out wr hbk
                have kC := HCH.out wr hbk
                clear hbk
                by_cases hkl : k ≤ ln
                · have t4 : decide ((k : Int) ≤ (ln : Int)) = true := decide_eq_true (by omega)
                  by_cases hk4 : k < 40
                  · have t5 : decide ((k : Int) < 40) = true := decide_eq_true (by omega)
                    go_upto_region 87 with (first | (refine wl_ix (.tmp 309) (.tmp 310) rfl rfl hv _ _ rfl rfl HIH.out ?_) | (refine wl_olen (.tmp 312) 57 rfl rfl sl57 rv rfl HR1.out ?_))
                    clear kH kC
                    go_wp2_with (go_at_call 31; refine (HAL.out wr d k HBK.out).mono ?_; rintro e w4 ⟨rfl, h4⟩; have H4 : Hid (Below wq.heap.size wq w4) := h4; clear h4)
                    refine ⟨⟨k + 1, by omega, by go_num, H4.out⟩, ?_⟩
                    simp [intOf]; omega
                  · have t5 : decide ((k : Int) < 40) = false := decide_eq_false (by omega)
                    go_wp2_with (first | (refine wl_ix (.tmp 309) (.tmp 310) rfl rfl hv _ _ rfl rfl HIH.out ?_) | (refine wl_olen (.tmp 312) 57 rfl rfl sl57 rv rfl HR1.out ?_))
                    refine ⟨⟨d + 1, by omega, by go_num, HBK.out⟩, ?_⟩
                    simp [intOf]; omega
                · have t4 : decide ((k : Int) ≤ (ln : Int)) = false := decide_eq_false (by omega)
                  go_wp2_with (first | (refine wl_ix (.tmp 309) (.tmp 310) rfl rfl hv _ _ rfl rfl HIH.out ?_) | (refine wl_olen (.tmp 312) 57 rfl rfl sl57 rv rfl HR1.out ?_))
                  refine ⟨⟨d + 1, by omega, by go_num, HBK.out⟩, ?_⟩
                  simp [intOf]; omega
            · have t3 : decide ((d : Int) < (n : Int)) = false := decide_eq_false (by omega)
              go_wp2_with (refine wl_olen (.tmp 300) 53 rfl rfl sl53 hv rfl HO1.out ?_)
              go_ret
              exact ⟨rfl, HBQ.out.trans (HBD.out.mono HQS.out)⟩
end Go.Proofs.Ytdddfjkecmnggaa

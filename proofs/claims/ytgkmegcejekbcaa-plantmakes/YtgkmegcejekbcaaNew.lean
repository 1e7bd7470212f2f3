/- The walk of plant.New. -/
import Derived.Test.YtgkmegcejekbcaaNewIn
import Derived.Deep.RegionWith
namespace Go.Proofs.Ytgkmegcejekbcaa
open Go.RowKit Go.Maps

theorem run_onePtrOp {o : Oper} {a : Act} {w : World} (x : Operand) (ho : o.op = .buildSlice 67 1 #[(0, x)]) (g : Nat) (hx : a.eval x = ptr g) : (execOp a.eval o).run Try.prog w = .ok (.value (.slice (some ⟨w.heap.size, 0, none⟩) 1 1)) (w.alloc (.cells #[ptr g] 70)) := by
  simp [execOp, ho, hx, run_onePtr]
theorem run_build69 (w : World) : (Instr.build 69 #[(1, .bool true), (2, .int .i64 (-1))]).run Try.prog w = .ok (.agg #[.slice none 0 0, .bool true, .int .i64 (-1), .int .i64 0, .int .i64 0]) w := by kernel_rfl
theorem IntsIn.cell {w : World} {v : Value} {l : List Int} (h : IntsIn w v l) (n : Nat) (hn : n < l.length) : ∃ b off cap, v = .slice (some ⟨b, off, none⟩) l.length cap ∧ w.cell? ⟨b, off + n, none⟩ = some (.int .i64 (l.getD n 0)) := by
  obtain ⟨p, cap, rfl, _, _, h⟩ := h
  rcases h with rfl | ⟨b, off, rfl, h⟩
  · simp at hn
  · exact ⟨b, off, cap, rfl, h n hn⟩
theorem IntsIn.shape {w : World} {v : Value} {l : List Int} (h : IntsIn w v l) : ∃ p cap, v = .slice p l.length cap ∧ l.length < 4611686018427387904 := by
  obtain ⟨p, cap, rfl, _, h2, _⟩ := h
  exact ⟨p, cap, rfl, h2⟩
theorem sizesOk_at {l : List Int} (h : sizesOk l = true) (n : Nat) (hn : n < l.length) : 1 ≤ l.getD n 0 ∧ l.getD n 0 ≤ 4096 := by
  unfold sizesOk at h
  have := List.all_eq_true.1 h _ (List.getElem_mem hn)
  simp only [Bool.and_eq_true, decide_eq_true_eq] at this
  simpa [hn] using this

set_option maxHeartbeats 1000000 in
set_option maxRecDepth 100000 in
theorem newOk_any (w : World) (c : Nat → Colour) (t : Nat) (vd vt : Value) (ds ts : List Int) (hd : IntsIn w vd ds) (ht : IntsIn w vt ts) (hok : shapeOk ds ts = true) :
    Calls Try.prog 9 #[.agg #[vd, vt]] w fun e w' => ∃ g c' db cap gs, e = .returned (.tuple #[ptr g, .int .i64 0]) ∧ w.heap.size ≤ g ∧ (∀ b, b < w.heap.size → c' b = c b) ∧ PlantAt w' c' t g db cap gs (newPl ds ts) ∧ Below w.heap.size w w' := by
  unfold shapeOk at hok
  simp only [Bool.and_eq_true, decide_eq_true_eq] at hok
  obtain ⟨ho1, ho2, ho3, ho4⟩ := hok
  obtain ⟨B, hB⟩ : ∃ B, B = w.heap.size := ⟨_, rfl⟩
  have HB : Hid (B = w.heap.size) := hB
  obtain ⟨pd, cd, hvd, hdl⟩ := hd.shape
  obtain ⟨pt, ct, hvt, htl⟩ := ht.shape
  subst hvd hvt
  obtain ⟨nd, hnd⟩ : ∃ nd, nd = ds.length := ⟨_, rfl⟩
  obtain ⟨nt, hnt⟩ : ∃ nt, nt = ts.length := ⟨_, rfl⟩
  have HND : Hid (nd = ds.length) := hnd
  have HNT : Hid (nt = ts.length) := hnt
  have HD : Hid (IntsIn w (.slice pd nd cd) ds) := by rw [hnd]; exact hd
  have HT : Hid (IntsIn w (.slice pt nt ct) ts) := by rw [hnt]; exact ht
  rw [← hnd, ← hnt, ← hB]
  rw [← hnd, ← hnt] at ho1 ho2
  rw [← hnd] at hdl
  rw [← hnt] at htl
  clear hd ht hB hnd hnt
  go_enter Try.func9, Try.ntmps9
  go_upto_region 0 with fail
  refine wp_region_lit ?_
  refine wpList_box (.tmp 0) rfl rfl [.slice pd nd cd, .slice pt nt ct] rfl ?_
  intro w1 r1 s1 b1
  refine wpList_assign (.const (.pointer none)) rfl rfl (.pointer none) rfl ?_
  refine wpList_assign (.const (.int .i64 0)) rfl rfl (.int .i64 0) rfl ?_
  refine wpList_nil ?_
  simp only [Act.put, List.setIfInBounds_toArray, List.set_cons_succ, List.set_cons_zero]
  rw [← HB.out] at r1 s1 b1 ⊢
  have k0 := r1.at 0 _ rfl
  have k1 := r1.at 1 _ rfl
  have HB1 : Hid (Below B w w1 ∧ w1.heap.size = B + 1) := ⟨b1, s1⟩
  have HR1 : Hid (Row w1 B 24 [.slice pd nd cd, .slice pt nt ct]) := r1
  have HD1 : Hid (IntsIn w1 (.slice pd nd cd) ds) := HD.out.later (by rw [← HB.out]; exact b1)
  have HT1 : Hid (IntsIn w1 (.slice pt nt ct) ts) := HT.out.later (by rw [← HB.out]; exact b1)
  have cs1 := sizes_any w1 _ ds HD1.out
  have cs2 := sizes_any w1 _ ts HT1.out
  rw [ho3] at cs1
  rw [ho4] at cs2
  have CS1 : Hid (Calls Try.prog 37 #[.slice pd nd cd] w1 fun e w' => e = .returned (.bool true) ∧ w1 = w') := cs1.mono fun _ _ h => ⟨h.1, h.2.symm⟩
  have CS2 : Hid (Calls Try.prog 37 #[.slice pt nt ct] w1 fun e w' => e = .returned (.bool true) ∧ w1 = w') := cs2.mono fun _ _ h => ⟨h.1, h.2.symm⟩
  have t1 : decide ((nd : Int) + (nt : Int) < 1) = false := by simp; omega
  have t2 : decide (12 < (nd : Int) + (nt : Int)) = false := by simp; omega
  clear r1 s1 b1 cs1 cs2
  go_upto_region 4 with (first | (go_at_call_of 37 (Value.slice pd nd cd); refine CS1.out.mono ?_; rintro e wx ⟨rfl, rfl⟩) | (go_at_call_of 37 (Value.slice pt nt ct); refine CS2.out.mono ?_; rintro e wx ⟨rfl, rfl⟩))
  refine wp_region_lit ?_
  refine wpList_value rfl (.agg ([.slice none 0 0, .bool true, .int .i64 (-1), .int .i64 0, .int .i64 0] : List Value).toArray) w1 (by simp [execOp, run_build69, Act.eval]) ?_
  simp only [Act.put, List.setIfInBounds_toArray, List.set_cons_succ, List.set_cons_zero]
  refine wpList_box (.tmp 35) rfl rfl [.slice none 0 0, .bool true, .int .i64 (-1), .int .i64 0, .int .i64 0] rfl ?_
  intro w2 r2 s2 b2
  refine wpList_assign (.tmp 36) rfl rfl (ptr w1.heap.size) rfl ?_
  refine wpList_nil ?_
  simp only [Act.put, List.setIfInBounds_toArray, List.set_cons_succ, List.set_cons_zero]
  obtain ⟨gp, hgp⟩ : ∃ gp, gp = w1.heap.size := ⟨_, rfl⟩
  rw [← hgp] at r2 s2 b2 ⊢
  have HGP : Hid (gp = B + 1) := by rw [hgp]; exact HB1.out.2
  obtain ⟨c2, hc2⟩ : ∃ c2, c2 = paint c gp (t, 0) := ⟨_, rfl⟩
  have HN0 : Hid (NewIn w2 c2 t gp B (newPl ds ts) 0) := ⟨_, [], r2, by rw [hc2]; exact paint_new _ _ _ _ (Nat.le_refl _), rfl, ⟨rfl, Or.inl ⟨rfl, rfl⟩⟩, fun b hb => (by cases hb), fun i hi => (by omega)⟩
  have HR2 : Hid (Row w2 B 24 [.slice pd nd cd, .slice pt nt ct]) := HR1.out.later b2 (by have := HGP.out; omega)
  have HB2 : Hid (Below B w w2) := HB1.out.1.trans (b2.mono (by have := HGP.out; omega))
  have HC2 : Hid (∀ b, b < B → c2 b = c b) := fun b hb => by rw [hc2]; exact paint_old _ _ _ _ (by have := HGP.out; omega)
  have k0 := HR2.out.at 0 _ rfl
  clear r2 s2 b2 hgp hc2 k1 CS1 CS2 t1 t2 HR1
  go_wp2
  go_loopw [40] (fun ix W => ∃ n : Nat, n ≤ nd ∧ ix = .int .i64 n ∧ ∃ c', (∀ b, b < B → c' b = c b) ∧ NewIn W c' t gp B (newPl ds ts) n ∧ Row W B 24 [.slice pd nd cd, .slice pt nt ct] ∧ Below B w W) (fun ix _ => nd - (intOf ix).toNat)
  case atStart => exact ⟨0, Nat.zero_le _, rfl, c2, HC2.out, HN0.out, HR2.out, HB2.out⟩
  case round =>
    obtain ⟨n, hn, rfl, c', hcc, hin, hrB, hbw⟩ := hrel
    clear k0 HN0
    have HRB : Hid (Row wr B 24 [.slice pd nd cd, .slice pt nt ct]) := hrB
    clear hrB
    by_cases hlt : n < nd
    · obtain ⟨bd, offd, cd', hv, hcell⟩ := HD.out.cell n (by rw [← HND.out]; exact hlt)
      injection hv with hv1 hv2 hv3
      subst hv1
      have hsz := sizesOk_at ho3 n (by rw [← HND.out]; exact hlt)
      obtain ⟨zn, hzn⟩ : ∃ zn : Nat, ds.getD n 0 = (zn : Int) := ⟨(ds.getD n 0).toNat, by omega⟩
      rw [hzn] at hcell
      have cn : wr.cell? ⟨bd, offd + n, none⟩ = some (.int .i64 (zn : Int)) := cell_later (by rw [← HB.out]; exact hbw) hcell
      have HTS : Hid ((newPl ds ts).tape n = false ∧ (newPl ds ts).size n = zn) := by
        have := newPl_disk ds ts n (by rw [← HND.out]; exact hlt)
        rw [hzn] at this
        exact this
      clear hcell hzn hsz hv2 hv3
      obtain ⟨v, gl, hr, hcg, hgl, ho, hob, hdv⟩ := hin
      have c0 := hr.at 0 _ rfl
      have HIN : Hid (Row wr gp 69 [v, .bool true, .int .i64 (-1), .int .i64 0, .int .i64 0] ∧ c' gp = (t, 0) ∧ gl.length = n ∧ wr.ownsRow B 70 1 v (n) (gl.map ptr) ∧ (∀ b, v.ownBlock = some b → c' b = (t, 0)) ∧ ∀ i, i < n → DevIn wr c' (t, i + 1) (gl.getD i 0) ((newPl ds ts).tape i) ((newPl ds ts).size i) (fresh ((newPl ds ts).tape i) ((newPl ds ts).size i)) []) := ⟨hr, hcg, hgl, ho, hob, hdv⟩
      have HBW : Hid (B ≤ wr.heap.size) := by have := hbw.size; rw [HB.out]; exact this
      have HBL : Hid (Below B w wr ∧ (∀ b, b < B → c' b = c b)) := ⟨hbw, hcc⟩
      clear hr hcg hgl ho hob hdv hbw hcc
      go_upto_region 8 with fail
      refine wp_region_any (by kernel_rfl) ?_
      show wpAny _ _ _ _ 12 (Array.replicate 12 false) _ (wr.drewN 1)
      refine takeA (i := 0) (some 44) rfl rfl (by kernel_rfl) (by kernel_rfl) (by kernel_rfl) (fun _ _ _ h => h) (yMove rfl (.tmp 5) rfl (ptr gp) rfl) ?_
      simp only [Act.put, List.setIfInBounds_toArray, List.set_cons_succ, List.set_cons_zero]
      refine takeA (i := 1) (some 45) rfl rfl (by kernel_rfl) (by kernel_rfl) (by kernel_rfl) (fun _ _ _ h => h) (yMove rfl (.tmp 5) rfl (ptr gp) rfl) ?_
      simp only [Act.put, List.setIfInBounds_toArray, List.set_cons_succ, List.set_cons_zero]
      refine takeA (i := 2) (some 46) rfl rfl (by kernel_rfl) (by kernel_rfl) (by kernel_rfl) (fun _ _ _ h => h) (yNil rfl (.tmp 45) rfl _ rfl) ?_
      simp only [Act.put, List.setIfInBounds_toArray, List.set_cons_succ, List.set_cons_zero]
      refine takeA (i := 3) (some 47) rfl rfl (by kernel_rfl) (by kernel_rfl) (by kernel_rfl) (fun _ _ _ h => h) (yField f69_0 rfl (.tmp 46) rfl gp 0 rfl) ?_
      simp only [Act.put, List.setIfInBounds_toArray, List.set_cons_succ, List.set_cons_zero]
      refine takeA (i := 5) (some 49) rfl rfl (by kernel_rfl) (by kernel_rfl) (by kernel_rfl) (fun _ _ _ h => h) (yMove rfl (.tmp 7) rfl (.int .i64 (zn : Int)) rfl) ?_
      simp only [Act.put, List.setIfInBounds_toArray, List.set_cons_succ, List.set_cons_zero]
      have hcall := newDev_any (wr.drewN 1) c' (t, n + 1) zn false
      refine anyThree (i := 4) (j := 6) (k := 7) 48 50 51 rfl rfl rfl (by decide) (by decide) (by decide) (by decide) (by kernel_rfl) (by kernel_rfl) (by kernel_rfl) (by kernel_rfl) (by kernel_rfl)
        v (fun u W' => ∃ gd, u = ptr gd ∧ wr.heap.size ≤ gd ∧ DevIn W' (paint c' wr.heap.size (t, n + 1)) (t, n + 1) gd false zn (fresh false zn) [] ∧ Below wr.heap.size wr W')
        (fun u s W'' => ∃ gd W', u = ptr gd ∧ wr.heap.size ≤ gd ∧ DevIn W' (paint c' wr.heap.size (t, n + 1)) (t, n + 1) gd false zn (fresh false zn) [] ∧ Below wr.heap.size wr W' ∧ s = .slice (some ⟨W'.heap.size, 0, none⟩) 1 1 ∧ W'' = W'.alloc (.cells #[ptr gd] 70)) ?_ ?_ ?_ ?_ ?_ ?_ ?_ ?_
      · exact run_load1 one67 (.tmp 47) rfl gp 0 rfl _ c0
      · rintro u W' ⟨gd, rfl, _, _, hb'⟩
        exact run_load1 one67 (.tmp 47) rfl gp 0 rfl _ (cell_later hb' c0)
      · rintro u W' s W'' _ ⟨gd, W1, rfl, _, _, hb', rfl, rfl⟩
        exact run_load1 one67 (.tmp 47) rfl gp 0 rfl _ (cell_later (hb'.trans ((Below.refl _ W1).alloc hb'.size _)) c0)
      · intro R hR
        refine opCallA (some 50) rfl rfl rfl 38 _ (run_call en38 [.tmp 49, .const (.bool false)] _ rfl [.int .i64 (zn : Int), .bool false] rfl) (hcall.mono ?_)
        rintro e W' ⟨gd, rfl, hgd, hd, hb'⟩
        exact ⟨_, rfl, hR _ _ ⟨gd, rfl, hgd, hd, (Below.drewN (Below.refl wr.heap.size wr) 1).trans hb'⟩⟩
      · intro R hR
        refine opCallA (some 50) rfl rfl rfl 38 _ (run_call en38 [.tmp 49, .const (.bool false)] _ rfl [.int .i64 (zn : Int), .bool false] rfl) (hcall.mono ?_)
        rintro e W' ⟨gd, rfl, hgd, hd, hb'⟩
        exact ⟨_, rfl, hR _ _ ⟨gd, rfl, hgd, hd, (Below.drewN (Below.refl wr.heap.size wr) 1).trans hb'⟩⟩
      · rintro u W' ⟨gd, rfl, hgd, hd, hb'⟩ R hR
        exact opValue (some 51) rfl rfl rfl _ _ (run_onePtrOp (.tmp 50) rfl gd rfl) (hR _ _ ⟨gd, W', rfl, hgd, hd, hb', rfl, rfl⟩)
      · rintro u W' ⟨gd, rfl, hgd, hd, hb'⟩ R hR
        exact opValue (some 51) rfl rfl rfl _ _ (run_onePtrOp (.tmp 50) rfl gd rfl) (hR _ _ ⟨gd, W', rfl, hgd, hd, hb', rfl, rfl⟩)
      rintro u W0 s W6 _ ⟨gd, W5, rfl, hgd, hd5, hb5, rfl, hW6⟩
      simp only [Act.put, List.setIfInBounds_toArray, List.set_cons_succ, List.set_cons_zero]
      refine anySeqD 8 (by kernel_rfl) rfl ?_
      simp only [List.drop_succ_cons, List.drop_zero]
      obtain ⟨hr, hcg, hgl, ho, hob, hdv⟩ := HIN.out
      have s6 : W6.heap.size = W5.heap.size + 1 := by rw [hW6]; simp
      have b6 : Below wr.heap.size wr W6 := by rw [hW6]; exact hb5.trans ((Below.refl _ W5).alloc hb5.size _)
      have r6 : Row W6 W5.heap.size 70 [ptr gd] := by rw [hW6]; exact Row.new W5 70 [ptr gd]
      obtain ⟨i0, hi0, hz0, hz1, hz2⟩ := info_parts info70
      refine wpList_append_own_at _ rfl (.tmp 48) (.tmp 51) 67 rfl B 70 i0 _ 1 8 und67 hi0 hz0 hz1 hz2 rfl (by decide) v (n) (gl.map ptr) rfl (ownsRow_below ho b6) ⟨W5.heap.size, 0, none⟩ 1 1 [ptr gd] rfl rfl ?cells (by intro z hz; obtain rfl := List.mem_singleton.1 hz; rfl) (by unfold maxLen; omega) (by omega) (by have := HBW.out; have := b6.size; omega) ?_
      case cells =>
        intro k z hz
        rw [add_none, Nat.zero_add]
        exact r6.at k z hz
      intro v7 W7 o7 g7 n7 l7
      simp only [Act.put, List.setIfInBounds_toArray, List.set_cons_succ, List.set_cons_zero]
      have hnd : DevIn W5 (paint c' wr.heap.size (t, n + 1)) (t, n + 1) gd ((newPl ds ts).tape (n)) ((newPl ds ts).size (n)) (fresh ((newPl ds ts).tape (n)) ((newPl ds ts).size (n))) [] := by
        rw [HTS.out.1, HTS.out.2]
        exact hd5
      obtain ⟨hN, hcc2, hr7, hrest⟩ := new_step hr hcg hgl ho hob hdv hnd hb5 o7 (by rw [← hW6]; exact g7) (by rw [← hW6]; exact l7)
      have hv7 : v7.cells = #[v7] ∧ v7.oneCell' = true := by
        obtain ⟨_, h⟩ := o7
        rcases h with ⟨rfl, _⟩ | ⟨_, _, _, rfl, _⟩
        · exact ⟨rfl, rfl⟩
        · exact ⟨rfl, rfl⟩
      have HB7 : Hid (Below B w W7) := by
        refine (HBL.out.1.trans (b6.mono HBW.out)).trans ((Below.refl B W6).grown g7 (by have := HBW.out; have := b6.size; omega) fun k hk => ?_)
        exact (ho.lt k hk).1
      refine wpList_nilCheck (.tmp 44) rfl rfl _ rfl ?_
      simp only [Act.put, List.setIfInBounds_toArray, List.set_cons_succ, List.set_cons_zero]
      refine wpList_field f69_0 (.tmp 53) rfl rfl gp 0 rfl ?_
      simp only [Act.put, List.setIfInBounds_toArray, List.set_cons_succ, List.set_cons_zero]
      refine wpList_store1 size67 (.tmp 54) (.tmp 52) rfl rfl rfl gp (0 + 0) 69 rfl v7 _ rfl hv7.1 hv7.2 hr7 (by simp) ?_
      refine wpList_nil ?_
      obtain ⟨W8, hW8⟩ : ∃ W8, W8 = W7.setRow gp ([v7, .bool true, .int .i64 (-1), .int .i64 0, .int .i64 0] : List Value).toArray := ⟨_, rfl⟩
      have e8 : W7.setRow gp (([v, .bool true, .int .i64 (-1), .int .i64 0, .int .i64 0] : List Value).set (0 + 0) v7).toArray = W8 := by rw [hW8]; rfl
      rw [e8]
      have HN8 : Hid (NewIn W8 (paint (paint c' wr.heap.size (t, n + 1)) W5.heap.size (t, 0)) t gp B (newPl ds ts) (n + 1)) := by rw [hW8]; exact hN
      have hrb8 := hrest B 24 _ (by decide) (by have := HGP.out; omega) HRB.out
      rw [← hW8] at hrb8
      have HB8 : Hid (Below B w W8) := by
        rw [hW8]
        exact HB7.out.trans ⟨rfl, rfl, rfl, by simp [World.setRow], fun k hk => Go.setRow_other W7 gp k _ (by have := HGP.out; omega)⟩
      have HC8 : Hid (∀ b, b < B → paint (paint c' wr.heap.size (t, n + 1)) W5.heap.size (t, 0) b = c b) := fun b hb => (hcc2 b (by have := HBW.out; omega)).trans (HBL.out.2 b hb)
      clear hN hcc2 hrest hr7 hv7 hr ho hob hdv hd5 hnd hb5 b6 r6 o7 g7 l7 e8 hW8 hW6 c0 hcall
      go_wp2
      exact ⟨⟨n + 1, by omega, by go_num, _, HC8.out, HN8.out, hrb8, HB8.out⟩, by simp [intOf]; omega⟩
    · have e : n = nd := by omega
      subst e
      have k1 := HRB.out.at 1 _ rfl
      have HN1 : Hid (NewIn wr c' t gp B (newPl ds ts) (n + 0)) := hin
      have HB3 : Hid (Below B w wr) := hbw
      have HC3 : Hid (∀ b, b < B → c' b = c b) := hcc
      clear hin hbw hcc
      go_wp2
      go_loopw [59] (fun ix W => ∃ j : Nat, j ≤ nt ∧ ix = .int .i64 j ∧ ∃ c', (∀ b, b < B → c' b = c b) ∧ NewIn W c' t gp B (newPl ds ts) (n + j) ∧ Row W B 24 [.slice pd n cd, .slice pt nt ct] ∧ Below B w W) (fun ix _ => nt - (intOf ix).toNat)
      case atStart => exact ⟨0, Nat.zero_le _, rfl, c', HC3.out, HN1.out, HRB.out, HB3.out⟩
      case round =>
        obtain ⟨j, hj, rfl, c', hcc, hin, hrB, hbw⟩ := hrel
        clear k1 HN1
        have HRB : Hid (Row wr B 24 [.slice pd n cd, .slice pt nt ct]) := hrB
        clear hrB
        by_cases hlt : j < nt
        · obtain ⟨bd, offd, cd', hv, hcell⟩ := HT.out.cell j (by rw [← HNT.out]; exact hlt)
          injection hv with hv1 hv2 hv3
          subst hv1
          have hsz := sizesOk_at ho4 j (by rw [← HNT.out]; exact hlt)
          obtain ⟨zn, hzn⟩ : ∃ zn : Nat, ts.getD j 0 = (zn : Int) := ⟨(ts.getD j 0).toNat, by omega⟩
          rw [hzn] at hcell
          have cn : wr.cell? ⟨bd, offd + j, none⟩ = some (.int .i64 (zn : Int)) := cell_later (by rw [← HB.out]; exact hbw) hcell
          have HTS : Hid ((newPl ds ts).tape (n + j) = true ∧ (newPl ds ts).size (n + j) = zn) := by
            have := newPl_tape ds ts j (by rw [← HNT.out]; exact hlt)
            rw [hzn, ← HND.out] at this
            exact this
          clear hcell hzn hsz hv2 hv3
          obtain ⟨v, gl, hr, hcg, hgl, ho, hob, hdv⟩ := hin
          have c0 := hr.at 0 _ rfl
          have HIN : Hid (Row wr gp 69 [v, .bool true, .int .i64 (-1), .int .i64 0, .int .i64 0] ∧ c' gp = (t, 0) ∧ gl.length = n + j ∧ wr.ownsRow B 70 1 v (n + j) (gl.map ptr) ∧ (∀ b, v.ownBlock = some b → c' b = (t, 0)) ∧ ∀ i, i < n + j → DevIn wr c' (t, i + 1) (gl.getD i 0) ((newPl ds ts).tape i) ((newPl ds ts).size i) (fresh ((newPl ds ts).tape i) ((newPl ds ts).size i)) []) := ⟨hr, hcg, hgl, ho, hob, hdv⟩
          have HBW : Hid (B ≤ wr.heap.size) := by have := hbw.size; rw [HB.out]; exact this
          have HBL : Hid (Below B w wr ∧ (∀ b, b < B → c' b = c b)) := ⟨hbw, hcc⟩
          clear hr hcg hgl ho hob hdv hbw hcc
          go_upto_region 13 with fail
          refine wp_region_any (by kernel_rfl) ?_
          show wpAny _ _ _ _ 12 (Array.replicate 12 false) _ (wr.drewN 1)
          refine takeA (i := 0) (some 63) rfl rfl (by kernel_rfl) (by kernel_rfl) (by kernel_rfl) (fun _ _ _ h => h) (yMove rfl (.tmp 5) rfl (ptr gp) rfl) ?_
          simp only [Act.put, List.setIfInBounds_toArray, List.set_cons_succ, List.set_cons_zero]
          refine takeA (i := 1) (some 64) rfl rfl (by kernel_rfl) (by kernel_rfl) (by kernel_rfl) (fun _ _ _ h => h) (yMove rfl (.tmp 5) rfl (ptr gp) rfl) ?_
          simp only [Act.put, List.setIfInBounds_toArray, List.set_cons_succ, List.set_cons_zero]
          refine takeA (i := 2) (some 65) rfl rfl (by kernel_rfl) (by kernel_rfl) (by kernel_rfl) (fun _ _ _ h => h) (yNil rfl (.tmp 64) rfl _ rfl) ?_
          simp only [Act.put, List.setIfInBounds_toArray, List.set_cons_succ, List.set_cons_zero]
          refine takeA (i := 3) (some 66) rfl rfl (by kernel_rfl) (by kernel_rfl) (by kernel_rfl) (fun _ _ _ h => h) (yField f69_0 rfl (.tmp 65) rfl gp 0 rfl) ?_
          simp only [Act.put, List.setIfInBounds_toArray, List.set_cons_succ, List.set_cons_zero]
          refine takeA (i := 5) (some 68) rfl rfl (by kernel_rfl) (by kernel_rfl) (by kernel_rfl) (fun _ _ _ h => h) (yMove rfl (.tmp 9) rfl (.int .i64 (zn : Int)) rfl) ?_
          simp only [Act.put, List.setIfInBounds_toArray, List.set_cons_succ, List.set_cons_zero]
          have hcall := newDev_any (wr.drewN 1) c' (t, n + j + 1) zn true
          refine anyThree (i := 4) (j := 6) (k := 7) 67 69 70 rfl rfl rfl (by decide) (by decide) (by decide) (by decide) (by kernel_rfl) (by kernel_rfl) (by kernel_rfl) (by kernel_rfl) (by kernel_rfl)
            v (fun u W' => ∃ gd, u = ptr gd ∧ wr.heap.size ≤ gd ∧ DevIn W' (paint c' wr.heap.size (t, n + j + 1)) (t, n + j + 1) gd true zn (fresh true zn) [] ∧ Below wr.heap.size wr W')
            (fun u s W'' => ∃ gd W', u = ptr gd ∧ wr.heap.size ≤ gd ∧ DevIn W' (paint c' wr.heap.size (t, n + j + 1)) (t, n + j + 1) gd true zn (fresh true zn) [] ∧ Below wr.heap.size wr W' ∧ s = .slice (some ⟨W'.heap.size, 0, none⟩) 1 1 ∧ W'' = W'.alloc (.cells #[ptr gd] 70)) ?_ ?_ ?_ ?_ ?_ ?_ ?_ ?_
          · exact run_load1 one67 (.tmp 66) rfl gp 0 rfl _ c0
          · rintro u W' ⟨gd, rfl, _, _, hb'⟩
            exact run_load1 one67 (.tmp 66) rfl gp 0 rfl _ (cell_later hb' c0)
          · rintro u W' s W'' _ ⟨gd, W1, rfl, _, _, hb', rfl, rfl⟩
            exact run_load1 one67 (.tmp 66) rfl gp 0 rfl _ (cell_later (hb'.trans ((Below.refl _ W1).alloc hb'.size _)) c0)
          · intro R hR
            refine opCallA (some 69) rfl rfl rfl 38 _ (run_call en38 [.tmp 68, .const (.bool true)] _ rfl [.int .i64 (zn : Int), .bool true] rfl) (hcall.mono ?_)
            rintro e W' ⟨gd, rfl, hgd, hd, hb'⟩
            exact ⟨_, rfl, hR _ _ ⟨gd, rfl, hgd, hd, (Below.drewN (Below.refl wr.heap.size wr) 1).trans hb'⟩⟩
          · intro R hR
            refine opCallA (some 69) rfl rfl rfl 38 _ (run_call en38 [.tmp 68, .const (.bool true)] _ rfl [.int .i64 (zn : Int), .bool true] rfl) (hcall.mono ?_)
            rintro e W' ⟨gd, rfl, hgd, hd, hb'⟩
            exact ⟨_, rfl, hR _ _ ⟨gd, rfl, hgd, hd, (Below.drewN (Below.refl wr.heap.size wr) 1).trans hb'⟩⟩
          · rintro u W' ⟨gd, rfl, hgd, hd, hb'⟩ R hR
            exact opValue (some 70) rfl rfl rfl _ _ (run_onePtrOp (.tmp 69) rfl gd rfl) (hR _ _ ⟨gd, W', rfl, hgd, hd, hb', rfl, rfl⟩)
          · rintro u W' ⟨gd, rfl, hgd, hd, hb'⟩ R hR
            exact opValue (some 70) rfl rfl rfl _ _ (run_onePtrOp (.tmp 69) rfl gd rfl) (hR _ _ ⟨gd, W', rfl, hgd, hd, hb', rfl, rfl⟩)
          rintro u W0 s W6 _ ⟨gd, W5, rfl, hgd, hd5, hb5, rfl, hW6⟩
          simp only [Act.put, List.setIfInBounds_toArray, List.set_cons_succ, List.set_cons_zero]
          refine anySeqD 8 (by kernel_rfl) rfl ?_
          simp only [List.drop_succ_cons, List.drop_zero]
          obtain ⟨hr, hcg, hgl, ho, hob, hdv⟩ := HIN.out
          have s6 : W6.heap.size = W5.heap.size + 1 := by rw [hW6]; simp
          have b6 : Below wr.heap.size wr W6 := by rw [hW6]; exact hb5.trans ((Below.refl _ W5).alloc hb5.size _)
          have r6 : Row W6 W5.heap.size 70 [ptr gd] := by rw [hW6]; exact Row.new W5 70 [ptr gd]
          obtain ⟨i0, hi0, hz0, hz1, hz2⟩ := info_parts info70
          refine wpList_append_own_at _ rfl (.tmp 67) (.tmp 70) 67 rfl B 70 i0 _ 1 8 und67 hi0 hz0 hz1 hz2 rfl (by decide) v (n + j) (gl.map ptr) rfl (ownsRow_below ho b6) ⟨W5.heap.size, 0, none⟩ 1 1 [ptr gd] rfl rfl ?cells (by intro z hz; obtain rfl := List.mem_singleton.1 hz; rfl) (by unfold maxLen; omega) (by omega) (by have := HBW.out; have := b6.size; omega) ?_
          case cells =>
            intro k z hz
            rw [add_none, Nat.zero_add]
            exact r6.at k z hz
          intro v7 W7 o7 g7 n7 l7
          simp only [Act.put, List.setIfInBounds_toArray, List.set_cons_succ, List.set_cons_zero]
          have hnd : DevIn W5 (paint c' wr.heap.size (t, n + j + 1)) (t, n + j + 1) gd ((newPl ds ts).tape (n + j)) ((newPl ds ts).size (n + j)) (fresh ((newPl ds ts).tape (n + j)) ((newPl ds ts).size (n + j))) [] := by
            rw [HTS.out.1, HTS.out.2]
            exact hd5
          obtain ⟨hN, hcc2, hr7, hrest⟩ := new_step hr hcg hgl ho hob hdv hnd hb5 o7 (by rw [← hW6]; exact g7) (by rw [← hW6]; exact l7)
          have hv7 : v7.cells = #[v7] ∧ v7.oneCell' = true := by
            obtain ⟨_, h⟩ := o7
            rcases h with ⟨rfl, _⟩ | ⟨_, _, _, rfl, _⟩
            · exact ⟨rfl, rfl⟩
            · exact ⟨rfl, rfl⟩
          have HB7 : Hid (Below B w W7) := by
            refine (HBL.out.1.trans (b6.mono HBW.out)).trans ((Below.refl B W6).grown g7 (by have := HBW.out; have := b6.size; omega) fun k hk => ?_)
            exact (ho.lt k hk).1
          refine wpList_nilCheck (.tmp 63) rfl rfl _ rfl ?_
          simp only [Act.put, List.setIfInBounds_toArray, List.set_cons_succ, List.set_cons_zero]
          refine wpList_field f69_0 (.tmp 72) rfl rfl gp 0 rfl ?_
          simp only [Act.put, List.setIfInBounds_toArray, List.set_cons_succ, List.set_cons_zero]
          refine wpList_store1 size67 (.tmp 73) (.tmp 71) rfl rfl rfl gp (0 + 0) 69 rfl v7 _ rfl hv7.1 hv7.2 hr7 (by simp) ?_
          refine wpList_nil ?_
          obtain ⟨W8, hW8⟩ : ∃ W8, W8 = W7.setRow gp ([v7, .bool true, .int .i64 (-1), .int .i64 0, .int .i64 0] : List Value).toArray := ⟨_, rfl⟩
          have e8 : W7.setRow gp (([v, .bool true, .int .i64 (-1), .int .i64 0, .int .i64 0] : List Value).set (0 + 0) v7).toArray = W8 := by rw [hW8]; rfl
          rw [e8]
          have HN8 : Hid (NewIn W8 (paint (paint c' wr.heap.size (t, n + j + 1)) W5.heap.size (t, 0)) t gp B (newPl ds ts) (n + j + 1)) := by rw [hW8]; exact hN
          have hrb8 := hrest B 24 _ (by decide) (by have := HGP.out; omega) HRB.out
          rw [← hW8] at hrb8
          have HB8 : Hid (Below B w W8) := by
            rw [hW8]
            exact HB7.out.trans ⟨rfl, rfl, rfl, by simp [World.setRow], fun k hk => Go.setRow_other W7 gp k _ (by have := HGP.out; omega)⟩
          have HC8 : Hid (∀ b, b < B → paint (paint c' wr.heap.size (t, n + j + 1)) W5.heap.size (t, 0) b = c b) := fun b hb => (hcc2 b (by have := HBW.out; omega)).trans (HBL.out.2 b hb)
          clear hN hcc2 hrest hr7 hv7 hr ho hob hdv hd5 hnd hb5 b6 r6 o7 g7 l7 e8 hW8 hW6 c0 hcall
          go_wp2
          exact ⟨⟨j + 1, by omega, by go_num, _, HC8.out, HN8.out, hrb8, HB8.out⟩, by simp [intOf]; omega⟩
        · have e : j = nt := by omega
          subst e
          have HE : Hid (∃ db cap gs, PlantAt wr c' t gp db cap gs (newPl ds ts)) := by
            refine new_done (B := B) ?_ (by have := HND.out; have := HNT.out; omega)
            rw [← HND.out, ← HNT.out]
            exact hin
          have HB4 : Hid (Below B w wr) := hbw
          have HC4 : Hid (∀ b, b < B → c' b = c b) := hcc
          clear hin hbw hcc
          go_wp2
          go_ret2
          obtain ⟨db, cap, gs, hP⟩ := HE.out
          exact ⟨gp, c', db, cap, gs, rfl, by have := HGP.out; omega, HC4.out, hP, HB4.out⟩
end Go.Proofs.Ytgkmegcejekbcaa

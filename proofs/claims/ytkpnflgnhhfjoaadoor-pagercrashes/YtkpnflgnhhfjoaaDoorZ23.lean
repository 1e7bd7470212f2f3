/- Layer 9: a head is read. -/
import Derived.Test.YtkpnflgnhhfjoaaDoorZ22
namespace Go.Proofs.YtkpnflgnhhfjoaaDoor
open Go.RowKit Go.Maps
open Fr.Frame (be val)

def zHd : Hd := ⟨0, 0, noneP⟩
/-- what a head that is read, or none, is told as -/
def hdRes : Option Hd → List Value
  | some H => hdCells H
  | none => hdCells zHd
def hdErr : Option Hd → Int
  | some _ => 0
  | none => 4
theorem zHd_len : (hdCells zHd).length = 50 := hdCells_length uset_none
theorem hd50 {H : Hd} (h : H.WF) : (hdCells H).length = 50 := hdCells_length h.used
theorem spliceHd {H : Hd} (h : H.WF) : splice (hdCells zHd) 0 (hdCells H) = hdCells H := splice_all _ _ (by rw [hd50 h, zHd_len])
theorem zero78' : (Tryd.prog.info? 78).map (·.zero) = some (some (.agg (hdCells zHd).toArray)) := zero78
theorem run_zHd {w : World} {a : Act} {o : Oper} (ho : o.op = .build 78 #[]) : (execOp a.eval o).run Tryd.prog w = .ok (.value (.agg (hdCells zHd).toArray)) w := run_build78zOp ho
theorem hdRes_len {r : Option Hd} (h : ∀ H, r = some H → H.WF) : (hdRes r).length = 50 := by
  cases r with
  | none => exact zHd_len
  | some H => exact hd50 (h H rfl)
set_option maxHeartbeats 8000000 in
set_option maxRecDepth 100000 in
theorem readHead_any {w : World} {c : Nat → Colour} {t g : Nat} {m : Pl} (h : Live w c t g m) {ds ts : List Nat} {i n : Nat} (hd : DkOn m ds ts i) (hn : n = pagesN (ds.getD i 0)) (hn1 : 1 ≤ n) (ht : Fr.TabIn w) (k : Nat) (hk : k < 2) : Calls Tryd.prog 65 #[ptr g, .int .i64 (i : Nat), .int .i64 (k : Nat)] w fun e w' => e = .returned (.tuple #[.agg (hdRes (headAt (m.rd i) n k)).toArray, .int .i64 (hdErr (headAt (m.rd i) n k))]) ∧ Below w.heap.size w w' := by
  have hsz : 10 ≤ ds.getD i 0 := by unfold pagesN at hn; omega
  have hn384 : n ≤ 384 := by unfold pagesN at hn; omega
  obtain ⟨s, hs⟩ : ∃ s, s = m.rd i k := ⟨_, rfl⟩
  have HSS : Hid (Sec s) := by show Sec s; rw [hs]; exact Pl.rd_sec h.2.1 i k
  obtain ⟨H, hH⟩ : ∃ H, H = hdOf s := ⟨_, rfl⟩
  obtain ⟨ok, hok⟩ : ∃ ok, ok = hdOk s := ⟨_, rfl⟩
  have HWF : Hid H.WF := by show H.WF; rw [hH]; exact hdOf_wf HSS.out.1 HSS.out.2
  obtain ⟨r, hr⟩ : ∃ r, r = headAt (m.rd i) n k := ⟨_, rfl⟩
  have HR : Hid (r = if ok = true ∧ H.num % 2 = k ∧ holdsB H n = true then some H else none) := by
    show r = _
    rw [hr, hok, hH, hs]
    unfold headAt
    by_cases hc : hdOk (m.rd i k) = true ∧ (hdOf (m.rd i k)).num % 2 = k ∧ Holds (hdOf (m.rd i k)) n
    · rw [if_pos hc, if_pos ⟨hc.1, hc.2.1, (holdsB_iff _ _).2 hc.2.2⟩]
    · rw [if_neg hc, if_neg (fun h => hc ⟨h.1, h.2.1, (holdsB_iff _ _).1 h.2.2⟩)]
  have HRS : Hid (∀ W, Below w.heap.size w W → Calls Tryd.prog 76 #[ptr g, .int .i64 (i : Nat), .int .i64 (k : Nat)] W fun e w' => e = .returned (.tuple #[.agg (bcells s).toArray, .int .i64 0]) ∧ Below W.heap.size W w') := fun W hW => by rw [hs]; exact readSector_any (h.below hW) hd k (by omega)
  have HHO : Hid (∀ W, Below w.heap.size w W → Calls Tryd.prog 78 #[.agg (bcells s).toArray] W fun e w' => e = .returned (.tuple #[.agg (hdCells H).toArray, .bool ok]) ∧ Below W.heap.size W w') := fun W hW => by rw [hH, hok]; exact headOf_any W (Fr.TabIn.later hW ht) s HSS.out
  have HSL : Hid (∀ W, Calls Tryd.prog 67 #[.agg (hdCells H).toArray] W fun e w' => e = .returned (.int .i64 ((H.num % 2 : Nat) : Int)) ∧ Below W.heap.size W w') := fun W => slot_any W H HWF.out
  have HPG : Hid (∀ W, Below w.heap.size w W → Calls Tryd.prog 37 #[ptr g, .int .i64 (i : Nat)] W fun e w' => e = .returned (.int .i64 (n : Nat)) ∧ Below W.heap.size W w') := fun W hW => by
    have h1 := pagesOf_any (h.below hW) hd.shape (i : Int)
    unfold pagesD at h1
    rw [if_pos ⟨by omega, by have := hd.lt; omega⟩, Int.toNat_natCast, ← hn] at h1
    exact h1
  have HHD : Hid (∀ W, Calls Tryd.prog 79 #[.agg (hdCells H).toArray, .int .i64 (n : Nat)] W fun e w' => e = .returned (.bool (holdsB H n)) ∧ Below W.heap.size W w') := fun W => holds_any W H HWF.out n hn384
  obtain ⟨hb, hhb⟩ : ∃ hb, hb = holdsB H n := ⟨_, rfl⟩
  obtain ⟨sl, hsl⟩ : ∃ sl, sl = H.num % 2 := ⟨_, rfl⟩
  rw [← hhb] at HHD HR
  rw [← hsl] at HSL HR
  obtain ⟨PQ, hPQ⟩ : ∃ PQ : Ending → World → Prop, PQ = fun (e : Ending) (w' : World) => e = .returned (.tuple #[.agg (hdRes r).toArray, .int .i64 (hdErr r)]) ∧ Below w.heap.size w w' := ⟨_, rfl⟩
  have HPQ : Hid (PQ = fun (e : Ending) (w' : World) => e = .returned (.tuple #[.agg (hdRes r).toArray, .int .i64 (hdErr r)]) ∧ Below w.heap.size w w') := hPQ
  rw [← hr, ← hPQ]
  clear hs hH hok hr hhb hsl hPQ hd hn hn1 hsz h ht
  have R0 : Hid (Loc w w []) := Loc.nil (Below.refl _ w)
  go_enter Tryd.func65, Tryd.ntmps65
  go_upto_region 0 with fail
  refine wp_region_lit ?_
  refine wl rfl (ptr w.heap.size) _ (run_allocA (hdCells zHd) zero78' rfl) ?_
  have k_ := R0.out.box 78 (hdCells zHd)
  obtain ⟨w1, hW_⟩ : ∃ W, W = w.alloc (.cells (hdCells zHd).toArray 78) := ⟨_, rfl⟩
  obtain ⟨q1, hq_⟩ : ∃ q, q = w.heap.size := ⟨_, rfl⟩
  rw [← hW_, ← hq_] at k_
  rw [← hW_, ← hq_]
  clear hq_
  have Rw1 : Hid (Loc w w1 [(q1, 78, hdCells zHd)]) := k_
  clear k_ hW_ R0
  simp only [Act.put, aS, aC, aZ]
  refine wl rfl (.int .i64 0) _ (run_asZ (.const (.int .i64 0)) rfl (.int .i64 0) rfl) ?_
  simp only [Act.put, aS, aC, aZ]
  refine wpList_nil ?_
  go_upto_region 1 with fail
  refine wp_region_lit ?_
  refine wl rfl (ptr g) _ (run_mvZ (.tmp 0) rfl (ptr g) rfl) ?_
  simp only [Act.put, aS, aC, aZ]
  refine wl rfl (.int .i64 (i : Nat)) _ (run_mvZ (.tmp 1) rfl (.int .i64 (i : Nat)) rfl) ?_
  simp only [Act.put, aS, aC, aZ]
  refine wl rfl (.int .i64 (k : Nat)) _ (run_mvZ (.tmp 2) rfl (.int .i64 (k : Nat)) rfl) ?_
  simp only [Act.put, aS, aC, aZ]
  refine wpList_callW eN76 [.tmp 13, .tmp 14, .tmp 15] _ rfl rfl [(ptr g), (.int .i64 (i : Nat)), (.int .i64 (k : Nat))] rfl ?_
  refine (HRS.out w1 Rw1.out.below).mono ?_
  rintro e w2 ⟨rfl, b2⟩
  refine ⟨_, rfl, ?_⟩
  have Rw2 : Hid (Loc w w2 [(q1, 78, hdCells zHd)]) := Rw1.out.later b2
  clear Rw1 b2
  simp only [Act.put, aS, aC, aZ]
  refine wl rfl (.tuple #[(.agg (bcells s).toArray), (.int .i64 0)]) _ (run_mvZ (.tmp 16) rfl (.tuple #[(.agg (bcells s).toArray), (.int .i64 0)]) rfl) ?_
  simp only [Act.put, aS, aC, aZ]
  refine wl rfl (.agg (bcells s).toArray) _ (run_extZ (.tmp 12) 0 rfl #[(.agg (bcells s).toArray), (.int .i64 0)] rfl (.agg (bcells s).toArray) rfl) ?_
  simp only [Act.put, aS, aC, aZ]
  refine wl rfl (.int .i64 0) _ (run_extZ (.tmp 12) 1 rfl #[(.agg (bcells s).toArray), (.int .i64 0)] rfl (.int .i64 0) rfl) ?_
  simp only [Act.put, aS, aC, aZ]
  refine wl rfl (ptr w2.heap.size) _ (run_allocA (zerosU8 64) zero122 rfl) ?_
  have k_ := Rw2.out.box 122 (zerosU8 64)
  obtain ⟨w3, hW_⟩ : ∃ W, W = w2.alloc (.cells (zerosU8 64).toArray 122) := ⟨_, rfl⟩
  obtain ⟨q2, hq_⟩ : ∃ q, q = w2.heap.size := ⟨_, rfl⟩
  rw [← hW_, ← hq_] at k_
  rw [← hW_, ← hq_]
  clear hq_
  have Rw3 : Hid (Loc w w3 [(q1, 78, hdCells zHd), (q2, 122, zerosU8 64)]) := k_
  clear k_ hW_ Rw2
  simp only [Act.put, aS, aC, aZ]
  refine wlS rfl rfl _ (run_storeL ag122 (.tmp 8) (.tmp 17) rfl Rw3.out 1 rfl (0) rfl (bcells s) rfl (bc64 s HSS.out.1) (by rw [bc64 s HSS.out.1, z64]; decide) (bcells_one s)).1 ?_
  have k_ := Rw3.out.lay 1 rfl (0) (bcells s)
  rw [splice64 s HSS.out.1] at k_ ⊢
  obtain ⟨w4, hW_⟩ : ∃ W, W = w3.setRow q2 (bcells s).toArray := ⟨_, rfl⟩
  rw [← hW_] at k_ ⊢
  have Rw4 : Hid (Loc w w4 [(q1, 78, hdCells zHd), (q2, 122, bcells s)]) := k_
  clear k_ hW_ Rw3
  refine wl rfl (.int .i64 0) _ (run_asZ (.tmp 18) rfl (.int .i64 0) rfl) ?_
  simp only [Act.put, aS, aC, aZ]
  refine wpList_nil ?_
  go_upto_region 2 with fail
  refine wp_region_lit ?_
  refine wl rfl (.int .i64 0) _ (run_mvZ (.tmp 9) rfl (.int .i64 0) rfl) ?_
  simp only [Act.put, aS, aC, aZ]
  refine wl rfl (.bool false) _ (run_neZ (.tmp 19) (.const (.int .i64 0)) rfl (0) (0) rfl rfl false rfl) ?_
  simp only [Act.put, aS, aC, aZ]
  refine wpList_nil ?_
  go_upto_region 4 with fail
  refine wp_region_lit ?_
  refine wl rfl (.agg (bcells s).toArray) _ (run_loadA ag122 (.tmp 8) rfl q2 (0) rfl (bcells s) (bc64 s HSS.out.1) (rows_all Rw4.out 1 rfl)) ?_
  simp only [Act.put, aS, aC, aZ]
  refine wpList_callW eN78 [.tmp 24] _ rfl rfl [(.agg (bcells s).toArray)] rfl ?_
  refine (HHO.out w4 Rw4.out.below).mono ?_
  rintro e w5 ⟨rfl, b5⟩
  refine ⟨_, rfl, ?_⟩
  have Rw5 : Hid (Loc w w5 [(q1, 78, hdCells zHd), (q2, 122, bcells s)]) := Rw4.out.later b5
  clear Rw4 b5
  simp only [Act.put, aS, aC, aZ]
  refine wl rfl (.tuple #[(.agg (hdCells H).toArray), (.bool ok)]) _ (run_mvZ (.tmp 25) rfl (.tuple #[(.agg (hdCells H).toArray), (.bool ok)]) rfl) ?_
  simp only [Act.put, aS, aC, aZ]
  refine wl rfl (.agg (hdCells H).toArray) _ (run_extZ (.tmp 23) 0 rfl #[(.agg (hdCells H).toArray), (.bool ok)] rfl (.agg (hdCells H).toArray) rfl) ?_
  simp only [Act.put, aS, aC, aZ]
  refine wl rfl (.bool ok) _ (run_extZ (.tmp 23) 1 rfl #[(.agg (hdCells H).toArray), (.bool ok)] rfl (.bool ok) rfl) ?_
  simp only [Act.put, aS, aC, aZ]
  refine wl rfl (ptr w5.heap.size) _ (run_allocA (hdCells zHd) zero78' rfl) ?_
  have k_ := Rw5.out.box 78 (hdCells zHd)
  obtain ⟨w6, hW_⟩ : ∃ W, W = w5.alloc (.cells (hdCells zHd).toArray 78) := ⟨_, rfl⟩
  obtain ⟨q3, hq_⟩ : ∃ q, q = w5.heap.size := ⟨_, rfl⟩
  rw [← hW_, ← hq_] at k_
  rw [← hW_, ← hq_]
  clear hq_
  have Rw6 : Hid (Loc w w6 [(q1, 78, hdCells zHd), (q2, 122, bcells s), (q3, 78, hdCells zHd)]) := k_
  clear k_ hW_ Rw5
  simp only [Act.put, aS, aC, aZ]
  refine wlS rfl rfl _ (run_storeL ag78 (.tmp 10) (.tmp 26) rfl Rw6.out 2 rfl (0) rfl (hdCells H) rfl (hd50 HWF.out) (by rw [hd50 HWF.out, zHd_len]; decide) (hdCells_one H)).1 ?_
  have k_ := Rw6.out.lay 2 rfl (0) (hdCells H)
  rw [spliceHd HWF.out] at k_ ⊢
  obtain ⟨w7, hW_⟩ : ∃ W, W = w6.setRow q3 (hdCells H).toArray := ⟨_, rfl⟩
  rw [← hW_] at k_ ⊢
  have Rw7 : Hid (Loc w w7 [(q1, 78, hdCells zHd), (q2, 122, bcells s), (q3, 78, hdCells H)]) := k_
  clear k_ hW_ Rw6
  refine wl rfl (.bool ok) _ (run_asZ (.tmp 27) rfl (.bool ok) rfl) ?_
  simp only [Act.put, aS, aC, aZ]
  refine wpList_nil ?_
  cases ok with
  | false =>
    go_upto_region 5 with fail
    refine wp_region_held (S := fun X => Row X q3 78 (hdCells H)) (by kernel_rfl) ?_
    show wpAnyH _ _ _ _ _ 16 (Array.replicate 16 false) _ _
    obtain ⟨X, hX⟩ : ∃ X : World, X = { w7 with drawn := w7.drawn + 1 } := ⟨_, rfl⟩
    rw [← hX]
    have hL : Loc w X [(q1, 78, hdCells zHd), (q2, 122, bcells s), (q3, 78, hdCells H)] := by rw [hX]; exact Rw7.out.drew
    clear Rw7
    clear hX
    refine takeH (i := 0) (some 28) rfl rfl (by kernel_rfl) (by kernel_rfl) (by kernel_rfl) (fun _ _ _ h => h) (gRun rfl (.bool false) fun _ h => run_mvZ (.tmp 11) rfl (.bool false) rfl) (hL.at 2 rfl) ?_
    simp only [Act.put, aS, aC, aZ]
    refine takeH (i := 1) (some 29) rfl rfl (by kernel_rfl) (by kernel_rfl) (by kernel_rfl) (fun _ _ _ h => h) (gRun rfl (.bool true) fun _ h => run_not (.tmp 28) 4 rfl false rfl) (hL.at 2 rfl) ?_
    simp only [Act.put, aS, aC, aZ]
    refine takeH (i := 2) (some 30) rfl rfl (by kernel_rfl) (by kernel_rfl) (by kernel_rfl) (fun _ _ _ h => h) (gRun rfl (.bool true) fun _ h => run_mvZ (.tmp 29) rfl (.bool true) rfl) (hL.at 2 rfl) ?_
    simp only [Act.put, aS, aC, aZ]
    refine takeH (i := 3) (some 31) rfl rfl (by kernel_rfl) (by kernel_rfl) (by kernel_rfl) (fun _ _ _ h => h) (Or.inr ⟨by kernel_rfl, rfl⟩) (hL.at 2 rfl) ?_
    simp only [Act.put, aS, aC, aZ]
    refine takeH (i := 5) (some 33) rfl rfl (by kernel_rfl) (by kernel_rfl) (by kernel_rfl) (fun _ _ _ h => h) (Or.inr ⟨by kernel_rfl, rfl⟩) (hL.at 2 rfl) ?_
    simp only [Act.put, aS, aC, aZ]
    refine takeH (i := 4) (some 32) rfl rfl (by kernel_rfl) (by kernel_rfl) (by kernel_rfl) (fun _ _ _ h => h) (Or.inr ⟨by kernel_rfl, rfl⟩) (hL.at 2 rfl) ?_
    simp only [Act.put, aS, aC, aZ]
    refine takeH (i := 6) (some 34) rfl rfl (by kernel_rfl) (by kernel_rfl) (by kernel_rfl) (fun _ _ _ h => h) (Or.inr ⟨by kernel_rfl, rfl⟩) (hL.at 2 rfl) ?_
    simp only [Act.put, aS, aC, aZ]
    refine takeH (i := 7) (some 35) rfl rfl (by kernel_rfl) (by kernel_rfl) (by kernel_rfl) (fun _ _ _ h => h) (gRun rfl (.bool true) fun _ h => run_pickZ (.tmp 30) (.const (.bool true)) (.tmp 34) rfl true (.bool true) rfl rfl) (hL.at 2 rfl) ?_
    simp only [Act.put, aS, aC, aZ]
    refine takeH (i := 8) (some 36) rfl rfl (by kernel_rfl) (by kernel_rfl) (by kernel_rfl) (fun _ _ _ h => h) (gRun rfl (.bool true) fun _ h => run_mvZ (.tmp 35) rfl (.bool true) rfl) (hL.at 2 rfl) ?_
    simp only [Act.put, aS, aC, aZ]
    refine takeH (i := 9) (some 37) rfl rfl (by kernel_rfl) (by kernel_rfl) (by kernel_rfl) (fun _ _ _ h => h) (Or.inr ⟨by kernel_rfl, rfl⟩) (hL.at 2 rfl) ?_
    simp only [Act.put, aS, aC, aZ]
    refine takeH (i := 10) (some 38) rfl rfl (by kernel_rfl) (by kernel_rfl) (by kernel_rfl) (fun _ _ _ h => h) (Or.inr ⟨by kernel_rfl, rfl⟩) (hL.at 2 rfl) ?_
    simp only [Act.put, aS, aC, aZ]
    refine takeH (i := 11) (some 39) rfl rfl (by kernel_rfl) (by kernel_rfl) (by kernel_rfl) (fun _ _ _ h => h) (Or.inr ⟨by kernel_rfl, rfl⟩) (hL.at 2 rfl) ?_
    simp only [Act.put, aS, aC, aZ]
    refine takeH (i := 12) (some 40) rfl rfl (by kernel_rfl) (by kernel_rfl) (by kernel_rfl) (fun _ _ _ h => h) (Or.inr ⟨by kernel_rfl, rfl⟩) (hL.at 2 rfl) ?_
    simp only [Act.put, aS, aC, aZ]
    refine takeH (i := 13) (some 41) rfl rfl (by kernel_rfl) (by kernel_rfl) (by kernel_rfl) (fun _ _ _ h => h) (Or.inr ⟨by kernel_rfl, rfl⟩) (hL.at 2 rfl) ?_
    simp only [Act.put, aS, aC, aZ]
    refine takeH (i := 14) (some 42) rfl rfl (by kernel_rfl) (by kernel_rfl) (by kernel_rfl) (fun _ _ _ h => h) (Or.inr ⟨by kernel_rfl, rfl⟩) (hL.at 2 rfl) ?_
    simp only [Act.put, aS, aC, aZ]
    refine takeH (i := 15) (some 43) rfl rfl (by kernel_rfl) (by kernel_rfl) (by kernel_rfl) (fun _ _ _ h => h) (gRun rfl (.bool true) fun _ h => run_pickZ (.tmp 36) (.const (.bool true)) (.tmp 42) rfl true (.bool true) rfl rfl) (hL.at 2 rfl) ?_
    simp only [Act.put, aS, aC, aZ]
    refine wpAnyH_done (by kernel_rfl) ?_ _
    have RX : Hid (Loc w X [(q1, 78, hdCells zHd), (q2, 122, bcells s), (q3, 78, hdCells H)]) := hL
    clear hL
    have er : r = none := by rw [HR.out, if_neg (by rintro ⟨h1, _⟩; cases h1)]
    subst er
    go_upto_region 6 with fail
    refine wp_region_lit ?_
    refine wl rfl (.agg (hdCells zHd).toArray) _ (run_zHd rfl) ?_
    simp only [Act.put, aS, aC, aZ]
    refine wlS rfl rfl _ (run_storeL ag78 (.tmp 6) (.tmp 44) rfl RX.out 0 rfl (0) rfl (hdCells zHd) rfl zHd_len (by rw [zHd_len]; decide) (hdCells_one zHd)).1 ?_
    have k_ := RX.out.lay 0 rfl (0) (hdCells zHd)
    rw [splice_all _ _ rfl] at k_ ⊢
    obtain ⟨wb, hW_⟩ : ∃ W, W = X.setRow q1 (hdCells zHd).toArray := ⟨_, rfl⟩
    rw [← hW_] at k_ ⊢
    have Rwb : Hid (Loc w wb [(q1, 78, hdCells zHd), (q2, 122, bcells s), (q3, 78, hdCells H)]) := k_
    clear k_ hW_ RX
    refine wl rfl (.int .i64 4) _ (run_asZ (.const (.int .i64 4)) rfl (.int .i64 4) rfl) ?_
    simp only [Act.put, aS, aC, aZ]
    refine wpList_nil ?_
    go_wp2_with fail
    rw [HPQ.out]
    exact bodyPost_ret (results_cell_tmp ag78 Tryd.results65 _ _ q1 78 rfl (hdCells zHd) zHd_len (Rwb.out.at 0 rfl)) rfl ⟨rfl, Rwb.out.below⟩
  | true =>
    by_cases hs : sl = k
    · have hne : (!decide ((sl : Int) = (k : Int))) = false := by rw [hs]; simp
      cases hb with
      | true =>
        go_upto_region 5 with fail
        refine wp_region_held (S := fun X => Row X q3 78 (hdCells H)) (by kernel_rfl) ?_
        show wpAnyH _ _ _ _ _ 16 (Array.replicate 16 false) _ _
        obtain ⟨X, hX⟩ : ∃ X : World, X = { w7 with drawn := w7.drawn + 1 } := ⟨_, rfl⟩
        rw [← hX]
        have hL : Loc w X [(q1, 78, hdCells zHd), (q2, 122, bcells s), (q3, 78, hdCells H)] := by rw [hX]; exact Rw7.out.drew
        clear Rw7
        clear hX
        refine takeH (i := 0) (some 28) rfl rfl (by kernel_rfl) (by kernel_rfl) (by kernel_rfl) (fun _ _ _ h => h) (gRun rfl (.bool true) fun _ h => run_mvZ (.tmp 11) rfl (.bool true) rfl) (hL.at 2 rfl) ?_
        simp only [Act.put, aS, aC, aZ]
        refine takeH (i := 1) (some 29) rfl rfl (by kernel_rfl) (by kernel_rfl) (by kernel_rfl) (fun _ _ _ h => h) (gRun rfl (.bool false) fun _ h => run_not (.tmp 28) 4 rfl true rfl) (hL.at 2 rfl) ?_
        simp only [Act.put, aS, aC, aZ]
        refine takeH (i := 2) (some 30) rfl rfl (by kernel_rfl) (by kernel_rfl) (by kernel_rfl) (fun _ _ _ h => h) (gRun rfl (.bool false) fun _ h => run_mvZ (.tmp 29) rfl (.bool false) rfl) (hL.at 2 rfl) ?_
        simp only [Act.put, aS, aC, aZ]
        refine takeH (i := 3) (some 31) rfl rfl (by kernel_rfl) (by kernel_rfl) (by kernel_rfl) (fun _ _ _ h => h) (gRun (by kernel_rfl) (.agg (hdCells H).toArray) fun _ h => run_loadA ag78 (.tmp 10) rfl q3 (0) rfl (hdCells H) (hd50 HWF.out) (fun j v hv => by rw [Nat.zero_add]; exact h.at j v hv)) (hL.at 2 rfl) ?_
        simp only [Act.put, aS, aC, aZ]
        refine takeH (i := 5) (some 33) rfl rfl (by kernel_rfl) (by kernel_rfl) (by kernel_rfl) (fun _ _ _ h => h) (gRun (by kernel_rfl) (.int .i64 (k : Nat)) fun _ h => run_mvZ (.tmp 2) rfl (.int .i64 (k : Nat)) rfl) (hL.at 2 rfl) ?_
        simp only [Act.put, aS, aC, aZ]
        refine oneH (i := 4) (by kernel_rfl) ?_
        refine opCallG (some 32) rfl rfl (by kernel_rfl) 67 _ (run_call eN67 [.tmp 31] _ rfl [(.agg (hdCells H).toArray)] rfl) ?_
        refine (HSL.out _).mono ?_
        rintro e w8 ⟨rfl, b_⟩
        refine ⟨_, rfl, ?_⟩
        have k_ := hL.later b_
        clear hL b_
        have hL : Loc w w8 [(q1, 78, hdCells zHd), (q2, 122, bcells s), (q3, 78, hdCells H)] := k_
        clear k_
        refine ⟨hL.at 2 rfl, ?_⟩
        simp only [Act.put, aS, aC, aZ]
        refine takeH (i := 6) (some 34) rfl rfl (by kernel_rfl) (by kernel_rfl) (by kernel_rfl) (fun _ _ _ h => h) (gRun (by kernel_rfl) (.bool false) fun _ h => run_neZ (.tmp 32) (.tmp 33) rfl (sl : Nat) (k : Nat) rfl rfl false hne) (hL.at 2 rfl) ?_
        simp only [Act.put, aS, aC, aZ]
        refine takeH (i := 7) (some 35) rfl rfl (by kernel_rfl) (by kernel_rfl) (by kernel_rfl) (fun _ _ _ h => h) (gRun rfl (.bool false) fun _ h => run_pickZ (.tmp 30) (.const (.bool true)) (.tmp 34) rfl false (.bool false) rfl rfl) (hL.at 2 rfl) ?_
        simp only [Act.put, aS, aC, aZ]
        refine takeH (i := 8) (some 36) rfl rfl (by kernel_rfl) (by kernel_rfl) (by kernel_rfl) (fun _ _ _ h => h) (gRun rfl (.bool false) fun _ h => run_mvZ (.tmp 35) rfl (.bool false) rfl) (hL.at 2 rfl) ?_
        simp only [Act.put, aS, aC, aZ]
        refine takeH (i := 9) (some 37) rfl rfl (by kernel_rfl) (by kernel_rfl) (by kernel_rfl) (fun _ _ _ h => h) (gRun (by kernel_rfl) (.agg (hdCells H).toArray) fun _ h => run_loadA ag78 (.tmp 10) rfl q3 (0) rfl (hdCells H) (hd50 HWF.out) (fun j v hv => by rw [Nat.zero_add]; exact h.at j v hv)) (hL.at 2 rfl) ?_
        simp only [Act.put, aS, aC, aZ]
        refine takeH (i := 10) (some 38) rfl rfl (by kernel_rfl) (by kernel_rfl) (by kernel_rfl) (fun _ _ _ h => h) (gRun (by kernel_rfl) (ptr g) fun _ h => run_mvZ (.tmp 0) rfl (ptr g) rfl) (hL.at 2 rfl) ?_
        simp only [Act.put, aS, aC, aZ]
        refine takeH (i := 11) (some 39) rfl rfl (by kernel_rfl) (by kernel_rfl) (by kernel_rfl) (fun _ _ _ h => h) (gRun (by kernel_rfl) (.int .i64 (i : Nat)) fun _ h => run_mvZ (.tmp 1) rfl (.int .i64 (i : Nat)) rfl) (hL.at 2 rfl) ?_
        simp only [Act.put, aS, aC, aZ]
        refine oneH (i := 12) (by kernel_rfl) ?_
        refine opCallG (some 40) rfl rfl (by kernel_rfl) 37 _ (run_call eN37 [.tmp 38, .tmp 39] _ rfl [(ptr g), (.int .i64 (i : Nat))] rfl) ?_
        refine (HPG.out _ hL.below).mono ?_
        rintro e w9 ⟨rfl, b_⟩
        refine ⟨_, rfl, ?_⟩
        have k_ := hL.later b_
        clear hL b_
        have hL : Loc w w9 [(q1, 78, hdCells zHd), (q2, 122, bcells s), (q3, 78, hdCells H)] := k_
        clear k_
        refine ⟨hL.at 2 rfl, ?_⟩
        simp only [Act.put, aS, aC, aZ]
        refine oneH (i := 13) (by kernel_rfl) ?_
        refine opCallG (some 41) rfl rfl (by kernel_rfl) 79 _ (run_call eN79 [.tmp 37, .tmp 40] _ rfl [(.agg (hdCells H).toArray), (.int .i64 (n : Nat))] rfl) ?_
        refine (HHD.out _).mono ?_
        rintro e wa ⟨rfl, b_⟩
        refine ⟨_, rfl, ?_⟩
        have k_ := hL.later b_
        clear hL b_
        have hL : Loc w wa [(q1, 78, hdCells zHd), (q2, 122, bcells s), (q3, 78, hdCells H)] := k_
        clear k_
        refine ⟨hL.at 2 rfl, ?_⟩
        simp only [Act.put, aS, aC, aZ]
        refine takeH (i := 14) (some 42) rfl rfl (by kernel_rfl) (by kernel_rfl) (by kernel_rfl) (fun _ _ _ h => h) (gRun (by kernel_rfl) (.bool false) fun _ h => run_not (.tmp 41) 4 rfl true rfl) (hL.at 2 rfl) ?_
        simp only [Act.put, aS, aC, aZ]
        refine takeH (i := 15) (some 43) rfl rfl (by kernel_rfl) (by kernel_rfl) (by kernel_rfl) (fun _ _ _ h => h) (gRun rfl (.bool false) fun _ h => run_pickZ (.tmp 36) (.const (.bool true)) (.tmp 42) rfl false (.bool false) rfl rfl) (hL.at 2 rfl) ?_
        simp only [Act.put, aS, aC, aZ]
        refine wpAnyH_done (by kernel_rfl) ?_ _
        have RX : Hid (Loc w wa [(q1, 78, hdCells zHd), (q2, 122, bcells s), (q3, 78, hdCells H)]) := hL
        clear hL
        have er : r = some H := by rw [HR.out, if_pos ⟨rfl, by omega, rfl⟩]
        subst er
        go_upto_region 7 with fail
        refine wp_region_lit ?_
        refine wl rfl (.agg (hdCells H).toArray) _ (run_loadA ag78 (.tmp 10) rfl q3 (0) rfl (hdCells H) (hd50 HWF.out) (rows_all RX.out 2 rfl)) ?_
        simp only [Act.put, aS, aC, aZ]
        refine wlS rfl rfl _ (run_storeL ag78 (.tmp 6) (.tmp 45) rfl RX.out 0 rfl (0) rfl (hdCells H) rfl (hd50 HWF.out) (by rw [hd50 HWF.out, zHd_len]; decide) (hdCells_one H)).1 ?_
        have k_ := RX.out.lay 0 rfl (0) (hdCells H)
        rw [spliceHd HWF.out] at k_ ⊢
        obtain ⟨wb, hW_⟩ : ∃ W, W = wa.setRow q1 (hdCells H).toArray := ⟨_, rfl⟩
        rw [← hW_] at k_ ⊢
        have Rwb : Hid (Loc w wb [(q1, 78, hdCells H), (q2, 122, bcells s), (q3, 78, hdCells H)]) := k_
        clear k_ hW_ RX
        refine wl rfl (.int .i64 0) _ (run_asZ (.const (.int .i64 0)) rfl (.int .i64 0) rfl) ?_
        simp only [Act.put, aS, aC, aZ]
        refine wpList_nil ?_
        go_wp2_with fail
        rw [HPQ.out]
        exact bodyPost_ret (results_cell_tmp ag78 Tryd.results65 _ _ q1 78 rfl (hdCells H) (hd50 HWF.out) (Rwb.out.at 0 rfl)) rfl ⟨rfl, Rwb.out.below⟩
      | false =>
        go_upto_region 5 with fail
        refine wp_region_held (S := fun X => Row X q3 78 (hdCells H)) (by kernel_rfl) ?_
        show wpAnyH _ _ _ _ _ 16 (Array.replicate 16 false) _ _
        obtain ⟨X, hX⟩ : ∃ X : World, X = { w7 with drawn := w7.drawn + 1 } := ⟨_, rfl⟩
        rw [← hX]
        have hL : Loc w X [(q1, 78, hdCells zHd), (q2, 122, bcells s), (q3, 78, hdCells H)] := by rw [hX]; exact Rw7.out.drew
        clear Rw7
        clear hX
        refine takeH (i := 0) (some 28) rfl rfl (by kernel_rfl) (by kernel_rfl) (by kernel_rfl) (fun _ _ _ h => h) (gRun rfl (.bool true) fun _ h => run_mvZ (.tmp 11) rfl (.bool true) rfl) (hL.at 2 rfl) ?_
        simp only [Act.put, aS, aC, aZ]
        refine takeH (i := 1) (some 29) rfl rfl (by kernel_rfl) (by kernel_rfl) (by kernel_rfl) (fun _ _ _ h => h) (gRun rfl (.bool false) fun _ h => run_not (.tmp 28) 4 rfl true rfl) (hL.at 2 rfl) ?_
        simp only [Act.put, aS, aC, aZ]
        refine takeH (i := 2) (some 30) rfl rfl (by kernel_rfl) (by kernel_rfl) (by kernel_rfl) (fun _ _ _ h => h) (gRun rfl (.bool false) fun _ h => run_mvZ (.tmp 29) rfl (.bool false) rfl) (hL.at 2 rfl) ?_
        simp only [Act.put, aS, aC, aZ]
        refine takeH (i := 3) (some 31) rfl rfl (by kernel_rfl) (by kernel_rfl) (by kernel_rfl) (fun _ _ _ h => h) (gRun (by kernel_rfl) (.agg (hdCells H).toArray) fun _ h => run_loadA ag78 (.tmp 10) rfl q3 (0) rfl (hdCells H) (hd50 HWF.out) (fun j v hv => by rw [Nat.zero_add]; exact h.at j v hv)) (hL.at 2 rfl) ?_
        simp only [Act.put, aS, aC, aZ]
        refine takeH (i := 5) (some 33) rfl rfl (by kernel_rfl) (by kernel_rfl) (by kernel_rfl) (fun _ _ _ h => h) (gRun (by kernel_rfl) (.int .i64 (k : Nat)) fun _ h => run_mvZ (.tmp 2) rfl (.int .i64 (k : Nat)) rfl) (hL.at 2 rfl) ?_
        simp only [Act.put, aS, aC, aZ]
        refine oneH (i := 4) (by kernel_rfl) ?_
        refine opCallG (some 32) rfl rfl (by kernel_rfl) 67 _ (run_call eN67 [.tmp 31] _ rfl [(.agg (hdCells H).toArray)] rfl) ?_
        refine (HSL.out _).mono ?_
        rintro e w8 ⟨rfl, b_⟩
        refine ⟨_, rfl, ?_⟩
        have k_ := hL.later b_
        clear hL b_
        have hL : Loc w w8 [(q1, 78, hdCells zHd), (q2, 122, bcells s), (q3, 78, hdCells H)] := k_
        clear k_
        refine ⟨hL.at 2 rfl, ?_⟩
        simp only [Act.put, aS, aC, aZ]
        refine takeH (i := 6) (some 34) rfl rfl (by kernel_rfl) (by kernel_rfl) (by kernel_rfl) (fun _ _ _ h => h) (gRun (by kernel_rfl) (.bool false) fun _ h => run_neZ (.tmp 32) (.tmp 33) rfl (sl : Nat) (k : Nat) rfl rfl false hne) (hL.at 2 rfl) ?_
        simp only [Act.put, aS, aC, aZ]
        refine takeH (i := 7) (some 35) rfl rfl (by kernel_rfl) (by kernel_rfl) (by kernel_rfl) (fun _ _ _ h => h) (gRun rfl (.bool false) fun _ h => run_pickZ (.tmp 30) (.const (.bool true)) (.tmp 34) rfl false (.bool false) rfl rfl) (hL.at 2 rfl) ?_
        simp only [Act.put, aS, aC, aZ]
        refine takeH (i := 8) (some 36) rfl rfl (by kernel_rfl) (by kernel_rfl) (by kernel_rfl) (fun _ _ _ h => h) (gRun rfl (.bool false) fun _ h => run_mvZ (.tmp 35) rfl (.bool false) rfl) (hL.at 2 rfl) ?_
        simp only [Act.put, aS, aC, aZ]
        refine takeH (i := 9) (some 37) rfl rfl (by kernel_rfl) (by kernel_rfl) (by kernel_rfl) (fun _ _ _ h => h) (gRun (by kernel_rfl) (.agg (hdCells H).toArray) fun _ h => run_loadA ag78 (.tmp 10) rfl q3 (0) rfl (hdCells H) (hd50 HWF.out) (fun j v hv => by rw [Nat.zero_add]; exact h.at j v hv)) (hL.at 2 rfl) ?_
        simp only [Act.put, aS, aC, aZ]
        refine takeH (i := 10) (some 38) rfl rfl (by kernel_rfl) (by kernel_rfl) (by kernel_rfl) (fun _ _ _ h => h) (gRun (by kernel_rfl) (ptr g) fun _ h => run_mvZ (.tmp 0) rfl (ptr g) rfl) (hL.at 2 rfl) ?_
        simp only [Act.put, aS, aC, aZ]
        refine takeH (i := 11) (some 39) rfl rfl (by kernel_rfl) (by kernel_rfl) (by kernel_rfl) (fun _ _ _ h => h) (gRun (by kernel_rfl) (.int .i64 (i : Nat)) fun _ h => run_mvZ (.tmp 1) rfl (.int .i64 (i : Nat)) rfl) (hL.at 2 rfl) ?_
        simp only [Act.put, aS, aC, aZ]
        refine oneH (i := 12) (by kernel_rfl) ?_
        refine opCallG (some 40) rfl rfl (by kernel_rfl) 37 _ (run_call eN37 [.tmp 38, .tmp 39] _ rfl [(ptr g), (.int .i64 (i : Nat))] rfl) ?_
        refine (HPG.out _ hL.below).mono ?_
        rintro e w9 ⟨rfl, b_⟩
        refine ⟨_, rfl, ?_⟩
        have k_ := hL.later b_
        clear hL b_
        have hL : Loc w w9 [(q1, 78, hdCells zHd), (q2, 122, bcells s), (q3, 78, hdCells H)] := k_
        clear k_
        refine ⟨hL.at 2 rfl, ?_⟩
        simp only [Act.put, aS, aC, aZ]
        refine oneH (i := 13) (by kernel_rfl) ?_
        refine opCallG (some 41) rfl rfl (by kernel_rfl) 79 _ (run_call eN79 [.tmp 37, .tmp 40] _ rfl [(.agg (hdCells H).toArray), (.int .i64 (n : Nat))] rfl) ?_
        refine (HHD.out _).mono ?_
        rintro e wa ⟨rfl, b_⟩
        refine ⟨_, rfl, ?_⟩
        have k_ := hL.later b_
        clear hL b_
        have hL : Loc w wa [(q1, 78, hdCells zHd), (q2, 122, bcells s), (q3, 78, hdCells H)] := k_
        clear k_
        refine ⟨hL.at 2 rfl, ?_⟩
        simp only [Act.put, aS, aC, aZ]
        refine takeH (i := 14) (some 42) rfl rfl (by kernel_rfl) (by kernel_rfl) (by kernel_rfl) (fun _ _ _ h => h) (gRun (by kernel_rfl) (.bool true) fun _ h => run_not (.tmp 41) 4 rfl false rfl) (hL.at 2 rfl) ?_
        simp only [Act.put, aS, aC, aZ]
        refine takeH (i := 15) (some 43) rfl rfl (by kernel_rfl) (by kernel_rfl) (by kernel_rfl) (fun _ _ _ h => h) (gRun rfl (.bool true) fun _ h => run_pickZ (.tmp 36) (.const (.bool true)) (.tmp 42) rfl false (.bool true) rfl rfl) (hL.at 2 rfl) ?_
        simp only [Act.put, aS, aC, aZ]
        refine wpAnyH_done (by kernel_rfl) ?_ _
        have RX : Hid (Loc w wa [(q1, 78, hdCells zHd), (q2, 122, bcells s), (q3, 78, hdCells H)]) := hL
        clear hL
        have er : r = none := by rw [HR.out, if_neg (by rintro ⟨_, _, h1⟩; cases h1)]
        subst er
        go_upto_region 6 with fail
        refine wp_region_lit ?_
        refine wl rfl (.agg (hdCells zHd).toArray) _ (run_zHd rfl) ?_
        simp only [Act.put, aS, aC, aZ]
        refine wlS rfl rfl _ (run_storeL ag78 (.tmp 6) (.tmp 44) rfl RX.out 0 rfl (0) rfl (hdCells zHd) rfl zHd_len (by rw [zHd_len]; decide) (hdCells_one zHd)).1 ?_
        have k_ := RX.out.lay 0 rfl (0) (hdCells zHd)
        rw [splice_all _ _ rfl] at k_ ⊢
        obtain ⟨wb, hW_⟩ : ∃ W, W = wa.setRow q1 (hdCells zHd).toArray := ⟨_, rfl⟩
        rw [← hW_] at k_ ⊢
        have Rwb : Hid (Loc w wb [(q1, 78, hdCells zHd), (q2, 122, bcells s), (q3, 78, hdCells H)]) := k_
        clear k_ hW_ RX
        refine wl rfl (.int .i64 4) _ (run_asZ (.const (.int .i64 4)) rfl (.int .i64 4) rfl) ?_
        simp only [Act.put, aS, aC, aZ]
        refine wpList_nil ?_
        go_wp2_with fail
        rw [HPQ.out]
        exact bodyPost_ret (results_cell_tmp ag78 Tryd.results65 _ _ q1 78 rfl (hdCells zHd) zHd_len (Rwb.out.at 0 rfl)) rfl ⟨rfl, Rwb.out.below⟩
    · have hne : (!decide ((sl : Int) = (k : Int))) = true := by rw [decide_eq_false (by omega)]; rfl
      go_upto_region 5 with fail
      refine wp_region_held (S := fun X => Row X q3 78 (hdCells H)) (by kernel_rfl) ?_
      show wpAnyH _ _ _ _ _ 16 (Array.replicate 16 false) _ _
      obtain ⟨X, hX⟩ : ∃ X : World, X = { w7 with drawn := w7.drawn + 1 } := ⟨_, rfl⟩
      rw [← hX]
      have hL : Loc w X [(q1, 78, hdCells zHd), (q2, 122, bcells s), (q3, 78, hdCells H)] := by rw [hX]; exact Rw7.out.drew
      clear Rw7
      clear hX
      refine takeH (i := 0) (some 28) rfl rfl (by kernel_rfl) (by kernel_rfl) (by kernel_rfl) (fun _ _ _ h => h) (gRun rfl (.bool true) fun _ h => run_mvZ (.tmp 11) rfl (.bool true) rfl) (hL.at 2 rfl) ?_
      simp only [Act.put, aS, aC, aZ]
      refine takeH (i := 1) (some 29) rfl rfl (by kernel_rfl) (by kernel_rfl) (by kernel_rfl) (fun _ _ _ h => h) (gRun rfl (.bool false) fun _ h => run_not (.tmp 28) 4 rfl true rfl) (hL.at 2 rfl) ?_
      simp only [Act.put, aS, aC, aZ]
      refine takeH (i := 2) (some 30) rfl rfl (by kernel_rfl) (by kernel_rfl) (by kernel_rfl) (fun _ _ _ h => h) (gRun rfl (.bool false) fun _ h => run_mvZ (.tmp 29) rfl (.bool false) rfl) (hL.at 2 rfl) ?_
      simp only [Act.put, aS, aC, aZ]
      refine takeH (i := 3) (some 31) rfl rfl (by kernel_rfl) (by kernel_rfl) (by kernel_rfl) (fun _ _ _ h => h) (gRun (by kernel_rfl) (.agg (hdCells H).toArray) fun _ h => run_loadA ag78 (.tmp 10) rfl q3 (0) rfl (hdCells H) (hd50 HWF.out) (fun j v hv => by rw [Nat.zero_add]; exact h.at j v hv)) (hL.at 2 rfl) ?_
      simp only [Act.put, aS, aC, aZ]
      refine takeH (i := 5) (some 33) rfl rfl (by kernel_rfl) (by kernel_rfl) (by kernel_rfl) (fun _ _ _ h => h) (gRun (by kernel_rfl) (.int .i64 (k : Nat)) fun _ h => run_mvZ (.tmp 2) rfl (.int .i64 (k : Nat)) rfl) (hL.at 2 rfl) ?_
      simp only [Act.put, aS, aC, aZ]
      refine oneH (i := 4) (by kernel_rfl) ?_
      refine opCallG (some 32) rfl rfl (by kernel_rfl) 67 _ (run_call eN67 [.tmp 31] _ rfl [(.agg (hdCells H).toArray)] rfl) ?_
      refine (HSL.out _).mono ?_
      rintro e w8 ⟨rfl, b_⟩
      refine ⟨_, rfl, ?_⟩
      have k_ := hL.later b_
      clear hL b_
      have hL : Loc w w8 [(q1, 78, hdCells zHd), (q2, 122, bcells s), (q3, 78, hdCells H)] := k_
      clear k_
      refine ⟨hL.at 2 rfl, ?_⟩
      simp only [Act.put, aS, aC, aZ]
      refine takeH (i := 6) (some 34) rfl rfl (by kernel_rfl) (by kernel_rfl) (by kernel_rfl) (fun _ _ _ h => h) (gRun (by kernel_rfl) (.bool true) fun _ h => run_neZ (.tmp 32) (.tmp 33) rfl (sl : Nat) (k : Nat) rfl rfl true hne) (hL.at 2 rfl) ?_
      simp only [Act.put, aS, aC, aZ]
      refine takeH (i := 7) (some 35) rfl rfl (by kernel_rfl) (by kernel_rfl) (by kernel_rfl) (fun _ _ _ h => h) (gRun rfl (.bool true) fun _ h => run_pickZ (.tmp 30) (.const (.bool true)) (.tmp 34) rfl false (.bool true) rfl rfl) (hL.at 2 rfl) ?_
      simp only [Act.put, aS, aC, aZ]
      refine takeH (i := 8) (some 36) rfl rfl (by kernel_rfl) (by kernel_rfl) (by kernel_rfl) (fun _ _ _ h => h) (gRun rfl (.bool true) fun _ h => run_mvZ (.tmp 35) rfl (.bool true) rfl) (hL.at 2 rfl) ?_
      simp only [Act.put, aS, aC, aZ]
      refine takeH (i := 9) (some 37) rfl rfl (by kernel_rfl) (by kernel_rfl) (by kernel_rfl) (fun _ _ _ h => h) (Or.inr ⟨by kernel_rfl, rfl⟩) (hL.at 2 rfl) ?_
      simp only [Act.put, aS, aC, aZ]
      refine takeH (i := 10) (some 38) rfl rfl (by kernel_rfl) (by kernel_rfl) (by kernel_rfl) (fun _ _ _ h => h) (Or.inr ⟨by kernel_rfl, rfl⟩) (hL.at 2 rfl) ?_
      simp only [Act.put, aS, aC, aZ]
      refine takeH (i := 11) (some 39) rfl rfl (by kernel_rfl) (by kernel_rfl) (by kernel_rfl) (fun _ _ _ h => h) (Or.inr ⟨by kernel_rfl, rfl⟩) (hL.at 2 rfl) ?_
      simp only [Act.put, aS, aC, aZ]
      refine takeH (i := 12) (some 40) rfl rfl (by kernel_rfl) (by kernel_rfl) (by kernel_rfl) (fun _ _ _ h => h) (Or.inr ⟨by kernel_rfl, rfl⟩) (hL.at 2 rfl) ?_
      simp only [Act.put, aS, aC, aZ]
      refine takeH (i := 13) (some 41) rfl rfl (by kernel_rfl) (by kernel_rfl) (by kernel_rfl) (fun _ _ _ h => h) (Or.inr ⟨by kernel_rfl, rfl⟩) (hL.at 2 rfl) ?_
      simp only [Act.put, aS, aC, aZ]
      refine takeH (i := 14) (some 42) rfl rfl (by kernel_rfl) (by kernel_rfl) (by kernel_rfl) (fun _ _ _ h => h) (Or.inr ⟨by kernel_rfl, rfl⟩) (hL.at 2 rfl) ?_
      simp only [Act.put, aS, aC, aZ]
      refine takeH (i := 15) (some 43) rfl rfl (by kernel_rfl) (by kernel_rfl) (by kernel_rfl) (fun _ _ _ h => h) (gRun rfl (.bool true) fun _ h => run_pickZ (.tmp 36) (.const (.bool true)) (.tmp 42) rfl true (.bool true) rfl rfl) (hL.at 2 rfl) ?_
      simp only [Act.put, aS, aC, aZ]
      refine wpAnyH_done (by kernel_rfl) ?_ _
      have RX : Hid (Loc w w8 [(q1, 78, hdCells zHd), (q2, 122, bcells s), (q3, 78, hdCells H)]) := hL
      clear hL
      have er : r = none := by rw [HR.out, if_neg (by rintro ⟨_, h1, _⟩; omega)]
      subst er
      go_upto_region 6 with fail
      refine wp_region_lit ?_
      refine wl rfl (.agg (hdCells zHd).toArray) _ (run_zHd rfl) ?_
      simp only [Act.put, aS, aC, aZ]
      refine wlS rfl rfl _ (run_storeL ag78 (.tmp 6) (.tmp 44) rfl RX.out 0 rfl (0) rfl (hdCells zHd) rfl zHd_len (by rw [zHd_len]; decide) (hdCells_one zHd)).1 ?_
      have k_ := RX.out.lay 0 rfl (0) (hdCells zHd)
      rw [splice_all _ _ rfl] at k_ ⊢
      obtain ⟨wb, hW_⟩ : ∃ W, W = w8.setRow q1 (hdCells zHd).toArray := ⟨_, rfl⟩
      rw [← hW_] at k_ ⊢
      have Rwb : Hid (Loc w wb [(q1, 78, hdCells zHd), (q2, 122, bcells s), (q3, 78, hdCells H)]) := k_
      clear k_ hW_ RX
      refine wl rfl (.int .i64 4) _ (run_asZ (.const (.int .i64 4)) rfl (.int .i64 4) rfl) ?_
      simp only [Act.put, aS, aC, aZ]
      refine wpList_nil ?_
      go_wp2_with fail
      rw [HPQ.out]
      exact bodyPost_ret (results_cell_tmp ag78 Tryd.results65 _ _ q1 78 rfl (hdCells zHd) zHd_len (Rwb.out.at 0 rfl)) rfl ⟨rfl, Rwb.out.below⟩
end Go.Proofs.YtkpnflgnhhfjoaaDoor

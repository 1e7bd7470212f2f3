/- What is due, by definition. -/
import Derived.Test.YtobolkllplmmcaaT9
namespace Go.Proofs.Ytobolkllplmmcaa
open Go.RowKit

set_option maxHeartbeats 4000000 in
set_option maxRecDepth 100000 in
theorem rdue_any (l : List Rv) (vl : Value) (now : Int) (w : World) (hin : RsIn w vl l) (hz : (l.length + 1) * 104 ≤ 140737488355328) : Calls Try.prog 20 #[vl, .int .i64 now] w fun e w' => ∃ v' out, e = .returned v' ∧ SOwn w' w.heap.size v' out ∧ IsDue now (l.map (·.r)) out ∧ Below w.heap.size w w' := by
  obtain ⟨n, hn⟩ : ∃ n, n = l.length := ⟨_, rfl⟩
  have HF : Hid (RsIn w vl l ∧ n = l.length ∧ (n + 1) * 104 ≤ 140737488355328 ∧ n ≤ 9223372036854775807) := ⟨hin, hn, by rw [hn]; exact hz, by omega⟩
  clear hin hz hn
  obtain ⟨PQ, hPQ⟩ : ∃ PQ : Ending → World → Prop, PQ = fun (e : Ending) (w' : World) => ∃ v' out, e = .returned v' ∧ SOwn w' w.heap.size v' out ∧ IsDue now (l.map (·.r)) out ∧ Below w.heap.size w w' := ⟨_, rfl⟩
  have HPQ : Hid (PQ = fun (e : Ending) (w' : World) => ∃ v' out, e = .returned v' ∧ SOwn w' w.heap.size v' out ∧ IsDue now (l.map (·.r)) out ∧ Below w.heap.size w w') := hPQ
  rw [← hPQ]
  clear hPQ
  go_enter Try.func20, Try.ntmps20
  go_upto_region 0 with fail
  refine wp_region_lit ?_
  refine wl rfl (.slice none 0 0) _ (run_asZ (.const (.slice none 0 0)) rfl (.slice none 0 0) rfl) ?_
  simp only [Act.put, List.setIfInBounds_toArray, List.set_cons_succ, List.set_cons_zero]
  refine wpList_nil ?_
  go_upto_region 1 with fail
  refine wp_region_lit ?_
  refine wl rfl (.slice (some ⟨w.heap.size, 0, none⟩) 0 0) _ (run_lit0R rfl) ?_
  have o_ := ROwn.lit0 w w.heap.size (Nat.le_refl _)
  have b_ := below_alloc w (.cells #[] 26)
  obtain ⟨w1, hW_⟩ : ∃ U_ : World, U_ = w.alloc (.cells #[] 26) := ⟨_, rfl⟩
  obtain ⟨va, hv_⟩ : ∃ v : Value, v = .slice (some ⟨w.heap.size, 0, none⟩) 0 0 := ⟨_, rfl⟩
  rw [← hW_, ← hv_] at o_
  rw [← hW_] at b_
  rw [← hW_, ← hv_]
  have H1 : Hid (ROwn w1 w.heap.size va [] ∧ Below w.heap.size w w1) := ⟨o_, b_⟩
  clear o_ b_ hW_ hv_
  simp only [Act.put, List.setIfInBounds_toArray, List.set_cons_succ, List.set_cons_zero]
  refine wl rfl va _ (run_asZ (.tmp 12) rfl va rfl) ?_
  simp only [Act.put, List.setIfInBounds_toArray, List.set_cons_succ, List.set_cons_zero]
  refine wpList_nil ?_
  go_upto_region 2 with fail
  refine wp_region_lit ?_
  refine wl rfl (.int .i64 0) _ (run_asZ (.const (.int .i64 0)) rfl (.int .i64 0) rfl) ?_
  simp only [Act.put, List.setIfInBounds_toArray, List.set_cons_succ, List.set_cons_zero]
  refine wpList_nil ?_
  go_wp2_with fail
  go_loopw [6, 5] (fun v6 v5 W => ∃ k : Nat, v6 = .int .i64 (k : Nat) ∧ k ≤ n ∧ Hid (ROwn W w.heap.size v5 ((l.take k).filter fun x => dueB now x.r) ∧ Below w.heap.size w W)) (fun v6 _ _ => n - (intOf v6).toNat)
  case atStart => exact ⟨0, rfl, Nat.zero_le _, H1.out⟩
  case round =>
    clear H1
    obtain ⟨k, rfl, hk, HS⟩ := hrel
    have HI : Hid (RsIn wr vl l) := HF.out.1.later HS.out.2
    by_cases hlt : k < n
    · have HD : Hid (decide (k < n) = true) := decide_eq_true hlt
      go_upto_region 3 with fail
      refine wp_region_lit ?_
      refine wl rfl (.int .i64 (k : Nat)) _ (run_mvZ (.tmp 6) rfl (.int .i64 (k : Nat)) rfl) ?_
      simp only [Act.put, List.setIfInBounds_toArray, List.set_cons_succ, List.set_cons_zero]
      refine wl rfl vl _ (run_mvZ (.tmp 0) rfl vl rfl) ?_
      simp only [Act.put, List.setIfInBounds_toArray, List.set_cons_succ, List.set_cons_zero]
      refine wl rfl (.int .i64 (n : Nat)) _ ((by rw [HF.out.2.1]; exact run_lenR HI.out (.tmp 14) rfl rfl)) ?_
      simp only [Act.put, List.setIfInBounds_toArray, List.set_cons_succ, List.set_cons_zero]
      refine wl rfl (.bool true) _ (run_lssN (.tmp 13) (.tmp 15) rfl k n rfl rfl true HD.out) ?_
      simp only [Act.put, List.setIfInBounds_toArray, List.set_cons_succ, List.set_cons_zero]
      refine wpList_nil ?_
      obtain ⟨x, hx⟩ : ∃ x, l[k]? = some x := ⟨_, List.getElem?_eq_getElem (by rw [← HF.out.2.1]; exact hlt)⟩
      have HR : Hid (Rok x.r x.v) := HI.out.ok x (List.mem_of_getElem? hx)
      obtain ⟨b, o, hx1, hx2, _⟩ := ix_rec HI.out k x hx
      obtain ⟨gn, hgn⟩ : ∃ z, z = x.r.gone := ⟨_, rfl⟩
      obtain ⟨hl, hhl⟩ : ∃ z, z = x.r.hold := ⟨_, rfl⟩
      obtain ⟨ex, hex⟩ : ∃ z, z = x.r.expiry := ⟨_, rfl⟩
      obtain ⟨p1, hp1⟩ : ∃ z, decide (0 < ex) = z := ⟨_, rfl⟩
      obtain ⟨p2, hp2⟩ : ∃ z, decide (ex ≤ now) = z := ⟨_, rfl⟩
      have hdue : dueB now x.r = (!gn && (!hl && (p1 && p2))) := by rw [dueB_eq, ← hgn, ← hhl, ← hex, hp1, hp2]
      have HX : Hid ((∀ w', (Instr.indexAt 37 vl (.int .i64 (k : Nat))).run Try.prog w' = .ok (.pointer (some ⟨b, o, none⟩)) w') ∧ wr.cell? ⟨b, o + 37, none⟩ = some (.bool gn) ∧ wr.cell? ⟨b, o + 36, none⟩ = some (.bool hl) ∧ wr.cell? ⟨b, o + 35, none⟩ = some (.int .i64 ex) ∧ decide (0 < ex) = p1 ∧ decide (ex ≤ now) = p2) := ⟨hx1, by rw [hgn]; exact hx2 37 _ (rcB _ HR.out.root 3), by rw [hhl]; exact hx2 36 _ (rcB _ HR.out.root 2), by rw [hex]; exact hx2 35 _ (rcB _ HR.out.root 1), hp1, hp2⟩
      have HY : Hid (∀ j u, (rcells x.r x.v)[j]? = some u → wr.cell? ⟨b, o + j, none⟩ = some u) := hx2
      have HN := dueL_succ now l k x hx
      rw [hdue] at HN
      have HE : Hid ((l.take (k + 1)).filter (fun x => dueB now x.r) = (l.take k).filter (fun x => dueB now x.r) ++ if (!gn && (!hl && (p1 && p2))) = true then [x] else []) := HN
      clear HN hdue hgn hhl hex hp1 hp2 hx1 hx2 hx
      by_cases h_ : gn = true
      · subst h_
        go_upto_region 5 with fail
        refine wp_region_lit ?_
        refine wl rfl vl _ (run_mvZ (.tmp 0) rfl vl rfl) ?_
        simp only [Act.put, List.setIfInBounds_toArray, List.set_cons_succ, List.set_cons_zero]
        refine wl rfl (.int .i64 (k : Nat)) _ (run_mvZ (.tmp 6) rfl (.int .i64 (k : Nat)) rfl) ?_
        simp only [Act.put, List.setIfInBounds_toArray, List.set_cons_succ, List.set_cons_zero]
        refine wl rfl (.pointer (some ⟨b, o, none⟩)) _ (run_idx (.tmp 19) (.tmp 20) rfl vl _ _ rfl rfl HX.out.1) ?_
        simp only [Act.put, List.setIfInBounds_toArray, List.set_cons_succ, List.set_cons_zero]
        refine wl rfl (.pointer (some ⟨b, o + 37, none⟩)) _ (run_fieldOp' f26_6 (.tmp 21) rfl b (o) rfl) ?_
        simp only [Act.put, List.setIfInBounds_toArray, List.set_cons_succ, List.set_cons_zero]
        refine wl rfl (.bool true) _ (run_load1 o4 (.tmp 22) rfl b (o + 37) rfl (.bool true) HX.out.2.1) ?_
        simp only [Act.put, List.setIfInBounds_toArray, List.set_cons_succ, List.set_cons_zero]
        refine wl rfl (.bool false) _ (run_not (.tmp 23) 4 rfl true rfl) ?_
        simp only [Act.put, List.setIfInBounds_toArray, List.set_cons_succ, List.set_cons_zero]
        refine wl rfl (.bool false) _ (run_mvZ (.tmp 24) rfl (.bool false) rfl) ?_
        simp only [Act.put, List.setIfInBounds_toArray, List.set_cons_succ, List.set_cons_zero]
        with_reducible refine wpList_skip (by kernel_rfl) ?_
        simp only [Act.put, List.setIfInBounds_toArray, List.set_cons_succ, List.set_cons_zero]
        with_reducible refine wpList_skip (by kernel_rfl) ?_
        simp only [Act.put, List.setIfInBounds_toArray, List.set_cons_succ, List.set_cons_zero]
        with_reducible refine wpList_skip (by kernel_rfl) ?_
        simp only [Act.put, List.setIfInBounds_toArray, List.set_cons_succ, List.set_cons_zero]
        with_reducible refine wpList_skip (by kernel_rfl) ?_
        simp only [Act.put, List.setIfInBounds_toArray, List.set_cons_succ, List.set_cons_zero]
        with_reducible refine wpList_skip (by kernel_rfl) ?_
        simp only [Act.put, List.setIfInBounds_toArray, List.set_cons_succ, List.set_cons_zero]
        with_reducible refine wpList_skip (by kernel_rfl) ?_
        simp only [Act.put, List.setIfInBounds_toArray, List.set_cons_succ, List.set_cons_zero]
        refine wl rfl (.bool false) _ (run_pickZ (.tmp 25) (.tmp 31) (.const (.bool false)) rfl false (.bool false) rfl rfl) ?_
        simp only [Act.put, List.setIfInBounds_toArray, List.set_cons_succ, List.set_cons_zero]
        refine wl rfl (.bool false) _ (run_mvZ (.tmp 32) rfl (.bool false) rfl) ?_
        simp only [Act.put, List.setIfInBounds_toArray, List.set_cons_succ, List.set_cons_zero]
        with_reducible refine wpList_skip (by kernel_rfl) ?_
        simp only [Act.put, List.setIfInBounds_toArray, List.set_cons_succ, List.set_cons_zero]
        with_reducible refine wpList_skip (by kernel_rfl) ?_
        simp only [Act.put, List.setIfInBounds_toArray, List.set_cons_succ, List.set_cons_zero]
        with_reducible refine wpList_skip (by kernel_rfl) ?_
        simp only [Act.put, List.setIfInBounds_toArray, List.set_cons_succ, List.set_cons_zero]
        with_reducible refine wpList_skip (by kernel_rfl) ?_
        simp only [Act.put, List.setIfInBounds_toArray, List.set_cons_succ, List.set_cons_zero]
        with_reducible refine wpList_skip (by kernel_rfl) ?_
        simp only [Act.put, List.setIfInBounds_toArray, List.set_cons_succ, List.set_cons_zero]
        with_reducible refine wpList_skip (by kernel_rfl) ?_
        simp only [Act.put, List.setIfInBounds_toArray, List.set_cons_succ, List.set_cons_zero]
        refine wl rfl (.bool false) _ (run_pickZ (.tmp 33) (.tmp 39) (.const (.bool false)) rfl false (.bool false) rfl rfl) ?_
        simp only [Act.put, List.setIfInBounds_toArray, List.set_cons_succ, List.set_cons_zero]
        refine wl rfl (.bool false) _ (run_mvZ (.tmp 40) rfl (.bool false) rfl) ?_
        simp only [Act.put, List.setIfInBounds_toArray, List.set_cons_succ, List.set_cons_zero]
        with_reducible refine wpList_skip (by kernel_rfl) ?_
        simp only [Act.put, List.setIfInBounds_toArray, List.set_cons_succ, List.set_cons_zero]
        with_reducible refine wpList_skip (by kernel_rfl) ?_
        simp only [Act.put, List.setIfInBounds_toArray, List.set_cons_succ, List.set_cons_zero]
        with_reducible refine wpList_skip (by kernel_rfl) ?_
        simp only [Act.put, List.setIfInBounds_toArray, List.set_cons_succ, List.set_cons_zero]
        with_reducible refine wpList_skip (by kernel_rfl) ?_
        simp only [Act.put, List.setIfInBounds_toArray, List.set_cons_succ, List.set_cons_zero]
        with_reducible refine wpList_skip (by kernel_rfl) ?_
        simp only [Act.put, List.setIfInBounds_toArray, List.set_cons_succ, List.set_cons_zero]
        with_reducible refine wpList_skip (by kernel_rfl) ?_
        simp only [Act.put, List.setIfInBounds_toArray, List.set_cons_succ, List.set_cons_zero]
        with_reducible refine wpList_skip (by kernel_rfl) ?_
        simp only [Act.put, List.setIfInBounds_toArray, List.set_cons_succ, List.set_cons_zero]
        refine wl rfl (.bool false) _ (run_pickZ (.tmp 41) (.tmp 48) (.const (.bool false)) rfl false (.bool false) rfl rfl) ?_
        simp only [Act.put, List.setIfInBounds_toArray, List.set_cons_succ, List.set_cons_zero]
        refine wpList_nil ?_
        have HT : Hid (ROwn wr w.heap.size u5 ((l.take (k + 1)).filter fun x => dueB now x.r) ∧ Below w.heap.size w wr) := ⟨by rw [HE.out]; simpa using HS.out.1, HS.out.2⟩
        go_upto_region 4 with fail
        refine wp_region_lit ?_
        refine wl rfl (.int .i64 (k : Nat)) _ (run_mvZ (.tmp 6) rfl (.int .i64 (k : Nat)) rfl) ?_
        simp only [Act.put, List.setIfInBounds_toArray, List.set_cons_succ, List.set_cons_zero]
        refine wl rfl (.int .i64 ((k + 1 : Nat))) _ (run_addI (.tmp 17) rfl k n hlt HF.out.2.2.2 rfl) ?_
        simp only [Act.put, List.setIfInBounds_toArray, List.set_cons_succ, List.set_cons_zero]
        refine wl rfl (.int .i64 ((k + 1 : Nat))) _ (run_asZ (.tmp 18) rfl (.int .i64 ((k + 1 : Nat))) rfl) ?_
        simp only [Act.put, List.setIfInBounds_toArray, List.set_cons_succ, List.set_cons_zero]
        refine wpList_nil ?_
        go_wp2_with fail
        exact ⟨⟨k + 1, rfl, by omega, HT⟩, by simp [intOf]; omega⟩
      have e_ : gn = false := by cases gn <;> first | rfl | exact absurd rfl h_
      subst e_
      clear h_
      by_cases h_ : hl = true
      · subst h_
        go_upto_region 5 with fail
        refine wp_region_lit ?_
        refine wl rfl vl _ (run_mvZ (.tmp 0) rfl vl rfl) ?_
        simp only [Act.put, List.setIfInBounds_toArray, List.set_cons_succ, List.set_cons_zero]
        refine wl rfl (.int .i64 (k : Nat)) _ (run_mvZ (.tmp 6) rfl (.int .i64 (k : Nat)) rfl) ?_
        simp only [Act.put, List.setIfInBounds_toArray, List.set_cons_succ, List.set_cons_zero]
        refine wl rfl (.pointer (some ⟨b, o, none⟩)) _ (run_idx (.tmp 19) (.tmp 20) rfl vl _ _ rfl rfl HX.out.1) ?_
        simp only [Act.put, List.setIfInBounds_toArray, List.set_cons_succ, List.set_cons_zero]
        refine wl rfl (.pointer (some ⟨b, o + 37, none⟩)) _ (run_fieldOp' f26_6 (.tmp 21) rfl b (o) rfl) ?_
        simp only [Act.put, List.setIfInBounds_toArray, List.set_cons_succ, List.set_cons_zero]
        refine wl rfl (.bool false) _ (run_load1 o4 (.tmp 22) rfl b (o + 37) rfl (.bool false) HX.out.2.1) ?_
        simp only [Act.put, List.setIfInBounds_toArray, List.set_cons_succ, List.set_cons_zero]
        refine wl rfl (.bool true) _ (run_not (.tmp 23) 4 rfl false rfl) ?_
        simp only [Act.put, List.setIfInBounds_toArray, List.set_cons_succ, List.set_cons_zero]
        refine wl rfl (.bool true) _ (run_mvZ (.tmp 24) rfl (.bool true) rfl) ?_
        simp only [Act.put, List.setIfInBounds_toArray, List.set_cons_succ, List.set_cons_zero]
        refine wl (by kernel_rfl) vl _ (run_mvZ (.tmp 0) rfl vl rfl) ?_
        simp only [Act.put, List.setIfInBounds_toArray, List.set_cons_succ, List.set_cons_zero]
        refine wl (by kernel_rfl) (.int .i64 (k : Nat)) _ (run_mvZ (.tmp 6) rfl (.int .i64 (k : Nat)) rfl) ?_
        simp only [Act.put, List.setIfInBounds_toArray, List.set_cons_succ, List.set_cons_zero]
        refine wl (by kernel_rfl) (.pointer (some ⟨b, o, none⟩)) _ (run_idx (.tmp 26) (.tmp 27) rfl vl _ _ rfl rfl HX.out.1) ?_
        simp only [Act.put, List.setIfInBounds_toArray, List.set_cons_succ, List.set_cons_zero]
        refine wl (by kernel_rfl) (.pointer (some ⟨b, o + 36, none⟩)) _ (run_fieldOp' f26_5 (.tmp 28) rfl b (o) rfl) ?_
        simp only [Act.put, List.setIfInBounds_toArray, List.set_cons_succ, List.set_cons_zero]
        refine wl (by kernel_rfl) (.bool true) _ (run_load1 o4 (.tmp 29) rfl b (o + 36) rfl (.bool true) HX.out.2.2.1) ?_
        simp only [Act.put, List.setIfInBounds_toArray, List.set_cons_succ, List.set_cons_zero]
        refine wl (by kernel_rfl) (.bool false) _ (run_not (.tmp 30) 4 rfl true rfl) ?_
        simp only [Act.put, List.setIfInBounds_toArray, List.set_cons_succ, List.set_cons_zero]
        refine wl rfl (.bool false) _ (run_pickZ (.tmp 25) (.tmp 31) (.const (.bool false)) rfl true (.bool false) rfl rfl) ?_
        simp only [Act.put, List.setIfInBounds_toArray, List.set_cons_succ, List.set_cons_zero]
        refine wl rfl (.bool false) _ (run_mvZ (.tmp 32) rfl (.bool false) rfl) ?_
        simp only [Act.put, List.setIfInBounds_toArray, List.set_cons_succ, List.set_cons_zero]
        with_reducible refine wpList_skip (by kernel_rfl) ?_
        simp only [Act.put, List.setIfInBounds_toArray, List.set_cons_succ, List.set_cons_zero]
        with_reducible refine wpList_skip (by kernel_rfl) ?_
        simp only [Act.put, List.setIfInBounds_toArray, List.set_cons_succ, List.set_cons_zero]
        with_reducible refine wpList_skip (by kernel_rfl) ?_
        simp only [Act.put, List.setIfInBounds_toArray, List.set_cons_succ, List.set_cons_zero]
        with_reducible refine wpList_skip (by kernel_rfl) ?_
        simp only [Act.put, List.setIfInBounds_toArray, List.set_cons_succ, List.set_cons_zero]
        with_reducible refine wpList_skip (by kernel_rfl) ?_
        simp only [Act.put, List.setIfInBounds_toArray, List.set_cons_succ, List.set_cons_zero]
        with_reducible refine wpList_skip (by kernel_rfl) ?_
        simp only [Act.put, List.setIfInBounds_toArray, List.set_cons_succ, List.set_cons_zero]
        refine wl rfl (.bool false) _ (run_pickZ (.tmp 33) (.tmp 39) (.const (.bool false)) rfl false (.bool false) rfl rfl) ?_
        simp only [Act.put, List.setIfInBounds_toArray, List.set_cons_succ, List.set_cons_zero]
        refine wl rfl (.bool false) _ (run_mvZ (.tmp 40) rfl (.bool false) rfl) ?_
        simp only [Act.put, List.setIfInBounds_toArray, List.set_cons_succ, List.set_cons_zero]
        with_reducible refine wpList_skip (by kernel_rfl) ?_
        simp only [Act.put, List.setIfInBounds_toArray, List.set_cons_succ, List.set_cons_zero]
        with_reducible refine wpList_skip (by kernel_rfl) ?_
        simp only [Act.put, List.setIfInBounds_toArray, List.set_cons_succ, List.set_cons_zero]
        with_reducible refine wpList_skip (by kernel_rfl) ?_
        simp only [Act.put, List.setIfInBounds_toArray, List.set_cons_succ, List.set_cons_zero]
        with_reducible refine wpList_skip (by kernel_rfl) ?_
        simp only [Act.put, List.setIfInBounds_toArray, List.set_cons_succ, List.set_cons_zero]
        with_reducible refine wpList_skip (by kernel_rfl) ?_
        simp only [Act.put, List.setIfInBounds_toArray, List.set_cons_succ, List.set_cons_zero]
        with_reducible refine wpList_skip (by kernel_rfl) ?_
        simp only [Act.put, List.setIfInBounds_toArray, List.set_cons_succ, List.set_cons_zero]
        with_reducible refine wpList_skip (by kernel_rfl) ?_
        simp only [Act.put, List.setIfInBounds_toArray, List.set_cons_succ, List.set_cons_zero]
        refine wl rfl (.bool false) _ (run_pickZ (.tmp 41) (.tmp 48) (.const (.bool false)) rfl false (.bool false) rfl rfl) ?_
        simp only [Act.put, List.setIfInBounds_toArray, List.set_cons_succ, List.set_cons_zero]
        refine wpList_nil ?_
        have HT : Hid (ROwn wr w.heap.size u5 ((l.take (k + 1)).filter fun x => dueB now x.r) ∧ Below w.heap.size w wr) := ⟨by rw [HE.out]; simpa using HS.out.1, HS.out.2⟩
        go_upto_region 4 with fail
        refine wp_region_lit ?_
        refine wl rfl (.int .i64 (k : Nat)) _ (run_mvZ (.tmp 6) rfl (.int .i64 (k : Nat)) rfl) ?_
        simp only [Act.put, List.setIfInBounds_toArray, List.set_cons_succ, List.set_cons_zero]
        refine wl rfl (.int .i64 ((k + 1 : Nat))) _ (run_addI (.tmp 17) rfl k n hlt HF.out.2.2.2 rfl) ?_
        simp only [Act.put, List.setIfInBounds_toArray, List.set_cons_succ, List.set_cons_zero]
        refine wl rfl (.int .i64 ((k + 1 : Nat))) _ (run_asZ (.tmp 18) rfl (.int .i64 ((k + 1 : Nat))) rfl) ?_
        simp only [Act.put, List.setIfInBounds_toArray, List.set_cons_succ, List.set_cons_zero]
        refine wpList_nil ?_
        go_wp2_with fail
        exact ⟨⟨k + 1, rfl, by omega, HT⟩, by simp [intOf]; omega⟩
      have e_ : hl = false := by cases hl <;> first | rfl | exact absurd rfl h_
      subst e_
      clear h_
      by_cases h_ : p1 = false
      · subst h_
        go_upto_region 5 with fail
        refine wp_region_lit ?_
        refine wl rfl vl _ (run_mvZ (.tmp 0) rfl vl rfl) ?_
        simp only [Act.put, List.setIfInBounds_toArray, List.set_cons_succ, List.set_cons_zero]
        refine wl rfl (.int .i64 (k : Nat)) _ (run_mvZ (.tmp 6) rfl (.int .i64 (k : Nat)) rfl) ?_
        simp only [Act.put, List.setIfInBounds_toArray, List.set_cons_succ, List.set_cons_zero]
        refine wl rfl (.pointer (some ⟨b, o, none⟩)) _ (run_idx (.tmp 19) (.tmp 20) rfl vl _ _ rfl rfl HX.out.1) ?_
        simp only [Act.put, List.setIfInBounds_toArray, List.set_cons_succ, List.set_cons_zero]
        refine wl rfl (.pointer (some ⟨b, o + 37, none⟩)) _ (run_fieldOp' f26_6 (.tmp 21) rfl b (o) rfl) ?_
        simp only [Act.put, List.setIfInBounds_toArray, List.set_cons_succ, List.set_cons_zero]
        refine wl rfl (.bool false) _ (run_load1 o4 (.tmp 22) rfl b (o + 37) rfl (.bool false) HX.out.2.1) ?_
        simp only [Act.put, List.setIfInBounds_toArray, List.set_cons_succ, List.set_cons_zero]
        refine wl rfl (.bool true) _ (run_not (.tmp 23) 4 rfl false rfl) ?_
        simp only [Act.put, List.setIfInBounds_toArray, List.set_cons_succ, List.set_cons_zero]
        refine wl rfl (.bool true) _ (run_mvZ (.tmp 24) rfl (.bool true) rfl) ?_
        simp only [Act.put, List.setIfInBounds_toArray, List.set_cons_succ, List.set_cons_zero]
        refine wl (by kernel_rfl) vl _ (run_mvZ (.tmp 0) rfl vl rfl) ?_
        simp only [Act.put, List.setIfInBounds_toArray, List.set_cons_succ, List.set_cons_zero]
        refine wl (by kernel_rfl) (.int .i64 (k : Nat)) _ (run_mvZ (.tmp 6) rfl (.int .i64 (k : Nat)) rfl) ?_
        simp only [Act.put, List.setIfInBounds_toArray, List.set_cons_succ, List.set_cons_zero]
        refine wl (by kernel_rfl) (.pointer (some ⟨b, o, none⟩)) _ (run_idx (.tmp 26) (.tmp 27) rfl vl _ _ rfl rfl HX.out.1) ?_
        simp only [Act.put, List.setIfInBounds_toArray, List.set_cons_succ, List.set_cons_zero]
        refine wl (by kernel_rfl) (.pointer (some ⟨b, o + 36, none⟩)) _ (run_fieldOp' f26_5 (.tmp 28) rfl b (o) rfl) ?_
        simp only [Act.put, List.setIfInBounds_toArray, List.set_cons_succ, List.set_cons_zero]
        refine wl (by kernel_rfl) (.bool false) _ (run_load1 o4 (.tmp 29) rfl b (o + 36) rfl (.bool false) HX.out.2.2.1) ?_
        simp only [Act.put, List.setIfInBounds_toArray, List.set_cons_succ, List.set_cons_zero]
        refine wl (by kernel_rfl) (.bool true) _ (run_not (.tmp 30) 4 rfl false rfl) ?_
        simp only [Act.put, List.setIfInBounds_toArray, List.set_cons_succ, List.set_cons_zero]
        refine wl rfl (.bool true) _ (run_pickZ (.tmp 25) (.tmp 31) (.const (.bool false)) rfl true (.bool true) rfl rfl) ?_
        simp only [Act.put, List.setIfInBounds_toArray, List.set_cons_succ, List.set_cons_zero]
        refine wl rfl (.bool true) _ (run_mvZ (.tmp 32) rfl (.bool true) rfl) ?_
        simp only [Act.put, List.setIfInBounds_toArray, List.set_cons_succ, List.set_cons_zero]
        refine wl (by kernel_rfl) vl _ (run_mvZ (.tmp 0) rfl vl rfl) ?_
        simp only [Act.put, List.setIfInBounds_toArray, List.set_cons_succ, List.set_cons_zero]
        refine wl (by kernel_rfl) (.int .i64 (k : Nat)) _ (run_mvZ (.tmp 6) rfl (.int .i64 (k : Nat)) rfl) ?_
        simp only [Act.put, List.setIfInBounds_toArray, List.set_cons_succ, List.set_cons_zero]
        refine wl (by kernel_rfl) (.pointer (some ⟨b, o, none⟩)) _ (run_idx (.tmp 34) (.tmp 35) rfl vl _ _ rfl rfl HX.out.1) ?_
        simp only [Act.put, List.setIfInBounds_toArray, List.set_cons_succ, List.set_cons_zero]
        refine wl (by kernel_rfl) (.pointer (some ⟨b, o + 35, none⟩)) _ (run_fieldOp' f26_4 (.tmp 36) rfl b (o) rfl) ?_
        simp only [Act.put, List.setIfInBounds_toArray, List.set_cons_succ, List.set_cons_zero]
        refine wl (by kernel_rfl) (.int .i64 ex) _ (run_load1 o3 (.tmp 37) rfl b (o + 35) rfl (.int .i64 ex) HX.out.2.2.2.1) ?_
        simp only [Act.put, List.setIfInBounds_toArray, List.set_cons_succ, List.set_cons_zero]
        refine wl (by kernel_rfl) (.bool false) _ (run_gtrZ (.tmp 38) (.const (.int .i64 0)) rfl ex 0 rfl rfl false HX.out.2.2.2.2.1) ?_
        simp only [Act.put, List.setIfInBounds_toArray, List.set_cons_succ, List.set_cons_zero]
        refine wl rfl (.bool false) _ (run_pickZ (.tmp 33) (.tmp 39) (.const (.bool false)) rfl true (.bool false) rfl rfl) ?_
        simp only [Act.put, List.setIfInBounds_toArray, List.set_cons_succ, List.set_cons_zero]
        refine wl rfl (.bool false) _ (run_mvZ (.tmp 40) rfl (.bool false) rfl) ?_
        simp only [Act.put, List.setIfInBounds_toArray, List.set_cons_succ, List.set_cons_zero]
        with_reducible refine wpList_skip (by kernel_rfl) ?_
        simp only [Act.put, List.setIfInBounds_toArray, List.set_cons_succ, List.set_cons_zero]
        with_reducible refine wpList_skip (by kernel_rfl) ?_
        simp only [Act.put, List.setIfInBounds_toArray, List.set_cons_succ, List.set_cons_zero]
        with_reducible refine wpList_skip (by kernel_rfl) ?_
        simp only [Act.put, List.setIfInBounds_toArray, List.set_cons_succ, List.set_cons_zero]
        with_reducible refine wpList_skip (by kernel_rfl) ?_
        simp only [Act.put, List.setIfInBounds_toArray, List.set_cons_succ, List.set_cons_zero]
        with_reducible refine wpList_skip (by kernel_rfl) ?_
        simp only [Act.put, List.setIfInBounds_toArray, List.set_cons_succ, List.set_cons_zero]
        with_reducible refine wpList_skip (by kernel_rfl) ?_
        simp only [Act.put, List.setIfInBounds_toArray, List.set_cons_succ, List.set_cons_zero]
        with_reducible refine wpList_skip (by kernel_rfl) ?_
        simp only [Act.put, List.setIfInBounds_toArray, List.set_cons_succ, List.set_cons_zero]
        refine wl rfl (.bool false) _ (run_pickZ (.tmp 41) (.tmp 48) (.const (.bool false)) rfl false (.bool false) rfl rfl) ?_
        simp only [Act.put, List.setIfInBounds_toArray, List.set_cons_succ, List.set_cons_zero]
        refine wpList_nil ?_
        have HT : Hid (ROwn wr w.heap.size u5 ((l.take (k + 1)).filter fun x => dueB now x.r) ∧ Below w.heap.size w wr) := ⟨by rw [HE.out]; simpa using HS.out.1, HS.out.2⟩
        go_upto_region 4 with fail
        refine wp_region_lit ?_
        refine wl rfl (.int .i64 (k : Nat)) _ (run_mvZ (.tmp 6) rfl (.int .i64 (k : Nat)) rfl) ?_
        simp only [Act.put, List.setIfInBounds_toArray, List.set_cons_succ, List.set_cons_zero]
        refine wl rfl (.int .i64 ((k + 1 : Nat))) _ (run_addI (.tmp 17) rfl k n hlt HF.out.2.2.2 rfl) ?_
        simp only [Act.put, List.setIfInBounds_toArray, List.set_cons_succ, List.set_cons_zero]
        refine wl rfl (.int .i64 ((k + 1 : Nat))) _ (run_asZ (.tmp 18) rfl (.int .i64 ((k + 1 : Nat))) rfl) ?_
        simp only [Act.put, List.setIfInBounds_toArray, List.set_cons_succ, List.set_cons_zero]
        refine wpList_nil ?_
        go_wp2_with fail
        exact ⟨⟨k + 1, rfl, by omega, HT⟩, by simp [intOf]; omega⟩
      have e_ : p1 = true := by cases p1 <;> first | rfl | exact absurd rfl h_
      subst e_
      clear h_
      by_cases h_ : p2 = false
      · subst h_
        go_upto_region 5 with fail
        refine wp_region_lit ?_
        refine wl rfl vl _ (run_mvZ (.tmp 0) rfl vl rfl) ?_
        simp only [Act.put, List.setIfInBounds_toArray, List.set_cons_succ, List.set_cons_zero]
        refine wl rfl (.int .i64 (k : Nat)) _ (run_mvZ (.tmp 6) rfl (.int .i64 (k : Nat)) rfl) ?_
        simp only [Act.put, List.setIfInBounds_toArray, List.set_cons_succ, List.set_cons_zero]
        refine wl rfl (.pointer (some ⟨b, o, none⟩)) _ (run_idx (.tmp 19) (.tmp 20) rfl vl _ _ rfl rfl HX.out.1) ?_
        simp only [Act.put, List.setIfInBounds_toArray, List.set_cons_succ, List.set_cons_zero]
        refine wl rfl (.pointer (some ⟨b, o + 37, none⟩)) _ (run_fieldOp' f26_6 (.tmp 21) rfl b (o) rfl) ?_
        simp only [Act.put, List.setIfInBounds_toArray, List.set_cons_succ, List.set_cons_zero]
        refine wl rfl (.bool false) _ (run_load1 o4 (.tmp 22) rfl b (o + 37) rfl (.bool false) HX.out.2.1) ?_
        simp only [Act.put, List.setIfInBounds_toArray, List.set_cons_succ, List.set_cons_zero]
        refine wl rfl (.bool true) _ (run_not (.tmp 23) 4 rfl false rfl) ?_
        simp only [Act.put, List.setIfInBounds_toArray, List.set_cons_succ, List.set_cons_zero]
        refine wl rfl (.bool true) _ (run_mvZ (.tmp 24) rfl (.bool true) rfl) ?_
        simp only [Act.put, List.setIfInBounds_toArray, List.set_cons_succ, List.set_cons_zero]
        refine wl (by kernel_rfl) vl _ (run_mvZ (.tmp 0) rfl vl rfl) ?_
        simp only [Act.put, List.setIfInBounds_toArray, List.set_cons_succ, List.set_cons_zero]
        refine wl (by kernel_rfl) (.int .i64 (k : Nat)) _ (run_mvZ (.tmp 6) rfl (.int .i64 (k : Nat)) rfl) ?_
        simp only [Act.put, List.setIfInBounds_toArray, List.set_cons_succ, List.set_cons_zero]
        refine wl (by kernel_rfl) (.pointer (some ⟨b, o, none⟩)) _ (run_idx (.tmp 26) (.tmp 27) rfl vl _ _ rfl rfl HX.out.1) ?_
        simp only [Act.put, List.setIfInBounds_toArray, List.set_cons_succ, List.set_cons_zero]
        refine wl (by kernel_rfl) (.pointer (some ⟨b, o + 36, none⟩)) _ (run_fieldOp' f26_5 (.tmp 28) rfl b (o) rfl) ?_
        simp only [Act.put, List.setIfInBounds_toArray, List.set_cons_succ, List.set_cons_zero]
        refine wl (by kernel_rfl) (.bool false) _ (run_load1 o4 (.tmp 29) rfl b (o + 36) rfl (.bool false) HX.out.2.2.1) ?_
        simp only [Act.put, List.setIfInBounds_toArray, List.set_cons_succ, List.set_cons_zero]
        refine wl (by kernel_rfl) (.bool true) _ (run_not (.tmp 30) 4 rfl false rfl) ?_
        simp only [Act.put, List.setIfInBounds_toArray, List.set_cons_succ, List.set_cons_zero]
        refine wl rfl (.bool true) _ (run_pickZ (.tmp 25) (.tmp 31) (.const (.bool false)) rfl true (.bool true) rfl rfl) ?_
        simp only [Act.put, List.setIfInBounds_toArray, List.set_cons_succ, List.set_cons_zero]
        refine wl rfl (.bool true) _ (run_mvZ (.tmp 32) rfl (.bool true) rfl) ?_
        simp only [Act.put, List.setIfInBounds_toArray, List.set_cons_succ, List.set_cons_zero]
        refine wl (by kernel_rfl) vl _ (run_mvZ (.tmp 0) rfl vl rfl) ?_
        simp only [Act.put, List.setIfInBounds_toArray, List.set_cons_succ, List.set_cons_zero]
        refine wl (by kernel_rfl) (.int .i64 (k : Nat)) _ (run_mvZ (.tmp 6) rfl (.int .i64 (k : Nat)) rfl) ?_
        simp only [Act.put, List.setIfInBounds_toArray, List.set_cons_succ, List.set_cons_zero]
        refine wl (by kernel_rfl) (.pointer (some ⟨b, o, none⟩)) _ (run_idx (.tmp 34) (.tmp 35) rfl vl _ _ rfl rfl HX.out.1) ?_
        simp only [Act.put, List.setIfInBounds_toArray, List.set_cons_succ, List.set_cons_zero]
        refine wl (by kernel_rfl) (.pointer (some ⟨b, o + 35, none⟩)) _ (run_fieldOp' f26_4 (.tmp 36) rfl b (o) rfl) ?_
        simp only [Act.put, List.setIfInBounds_toArray, List.set_cons_succ, List.set_cons_zero]
        refine wl (by kernel_rfl) (.int .i64 ex) _ (run_load1 o3 (.tmp 37) rfl b (o + 35) rfl (.int .i64 ex) HX.out.2.2.2.1) ?_
        simp only [Act.put, List.setIfInBounds_toArray, List.set_cons_succ, List.set_cons_zero]
        refine wl (by kernel_rfl) (.bool true) _ (run_gtrZ (.tmp 38) (.const (.int .i64 0)) rfl ex 0 rfl rfl true HX.out.2.2.2.2.1) ?_
        simp only [Act.put, List.setIfInBounds_toArray, List.set_cons_succ, List.set_cons_zero]
        refine wl rfl (.bool true) _ (run_pickZ (.tmp 33) (.tmp 39) (.const (.bool false)) rfl true (.bool true) rfl rfl) ?_
        simp only [Act.put, List.setIfInBounds_toArray, List.set_cons_succ, List.set_cons_zero]
        refine wl rfl (.bool true) _ (run_mvZ (.tmp 40) rfl (.bool true) rfl) ?_
        simp only [Act.put, List.setIfInBounds_toArray, List.set_cons_succ, List.set_cons_zero]
        refine wl (by kernel_rfl) vl _ (run_mvZ (.tmp 0) rfl vl rfl) ?_
        simp only [Act.put, List.setIfInBounds_toArray, List.set_cons_succ, List.set_cons_zero]
        refine wl (by kernel_rfl) (.int .i64 (k : Nat)) _ (run_mvZ (.tmp 6) rfl (.int .i64 (k : Nat)) rfl) ?_
        simp only [Act.put, List.setIfInBounds_toArray, List.set_cons_succ, List.set_cons_zero]
        refine wl (by kernel_rfl) (.pointer (some ⟨b, o, none⟩)) _ (run_idx (.tmp 42) (.tmp 43) rfl vl _ _ rfl rfl HX.out.1) ?_
        simp only [Act.put, List.setIfInBounds_toArray, List.set_cons_succ, List.set_cons_zero]
        refine wl (by kernel_rfl) (.pointer (some ⟨b, o + 35, none⟩)) _ (run_fieldOp' f26_4 (.tmp 44) rfl b (o) rfl) ?_
        simp only [Act.put, List.setIfInBounds_toArray, List.set_cons_succ, List.set_cons_zero]
        refine wl (by kernel_rfl) (.int .i64 ex) _ (run_load1 o3 (.tmp 45) rfl b (o + 35) rfl (.int .i64 ex) HX.out.2.2.2.1) ?_
        simp only [Act.put, List.setIfInBounds_toArray, List.set_cons_succ, List.set_cons_zero]
        refine wl (by kernel_rfl) (.int .i64 now) _ (run_mvZ (.tmp 1) rfl (.int .i64 now) rfl) ?_
        simp only [Act.put, List.setIfInBounds_toArray, List.set_cons_succ, List.set_cons_zero]
        refine wl (by kernel_rfl) (.bool false) _ (run_leqZ (.tmp 46) (.tmp 47) rfl ex now rfl rfl false HX.out.2.2.2.2.2) ?_
        simp only [Act.put, List.setIfInBounds_toArray, List.set_cons_succ, List.set_cons_zero]
        refine wl rfl (.bool false) _ (run_pickZ (.tmp 41) (.tmp 48) (.const (.bool false)) rfl true (.bool false) rfl rfl) ?_
        simp only [Act.put, List.setIfInBounds_toArray, List.set_cons_succ, List.set_cons_zero]
        refine wpList_nil ?_
        have HT : Hid (ROwn wr w.heap.size u5 ((l.take (k + 1)).filter fun x => dueB now x.r) ∧ Below w.heap.size w wr) := ⟨by rw [HE.out]; simpa using HS.out.1, HS.out.2⟩
        go_upto_region 4 with fail
        refine wp_region_lit ?_
        refine wl rfl (.int .i64 (k : Nat)) _ (run_mvZ (.tmp 6) rfl (.int .i64 (k : Nat)) rfl) ?_
        simp only [Act.put, List.setIfInBounds_toArray, List.set_cons_succ, List.set_cons_zero]
        refine wl rfl (.int .i64 ((k + 1 : Nat))) _ (run_addI (.tmp 17) rfl k n hlt HF.out.2.2.2 rfl) ?_
        simp only [Act.put, List.setIfInBounds_toArray, List.set_cons_succ, List.set_cons_zero]
        refine wl rfl (.int .i64 ((k + 1 : Nat))) _ (run_asZ (.tmp 18) rfl (.int .i64 ((k + 1 : Nat))) rfl) ?_
        simp only [Act.put, List.setIfInBounds_toArray, List.set_cons_succ, List.set_cons_zero]
        refine wpList_nil ?_
        go_wp2_with fail
        exact ⟨⟨k + 1, rfl, by omega, HT⟩, by simp [intOf]; omega⟩
      have e_ : p2 = true := by cases p2 <;> first | rfl | exact absurd rfl h_
      subst e_
      clear h_
      go_upto_region 5 with fail
      refine wp_region_lit ?_
      refine wl rfl vl _ (run_mvZ (.tmp 0) rfl vl rfl) ?_
      simp only [Act.put, List.setIfInBounds_toArray, List.set_cons_succ, List.set_cons_zero]
      refine wl rfl (.int .i64 (k : Nat)) _ (run_mvZ (.tmp 6) rfl (.int .i64 (k : Nat)) rfl) ?_
      simp only [Act.put, List.setIfInBounds_toArray, List.set_cons_succ, List.set_cons_zero]
      refine wl rfl (.pointer (some ⟨b, o, none⟩)) _ (run_idx (.tmp 19) (.tmp 20) rfl vl _ _ rfl rfl HX.out.1) ?_
      simp only [Act.put, List.setIfInBounds_toArray, List.set_cons_succ, List.set_cons_zero]
      refine wl rfl (.pointer (some ⟨b, o + 37, none⟩)) _ (run_fieldOp' f26_6 (.tmp 21) rfl b (o) rfl) ?_
      simp only [Act.put, List.setIfInBounds_toArray, List.set_cons_succ, List.set_cons_zero]
      refine wl rfl (.bool false) _ (run_load1 o4 (.tmp 22) rfl b (o + 37) rfl (.bool false) HX.out.2.1) ?_
      simp only [Act.put, List.setIfInBounds_toArray, List.set_cons_succ, List.set_cons_zero]
      refine wl rfl (.bool true) _ (run_not (.tmp 23) 4 rfl false rfl) ?_
      simp only [Act.put, List.setIfInBounds_toArray, List.set_cons_succ, List.set_cons_zero]
      refine wl rfl (.bool true) _ (run_mvZ (.tmp 24) rfl (.bool true) rfl) ?_
      simp only [Act.put, List.setIfInBounds_toArray, List.set_cons_succ, List.set_cons_zero]
      refine wl (by kernel_rfl) vl _ (run_mvZ (.tmp 0) rfl vl rfl) ?_
      simp only [Act.put, List.setIfInBounds_toArray, List.set_cons_succ, List.set_cons_zero]
      refine wl (by kernel_rfl) (.int .i64 (k : Nat)) _ (run_mvZ (.tmp 6) rfl (.int .i64 (k : Nat)) rfl) ?_
      simp only [Act.put, List.setIfInBounds_toArray, List.set_cons_succ, List.set_cons_zero]
      refine wl (by kernel_rfl) (.pointer (some ⟨b, o, none⟩)) _ (run_idx (.tmp 26) (.tmp 27) rfl vl _ _ rfl rfl HX.out.1) ?_
      simp only [Act.put, List.setIfInBounds_toArray, List.set_cons_succ, List.set_cons_zero]
      refine wl (by kernel_rfl) (.pointer (some ⟨b, o + 36, none⟩)) _ (run_fieldOp' f26_5 (.tmp 28) rfl b (o) rfl) ?_
      simp only [Act.put, List.setIfInBounds_toArray, List.set_cons_succ, List.set_cons_zero]
      refine wl (by kernel_rfl) (.bool false) _ (run_load1 o4 (.tmp 29) rfl b (o + 36) rfl (.bool false) HX.out.2.2.1) ?_
      simp only [Act.put, List.setIfInBounds_toArray, List.set_cons_succ, List.set_cons_zero]
      refine wl (by kernel_rfl) (.bool true) _ (run_not (.tmp 30) 4 rfl false rfl) ?_
      simp only [Act.put, List.setIfInBounds_toArray, List.set_cons_succ, List.set_cons_zero]
      refine wl rfl (.bool true) _ (run_pickZ (.tmp 25) (.tmp 31) (.const (.bool false)) rfl true (.bool true) rfl rfl) ?_
      simp only [Act.put, List.setIfInBounds_toArray, List.set_cons_succ, List.set_cons_zero]
      refine wl rfl (.bool true) _ (run_mvZ (.tmp 32) rfl (.bool true) rfl) ?_
      simp only [Act.put, List.setIfInBounds_toArray, List.set_cons_succ, List.set_cons_zero]
      refine wl (by kernel_rfl) vl _ (run_mvZ (.tmp 0) rfl vl rfl) ?_
      simp only [Act.put, List.setIfInBounds_toArray, List.set_cons_succ, List.set_cons_zero]
      refine wl (by kernel_rfl) (.int .i64 (k : Nat)) _ (run_mvZ (.tmp 6) rfl (.int .i64 (k : Nat)) rfl) ?_
      simp only [Act.put, List.setIfInBounds_toArray, List.set_cons_succ, List.set_cons_zero]
      refine wl (by kernel_rfl) (.pointer (some ⟨b, o, none⟩)) _ (run_idx (.tmp 34) (.tmp 35) rfl vl _ _ rfl rfl HX.out.1) ?_
      simp only [Act.put, List.setIfInBounds_toArray, List.set_cons_succ, List.set_cons_zero]
      refine wl (by kernel_rfl) (.pointer (some ⟨b, o + 35, none⟩)) _ (run_fieldOp' f26_4 (.tmp 36) rfl b (o) rfl) ?_
      simp only [Act.put, List.setIfInBounds_toArray, List.set_cons_succ, List.set_cons_zero]
      refine wl (by kernel_rfl) (.int .i64 ex) _ (run_load1 o3 (.tmp 37) rfl b (o + 35) rfl (.int .i64 ex) HX.out.2.2.2.1) ?_
      simp only [Act.put, List.setIfInBounds_toArray, List.set_cons_succ, List.set_cons_zero]
      refine wl (by kernel_rfl) (.bool true) _ (run_gtrZ (.tmp 38) (.const (.int .i64 0)) rfl ex 0 rfl rfl true HX.out.2.2.2.2.1) ?_
      simp only [Act.put, List.setIfInBounds_toArray, List.set_cons_succ, List.set_cons_zero]
      refine wl rfl (.bool true) _ (run_pickZ (.tmp 33) (.tmp 39) (.const (.bool false)) rfl true (.bool true) rfl rfl) ?_
      simp only [Act.put, List.setIfInBounds_toArray, List.set_cons_succ, List.set_cons_zero]
      refine wl rfl (.bool true) _ (run_mvZ (.tmp 40) rfl (.bool true) rfl) ?_
      simp only [Act.put, List.setIfInBounds_toArray, List.set_cons_succ, List.set_cons_zero]
      refine wl (by kernel_rfl) vl _ (run_mvZ (.tmp 0) rfl vl rfl) ?_
      simp only [Act.put, List.setIfInBounds_toArray, List.set_cons_succ, List.set_cons_zero]
      refine wl (by kernel_rfl) (.int .i64 (k : Nat)) _ (run_mvZ (.tmp 6) rfl (.int .i64 (k : Nat)) rfl) ?_
      simp only [Act.put, List.setIfInBounds_toArray, List.set_cons_succ, List.set_cons_zero]
      refine wl (by kernel_rfl) (.pointer (some ⟨b, o, none⟩)) _ (run_idx (.tmp 42) (.tmp 43) rfl vl _ _ rfl rfl HX.out.1) ?_
      simp only [Act.put, List.setIfInBounds_toArray, List.set_cons_succ, List.set_cons_zero]
      refine wl (by kernel_rfl) (.pointer (some ⟨b, o + 35, none⟩)) _ (run_fieldOp' f26_4 (.tmp 44) rfl b (o) rfl) ?_
      simp only [Act.put, List.setIfInBounds_toArray, List.set_cons_succ, List.set_cons_zero]
      refine wl (by kernel_rfl) (.int .i64 ex) _ (run_load1 o3 (.tmp 45) rfl b (o + 35) rfl (.int .i64 ex) HX.out.2.2.2.1) ?_
      simp only [Act.put, List.setIfInBounds_toArray, List.set_cons_succ, List.set_cons_zero]
      refine wl (by kernel_rfl) (.int .i64 now) _ (run_mvZ (.tmp 1) rfl (.int .i64 now) rfl) ?_
      simp only [Act.put, List.setIfInBounds_toArray, List.set_cons_succ, List.set_cons_zero]
      refine wl (by kernel_rfl) (.bool true) _ (run_leqZ (.tmp 46) (.tmp 47) rfl ex now rfl rfl true HX.out.2.2.2.2.2) ?_
      simp only [Act.put, List.setIfInBounds_toArray, List.set_cons_succ, List.set_cons_zero]
      refine wl rfl (.bool true) _ (run_pickZ (.tmp 41) (.tmp 48) (.const (.bool false)) rfl true (.bool true) rfl rfl) ?_
      simp only [Act.put, List.setIfInBounds_toArray, List.set_cons_succ, List.set_cons_zero]
      refine wpList_nil ?_
      go_upto_region 6 with fail
      refine wp_region_lit ?_
      refine wl rfl u5 _ (run_mvZ (.tmp 5) rfl u5 rfl) ?_
      simp only [Act.put, List.setIfInBounds_toArray, List.set_cons_succ, List.set_cons_zero]
      refine wl rfl vl _ (run_mvZ (.tmp 0) rfl vl rfl) ?_
      simp only [Act.put, List.setIfInBounds_toArray, List.set_cons_succ, List.set_cons_zero]
      refine wl rfl (.int .i64 (k : Nat)) _ (run_mvZ (.tmp 6) rfl (.int .i64 (k : Nat)) rfl) ?_
      simp only [Act.put, List.setIfInBounds_toArray, List.set_cons_succ, List.set_cons_zero]
      refine wl rfl (.pointer (some ⟨b, o, none⟩)) _ (run_idx (.tmp 51) (.tmp 52) rfl vl _ _ rfl rfl HX.out.1) ?_
      simp only [Act.put, List.setIfInBounds_toArray, List.set_cons_succ, List.set_cons_zero]
      refine wl rfl (.agg (rcells x.r x.v).toArray) _ (run_loadA ag26 (.tmp 53) rfl b (o) rfl (rcells x.r x.v) HR.out.len HY.out) ?_
      simp only [Act.put, List.setIfInBounds_toArray, List.set_cons_succ, List.set_cons_zero]
      refine wl rfl (.slice (some ⟨wr.heap.size, 0, none⟩) 1 1) _ (run_lit1R (.tmp 54) rfl x.r x.v HR.out rfl) ?_
      simp only [Act.put, List.setIfInBounds_toArray, List.set_cons_succ, List.set_cons_zero]
      obtain ⟨v2, w4, hr_, o_, g_⟩ := HS.out.1.plit 37 x HR.out (by have := dueL_len now l k; have := HF.out.2.2.1; omega) HS.out.2.size
      refine wl rfl v2 _ (run_append (.tmp 50) (.tmp 55) rfl u5 _ v2 rfl rfl hr_) ?_
      have HT : Hid (ROwn w4 w.heap.size v2 ((l.take (k + 1)).filter fun x => dueB now x.r) ∧ Below w.heap.size w w4) := ⟨by rw [HE.out]; exact o_, HS.out.2.grown g_ HS.out.2.size fun j hj => (HS.out.1.1.lt j hj).1⟩
      clear hr_ o_ g_
      simp only [Act.put, List.setIfInBounds_toArray, List.set_cons_succ, List.set_cons_zero]
      refine wl rfl v2 _ (run_asZ (.tmp 56) rfl v2 rfl) ?_
      simp only [Act.put, List.setIfInBounds_toArray, List.set_cons_succ, List.set_cons_zero]
      refine wpList_nil ?_
      go_upto_region 4 with fail
      refine wp_region_lit ?_
      refine wl rfl (.int .i64 (k : Nat)) _ (run_mvZ (.tmp 6) rfl (.int .i64 (k : Nat)) rfl) ?_
      simp only [Act.put, List.setIfInBounds_toArray, List.set_cons_succ, List.set_cons_zero]
      refine wl rfl (.int .i64 ((k + 1 : Nat))) _ (run_addI (.tmp 17) rfl k n hlt HF.out.2.2.2 rfl) ?_
      simp only [Act.put, List.setIfInBounds_toArray, List.set_cons_succ, List.set_cons_zero]
      refine wl rfl (.int .i64 ((k + 1 : Nat))) _ (run_asZ (.tmp 18) rfl (.int .i64 ((k + 1 : Nat))) rfl) ?_
      simp only [Act.put, List.setIfInBounds_toArray, List.set_cons_succ, List.set_cons_zero]
      refine wpList_nil ?_
      go_wp2_with fail
      exact ⟨⟨k + 1, rfl, by omega, HT⟩, by simp [intOf]; omega⟩
    · have HD : Hid (decide (k < n) = false) := decide_eq_false hlt
      go_upto_region 3 with fail
      refine wp_region_lit ?_
      refine wl rfl (.int .i64 (k : Nat)) _ (run_mvZ (.tmp 6) rfl (.int .i64 (k : Nat)) rfl) ?_
      simp only [Act.put, List.setIfInBounds_toArray, List.set_cons_succ, List.set_cons_zero]
      refine wl rfl vl _ (run_mvZ (.tmp 0) rfl vl rfl) ?_
      simp only [Act.put, List.setIfInBounds_toArray, List.set_cons_succ, List.set_cons_zero]
      refine wl rfl (.int .i64 (n : Nat)) _ ((by rw [HF.out.2.1]; exact run_lenR HI.out (.tmp 14) rfl rfl)) ?_
      simp only [Act.put, List.setIfInBounds_toArray, List.set_cons_succ, List.set_cons_zero]
      refine wl rfl (.bool false) _ (run_lssN (.tmp 13) (.tmp 15) rfl k n rfl rfl false HD.out) ?_
      simp only [Act.put, List.setIfInBounds_toArray, List.set_cons_succ, List.set_cons_zero]
      refine wpList_nil ?_
      go_upto_region 7 with fail
      refine wp_region_lit ?_
      refine wl rfl (.slice (some ⟨wr.heap.size, 0, none⟩) 0 0) _ (run_lit0S rfl) ?_
      have o_ := SOwn.lit0 wr w.heap.size HS.out.2.size
      have b_ := below_alloc wr (.cells #[] 9)
      obtain ⟨w1, hW_⟩ : ∃ U_ : World, U_ = wr.alloc (.cells #[] 9) := ⟨_, rfl⟩
      obtain ⟨vo, hv_⟩ : ∃ v : Value, v = .slice (some ⟨wr.heap.size, 0, none⟩) 0 0 := ⟨_, rfl⟩
      rw [← hW_, ← hv_] at o_
      rw [← hW_] at b_
      rw [← hW_, ← hv_]
      have H1 : Hid (∃ O L, SOwn w1 w.heap.size vo O ∧ ROwn w1 w.heap.size u5 L ∧ Below w.heap.size w w1 ∧ Sel now (l.map (·.r)) O L) := ⟨[], _, o_, HS.out.1.later b_, HS.out.2.trans (b_.mono HS.out.2.size), by
        have h_ := Sel.start now l
        rwa [show l.filter (fun x => dueB now x.r) = (l.take k).filter (fun x => dueB now x.r) by rw [List.take_of_length_le (by rw [← HF.out.2.1]; omega)]] at h_⟩
      clear o_ b_ hW_ hv_
      simp only [Act.put, List.setIfInBounds_toArray, List.set_cons_succ, List.set_cons_zero]
      refine wl rfl vo _ (run_asZ (.tmp 57) rfl vo rfl) ?_
      simp only [Act.put, List.setIfInBounds_toArray, List.set_cons_succ, List.set_cons_zero]
      refine wpList_nil ?_
      clear HS HI HD hlt hk
      go_wp2_with fail
      go_loopw [7, 5] (fun v7 v5 W => Hid (∃ O L, SOwn W w.heap.size v7 O ∧ ROwn W w.heap.size v5 L ∧ Below w.heap.size w W ∧ Sel now (l.map (·.r)) O L)) (fun _ v5 _ => slLen v5)
      case atStart => exact H1
      case round =>
        rename World => ws
        clear H1
        obtain ⟨O, L, h1_, h2_, h3_, h4_⟩ := hrel.out
        have HS : Hid (SOwn ws w.heap.size u7 O ∧ ROwn ws w.heap.size u5 L ∧ Below w.heap.size w ws ∧ Sel now (l.map (·.r)) O L) := ⟨h1_, h2_, h3_, h4_⟩
        have hlen := h4_.len
        rw [List.length_map, ← HF.out.2.1] at hlen
        have HLN : Hid (O.length + L.length ≤ n) := hlen
        clear h1_ h2_ h3_ h4_ hrel hlen
        obtain ⟨m, hm⟩ : ∃ m, m = L.length := ⟨_, rfl⟩
        have HM : Hid (m = L.length) := hm
        clear hm
        by_cases hlt : 0 < m
        · have HD : Hid (decide ((0 : Int) < (m : Nat)) = true) := decide_eq_true (by omega)
          go_upto_region 8 with fail
          refine wp_region_lit ?_
          refine wl rfl u5 _ (run_mvZ (.tmp 5) rfl u5 rfl) ?_
          simp only [Act.put, List.setIfInBounds_toArray, List.set_cons_succ, List.set_cons_zero]
          refine wl rfl (.int .i64 (m : Nat)) _ ((by rw [HM.out]; exact run_lenO HS.out.2.1.1 sl37 (.tmp 58) rfl rfl)) ?_
          simp only [Act.put, List.setIfInBounds_toArray, List.set_cons_succ, List.set_cons_zero]
          refine wl rfl (.bool true) _ (run_gtrZ (.tmp 59) (.const (.int .i64 0)) rfl (m : Nat) 0 rfl rfl true HD.out) ?_
          simp only [Act.put, List.setIfInBounds_toArray, List.set_cons_succ, List.set_cons_zero]
          refine wpList_nil ?_
          go_upto_region 9 with fail
          refine wp_region_lit ?_
          refine wl rfl (.int .i64 0) _ (run_asZ (.const (.int .i64 0)) rfl (.int .i64 0) rfl) ?_
          simp only [Act.put, List.setIfInBounds_toArray, List.set_cons_succ, List.set_cons_zero]
          refine wpList_nil ?_
          go_upto_region 10 with fail
          refine wp_region_lit ?_
          refine wl rfl (.int .i64 1) _ (run_asZ (.const (.int .i64 1)) rfl (.int .i64 1) rfl) ?_
          simp only [Act.put, List.setIfInBounds_toArray, List.set_cons_succ, List.set_cons_zero]
          refine wpList_nil ?_
          clear HD
          go_wp2_with fail
          go_loopw [8, 9] (fun v8 v9 W => ∃ f i : Nat, v8 = .int .i64 (f : Nat) ∧ v9 = .int .i64 (i : Nat) ∧ Hid (Below ws.heap.size ws W ∧ Fst L f i)) (fun _ v9 _ => m - (intOf v9).toNat)
          case atStart => exact ⟨0, 1, rfl, rfl, Below.refl _ _, Fst.start L (by rw [← HM.out]; exact hlt)⟩
          case round =>
            rename World => wt
            obtain ⟨f, i, rfl, rfl, HQ⟩ := hrel
            by_cases hlt2 : i < m
            · have HD : Hid (decide (i < m) = true) := decide_eq_true hlt2
              go_upto_region 11 with fail
              refine wp_region_lit ?_
              refine wl rfl (.int .i64 (i : Nat)) _ (run_mvZ (.tmp 9) rfl (.int .i64 (i : Nat)) rfl) ?_
              simp only [Act.put, List.setIfInBounds_toArray, List.set_cons_succ, List.set_cons_zero]
              refine wl rfl u5 _ (run_mvZ (.tmp 5) rfl u5 rfl) ?_
              simp only [Act.put, List.setIfInBounds_toArray, List.set_cons_succ, List.set_cons_zero]
              refine wl rfl (.int .i64 (m : Nat)) _ ((by rw [HM.out]; exact run_lenO HS.out.2.1.1 sl37 (.tmp 62) rfl rfl)) ?_
              simp only [Act.put, List.setIfInBounds_toArray, List.set_cons_succ, List.set_cons_zero]
              refine wl rfl (.bool true) _ (run_lssN (.tmp 61) (.tmp 63) rfl i m rfl rfl true HD.out) ?_
              simp only [Act.put, List.setIfInBounds_toArray, List.set_cons_succ, List.set_cons_zero]
              refine wpList_nil ?_
              have HI : Hid (RsIn wt u5 L) := (HS.out.2.1.isIn (by have := HLN.out; have := HF.out.2.2.2; omega)).later HQ.out.1
              obtain ⟨x, hx⟩ : ∃ x, L[i]? = some x := ⟨_, List.getElem?_eq_getElem (by rw [← HM.out]; exact hlt2)⟩
              obtain ⟨y, hy⟩ : ∃ x, L[f]? = some x := ⟨_, List.getElem?_eq_getElem (Nat.lt_of_lt_of_le HQ.out.2.1 HQ.out.2.2.1)⟩
              have HRX : Hid (Rok x.r x.v) := HI.out.ok x (List.mem_of_getElem? hx)
              have HRY : Hid (Rok y.r y.v) := HI.out.ok y (List.mem_of_getElem? hy)
              obtain ⟨b1, o1, hx1, hx2, _⟩ := ix_rec HI.out i x hx
              have HX1 : Hid (∀ w', (Instr.indexAt 37 u5 (.int .i64 (i : Nat))).run Try.prog w' = .ok (.pointer (some ⟨b1, o1, none⟩)) w') := hx1
              have HX2 : Hid (∀ j u, (rcells x.r x.v)[j]? = some u → wt.cell? ⟨b1, o1 + j, none⟩ = some u) := hx2
              have HK : Hid (L[i]? = some x ∧ L[f]? = some y) := ⟨hx, hy⟩
              clear hx1 hx2 hx hy
              have R0 : Hid (Loc wt wt []) := Loc.nil (Below.refl _ wt)
              go_upto_region 13 with fail
              refine wp_region_lit ?_
              refine wl rfl u5 _ (run_mvZ (.tmp 5) rfl u5 rfl) ?_
              simp only [Act.put, List.setIfInBounds_toArray, List.set_cons_succ, List.set_cons_zero]
              refine wl rfl (.int .i64 (i : Nat)) _ (run_mvZ (.tmp 9) rfl (.int .i64 (i : Nat)) rfl) ?_
              simp only [Act.put, List.setIfInBounds_toArray, List.set_cons_succ, List.set_cons_zero]
              refine wl rfl (.pointer (some ⟨b1, o1, none⟩)) _ (run_idx (.tmp 67) (.tmp 68) rfl u5 _ _ rfl rfl HX1.out) ?_
              simp only [Act.put, List.setIfInBounds_toArray, List.set_cons_succ, List.set_cons_zero]
              refine wl rfl (.agg (rcells x.r x.v).toArray) _ (run_loadA ag26 (.tmp 69) rfl b1 (o1) rfl (rcells x.r x.v) HRX.out.len HX2.out) ?_
              simp only [Act.put, List.setIfInBounds_toArray, List.set_cons_succ, List.set_cons_zero]
              refine wl rfl (ptr wt.heap.size) _ (run_allocA (rcells rz (.slice none 0 0)) zero26 rfl) ?_
              have k_ := R0.out.box 26 (rcells rz (.slice none 0 0))
              have hB_ := below_alloc wt (.cells (rcells rz (.slice none 0 0)).toArray 26)
              obtain ⟨w2, hW_⟩ : ∃ U_ : World, U_ = wt.alloc (.cells (rcells rz (.slice none 0 0)).toArray 26) := ⟨_, rfl⟩
              obtain ⟨q1, hq_⟩ : ∃ q, q = wt.heap.size := ⟨_, rfl⟩
              rw [← hW_, ← hq_] at k_
              rw [← hW_] at hB_
              rw [← hW_, ← hq_]
              clear hq_
              have Rw2 : Hid (Loc wt w2 [(q1, 26, rcells rz (.slice none 0 0))]) := k_
              clear k_ hW_ R0
              clear hB_
              simp only [Act.put, List.setIfInBounds_toArray, List.set_cons_succ, List.set_cons_zero]
              obtain ⟨hst_, k_, hC_⟩ := Rw2.out.st26 0 rfl (Rok.nil).len (rcells x.r x.v) (HRX.out).len (HRX.out).one
              have hR_ := Rw2.out.at 0 rfl
              refine wlS rfl rfl _ (run_stV (.tmp 10) (.tmp 70) rfl q1 0 rfl _ rfl hst_) ?_
              obtain ⟨w3, hW_⟩ : ∃ U_ : World, U_ = w2.setRow q1 (rcells x.r x.v).toArray := ⟨_, rfl⟩
              rw [← hW_] at k_ hC_ ⊢
              clear hst_
              have Rw3 : Hid (Loc wt w3 [(q1, 26, rcells x.r x.v)]) := k_
              clear k_ hW_ Rw2
              clear hC_ hR_
              refine wpList_nil ?_
              obtain ⟨b2, o2, hy1, hy2, _⟩ := ix_rec (HI.out.later Rw3.out.below) f y HK.out.2
              have HY1 : Hid (∀ w', (Instr.indexAt 37 u5 (.int .i64 (f : Nat))).run Try.prog w' = .ok (.pointer (some ⟨b2, o2, none⟩)) w') := hy1
              have HY2 : Hid (∀ j u, (rcells y.r y.v)[j]? = some u → w3.cell? ⟨b2, o2 + j, none⟩ = some u) := hy2
              clear hy1 hy2
              go_upto_region 14 with fail
              refine wp_region_lit ?_
              refine wl rfl u5 _ (run_mvZ (.tmp 5) rfl u5 rfl) ?_
              simp only [Act.put, List.setIfInBounds_toArray, List.set_cons_succ, List.set_cons_zero]
              refine wl rfl (.int .i64 (f : Nat)) _ (run_mvZ (.tmp 8) rfl (.int .i64 (f : Nat)) rfl) ?_
              simp only [Act.put, List.setIfInBounds_toArray, List.set_cons_succ, List.set_cons_zero]
              refine wl rfl (.pointer (some ⟨b2, o2, none⟩)) _ (run_idx (.tmp 71) (.tmp 72) rfl u5 _ _ rfl rfl HY1.out) ?_
              simp only [Act.put, List.setIfInBounds_toArray, List.set_cons_succ, List.set_cons_zero]
              refine wl rfl (.agg (rcells y.r y.v).toArray) _ (run_loadA ag26 (.tmp 73) rfl b2 (o2) rfl (rcells y.r y.v) HRY.out.len HY2.out) ?_
              simp only [Act.put, List.setIfInBounds_toArray, List.set_cons_succ, List.set_cons_zero]
              refine wl rfl (ptr w3.heap.size) _ (run_allocA (rcells rz (.slice none 0 0)) zero26 rfl) ?_
              have k_ := Rw3.out.box 26 (rcells rz (.slice none 0 0))
              have hB_ := below_alloc w3 (.cells (rcells rz (.slice none 0 0)).toArray 26)
              obtain ⟨w4, hW_⟩ : ∃ U_ : World, U_ = w3.alloc (.cells (rcells rz (.slice none 0 0)).toArray 26) := ⟨_, rfl⟩
              obtain ⟨q2, hq_⟩ : ∃ q, q = w3.heap.size := ⟨_, rfl⟩
              rw [← hW_, ← hq_] at k_
              rw [← hW_] at hB_
              rw [← hW_, ← hq_]
              clear hq_
              have Rw4 : Hid (Loc wt w4 [(q1, 26, rcells x.r x.v), (q2, 26, rcells rz (.slice none 0 0))]) := k_
              clear k_ hW_ Rw3
              clear hB_
              simp only [Act.put, List.setIfInBounds_toArray, List.set_cons_succ, List.set_cons_zero]
              obtain ⟨hst_, k_, hC_⟩ := Rw4.out.st26 1 rfl (Rok.nil).len (rcells y.r y.v) (HRY.out).len (HRY.out).one
              have hR_ := Rw4.out.at 1 rfl
              refine wlS rfl rfl _ (run_stV (.tmp 11) (.tmp 74) rfl q2 0 rfl _ rfl hst_) ?_
              obtain ⟨w5, hW_⟩ : ∃ U_ : World, U_ = w4.setRow q2 (rcells y.r y.v).toArray := ⟨_, rfl⟩
              rw [← hW_] at k_ hC_ ⊢
              clear hst_
              have Rw5 : Hid (Loc wt w5 [(q1, 26, rcells x.r x.v), (q2, 26, rcells y.r y.v)]) := k_
              clear k_ hW_ Rw4
              clear hC_ hR_
              refine wpList_nil ?_
              obtain ⟨d1, hd1⟩ : ∃ z, decide (x.r.expiry < y.r.expiry) = z := ⟨_, rfl⟩
              obtain ⟨d2, hd2⟩ : ∃ z, decide (x.r.expiry = y.r.expiry) = z := ⟨_, rfl⟩
              obtain ⟨d3, hd3⟩ : ∃ z, decide (sl x.r.id y.r.id) = z := ⟨_, rfl⟩
              have hk3 : decide (klt (keyOf x.r) (keyOf y.r)) = (d1 || (d2 && d3)) := by rw [← hd1, ← hd2, ← hd3, ← Bool.decide_and, ← Bool.decide_or]; exact decide_eq_decide.2 Iff.rfl
              have HD3 : Hid (decide (x.r.expiry < y.r.expiry) = d1 ∧ decide (x.r.expiry = y.r.expiry) = d2 ∧ decide (sl x.r.id y.r.id) = d3 ∧ decide (klt (keyOf x.r) (keyOf y.r)) = (d1 || (d2 && d3))) := ⟨hd1, hd2, hd3, hk3⟩
              clear hd1 hd2 hd3 hk3
              by_cases h_ : d1 = true
              · subst h_
                go_upto_region 15 with fail
                refine wp_region_lit ?_
                refine wl rfl (.pointer (some ⟨q1, 0 + 35, none⟩)) _ (run_fieldOp' f26_4 (.tmp 10) rfl q1 (0) rfl) ?_
                simp only [Act.put, List.setIfInBounds_toArray, List.set_cons_succ, List.set_cons_zero]
                refine wl rfl (.int .i64 x.r.expiry) _ (run_load1 o3 (.tmp 75) rfl q1 (0 + 35) rfl (.int .i64 x.r.expiry) (Rw5.out.fld 0 rfl (HRX.out).root 1 _ rfl)) ?_
                simp only [Act.put, List.setIfInBounds_toArray, List.set_cons_succ, List.set_cons_zero]
                refine wl rfl (.pointer (some ⟨q2, 0 + 35, none⟩)) _ (run_fieldOp' f26_4 (.tmp 11) rfl q2 (0) rfl) ?_
                simp only [Act.put, List.setIfInBounds_toArray, List.set_cons_succ, List.set_cons_zero]
                refine wl rfl (.int .i64 y.r.expiry) _ (run_load1 o3 (.tmp 77) rfl q2 (0 + 35) rfl (.int .i64 y.r.expiry) (Rw5.out.fld 1 rfl (HRY.out).root 1 _ rfl)) ?_
                simp only [Act.put, List.setIfInBounds_toArray, List.set_cons_succ, List.set_cons_zero]
                refine wl rfl (.bool true) _ (run_lssZ (.tmp 76) (.tmp 78) rfl x.r.expiry y.r.expiry rfl rfl true HD3.out.1) ?_
                simp only [Act.put, List.setIfInBounds_toArray, List.set_cons_succ, List.set_cons_zero]
                refine wl rfl (.bool true) _ (run_mvZ (.tmp 79) rfl (.bool true) rfl) ?_
                simp only [Act.put, List.setIfInBounds_toArray, List.set_cons_succ, List.set_cons_zero]
                with_reducible refine wpList_skip (by kernel_rfl) ?_
                simp only [Act.put, List.setIfInBounds_toArray, List.set_cons_succ, List.set_cons_zero]
                with_reducible refine wpList_skip (by kernel_rfl) ?_
                simp only [Act.put, List.setIfInBounds_toArray, List.set_cons_succ, List.set_cons_zero]
                with_reducible refine wpList_skip (by kernel_rfl) ?_
                simp only [Act.put, List.setIfInBounds_toArray, List.set_cons_succ, List.set_cons_zero]
                with_reducible refine wpList_skip (by kernel_rfl) ?_
                simp only [Act.put, List.setIfInBounds_toArray, List.set_cons_succ, List.set_cons_zero]
                with_reducible refine wpList_skip (by kernel_rfl) ?_
                simp only [Act.put, List.setIfInBounds_toArray, List.set_cons_succ, List.set_cons_zero]
                with_reducible refine wpList_skip (by kernel_rfl) ?_
                simp only [Act.put, List.setIfInBounds_toArray, List.set_cons_succ, List.set_cons_zero]
                with_reducible refine wpList_skip (by kernel_rfl) ?_
                simp only [Act.put, List.setIfInBounds_toArray, List.set_cons_succ, List.set_cons_zero]
                with_reducible refine wpList_skip (by kernel_rfl) ?_
                simp only [Act.put, List.setIfInBounds_toArray, List.set_cons_succ, List.set_cons_zero]
                with_reducible refine wpList_skip (by kernel_rfl) ?_
                simp only [Act.put, List.setIfInBounds_toArray, List.set_cons_succ, List.set_cons_zero]
                with_reducible refine wpList_skip (by kernel_rfl) ?_
                simp only [Act.put, List.setIfInBounds_toArray, List.set_cons_succ, List.set_cons_zero]
                with_reducible refine wpList_skip (by kernel_rfl) ?_
                simp only [Act.put, List.setIfInBounds_toArray, List.set_cons_succ, List.set_cons_zero]
                with_reducible refine wpList_skip (by kernel_rfl) ?_
                simp only [Act.put, List.setIfInBounds_toArray, List.set_cons_succ, List.set_cons_zero]
                refine wl rfl (.bool true) _ (run_pickZ (.tmp 80) (.const (.bool true)) (.tmp 92) rfl true (.bool true) rfl rfl) ?_
                simp only [Act.put, List.setIfInBounds_toArray, List.set_cons_succ, List.set_cons_zero]
                refine wpList_nil ?_
                go_upto_region 16 with fail
                refine wp_region_lit ?_
                refine wl rfl (.int .i64 (i : Nat)) _ (run_mvZ (.tmp 9) rfl (.int .i64 (i : Nat)) rfl) ?_
                simp only [Act.put, List.setIfInBounds_toArray, List.set_cons_succ, List.set_cons_zero]
                refine wl rfl (.int .i64 (i : Nat)) _ (run_asZ (.tmp 94) rfl (.int .i64 (i : Nat)) rfl) ?_
                simp only [Act.put, List.setIfInBounds_toArray, List.set_cons_succ, List.set_cons_zero]
                refine wpList_nil ?_
                go_upto_region 12 with fail
                refine wp_region_lit ?_
                refine wl rfl (.int .i64 (i : Nat)) _ (run_mvZ (.tmp 9) rfl (.int .i64 (i : Nat)) rfl) ?_
                simp only [Act.put, List.setIfInBounds_toArray, List.set_cons_succ, List.set_cons_zero]
                refine wl rfl (.int .i64 ((i + 1 : Nat))) _ (run_addI (.tmp 65) rfl i m hlt2 (by have := HLN.out; have := HF.out.2.2.2; have := HM.out; omega) rfl) ?_
                simp only [Act.put, List.setIfInBounds_toArray, List.set_cons_succ, List.set_cons_zero]
                refine wl rfl (.int .i64 ((i + 1 : Nat))) _ (run_asZ (.tmp 66) rfl (.int .i64 ((i + 1 : Nat))) rfl) ?_
                simp only [Act.put, List.setIfInBounds_toArray, List.set_cons_succ, List.set_cons_zero]
                refine wpList_nil ?_
                go_wp2_with fail
                exact ⟨⟨i, i + 1, rfl, rfl, HQ.out.1.trans (Rw5.out.below.mono HQ.out.1.size), HQ.out.2.move x y HK.out.1 HK.out.2 (of_decide_eq_true HD3.out.2.2.2)⟩, by simp [intOf]; omega⟩
              have e_ : d1 = false := eq_false_of_ne_true h_
              subst e_
              clear h_
              by_cases h_ : d2 = false
              · subst h_
                go_upto_region 15 with fail
                refine wp_region_lit ?_
                refine wl rfl (.pointer (some ⟨q1, 0 + 35, none⟩)) _ (run_fieldOp' f26_4 (.tmp 10) rfl q1 (0) rfl) ?_
                simp only [Act.put, List.setIfInBounds_toArray, List.set_cons_succ, List.set_cons_zero]
                refine wl rfl (.int .i64 x.r.expiry) _ (run_load1 o3 (.tmp 75) rfl q1 (0 + 35) rfl (.int .i64 x.r.expiry) (Rw5.out.fld 0 rfl (HRX.out).root 1 _ rfl)) ?_
                simp only [Act.put, List.setIfInBounds_toArray, List.set_cons_succ, List.set_cons_zero]
                refine wl rfl (.pointer (some ⟨q2, 0 + 35, none⟩)) _ (run_fieldOp' f26_4 (.tmp 11) rfl q2 (0) rfl) ?_
                simp only [Act.put, List.setIfInBounds_toArray, List.set_cons_succ, List.set_cons_zero]
                refine wl rfl (.int .i64 y.r.expiry) _ (run_load1 o3 (.tmp 77) rfl q2 (0 + 35) rfl (.int .i64 y.r.expiry) (Rw5.out.fld 1 rfl (HRY.out).root 1 _ rfl)) ?_
                simp only [Act.put, List.setIfInBounds_toArray, List.set_cons_succ, List.set_cons_zero]
                refine wl rfl (.bool false) _ (run_lssZ (.tmp 76) (.tmp 78) rfl x.r.expiry y.r.expiry rfl rfl false HD3.out.1) ?_
                simp only [Act.put, List.setIfInBounds_toArray, List.set_cons_succ, List.set_cons_zero]
                refine wl rfl (.bool false) _ (run_mvZ (.tmp 79) rfl (.bool false) rfl) ?_
                simp only [Act.put, List.setIfInBounds_toArray, List.set_cons_succ, List.set_cons_zero]
                refine wl (by kernel_rfl) (.pointer (some ⟨q1, 0 + 35, none⟩)) _ (run_fieldOp' f26_4 (.tmp 10) rfl q1 (0) rfl) ?_
                simp only [Act.put, List.setIfInBounds_toArray, List.set_cons_succ, List.set_cons_zero]
                refine wl (by kernel_rfl) (.int .i64 x.r.expiry) _ (run_load1 o3 (.tmp 81) rfl q1 (0 + 35) rfl (.int .i64 x.r.expiry) (Rw5.out.fld 0 rfl (HRX.out).root 1 _ rfl)) ?_
                simp only [Act.put, List.setIfInBounds_toArray, List.set_cons_succ, List.set_cons_zero]
                refine wl (by kernel_rfl) (.pointer (some ⟨q2, 0 + 35, none⟩)) _ (run_fieldOp' f26_4 (.tmp 11) rfl q2 (0) rfl) ?_
                simp only [Act.put, List.setIfInBounds_toArray, List.set_cons_succ, List.set_cons_zero]
                refine wl (by kernel_rfl) (.int .i64 y.r.expiry) _ (run_load1 o3 (.tmp 83) rfl q2 (0 + 35) rfl (.int .i64 y.r.expiry) (Rw5.out.fld 1 rfl (HRY.out).root 1 _ rfl)) ?_
                simp only [Act.put, List.setIfInBounds_toArray, List.set_cons_succ, List.set_cons_zero]
                refine wl (by kernel_rfl) (.bool false) _ (run_eqZ (.tmp 82) (.tmp 84) rfl x.r.expiry y.r.expiry rfl rfl false HD3.out.2.1) ?_
                simp only [Act.put, List.setIfInBounds_toArray, List.set_cons_succ, List.set_cons_zero]
                refine wl (by kernel_rfl) (.bool false) _ (run_mvZ (.tmp 85) rfl (.bool false) rfl) ?_
                simp only [Act.put, List.setIfInBounds_toArray, List.set_cons_succ, List.set_cons_zero]
                with_reducible refine wpList_skip (by kernel_rfl) ?_
                simp only [Act.put, List.setIfInBounds_toArray, List.set_cons_succ, List.set_cons_zero]
                with_reducible refine wpList_skip (by kernel_rfl) ?_
                simp only [Act.put, List.setIfInBounds_toArray, List.set_cons_succ, List.set_cons_zero]
                with_reducible refine wpList_skip (by kernel_rfl) ?_
                simp only [Act.put, List.setIfInBounds_toArray, List.set_cons_succ, List.set_cons_zero]
                with_reducible refine wpList_skip (by kernel_rfl) ?_
                simp only [Act.put, List.setIfInBounds_toArray, List.set_cons_succ, List.set_cons_zero]
                with_reducible refine wpList_skip (by kernel_rfl) ?_
                simp only [Act.put, List.setIfInBounds_toArray, List.set_cons_succ, List.set_cons_zero]
                refine wl (by kernel_rfl) (.bool false) _ (run_pickZ (.tmp 86) (.tmp 91) (.const (.bool false)) rfl false (.bool false) rfl rfl) ?_
                simp only [Act.put, List.setIfInBounds_toArray, List.set_cons_succ, List.set_cons_zero]
                refine wl rfl (.bool false) _ (run_pickZ (.tmp 80) (.const (.bool true)) (.tmp 92) rfl false (.bool false) rfl rfl) ?_
                simp only [Act.put, List.setIfInBounds_toArray, List.set_cons_succ, List.set_cons_zero]
                refine wpList_nil ?_
                go_upto_region 12 with fail
                refine wp_region_lit ?_
                refine wl rfl (.int .i64 (i : Nat)) _ (run_mvZ (.tmp 9) rfl (.int .i64 (i : Nat)) rfl) ?_
                simp only [Act.put, List.setIfInBounds_toArray, List.set_cons_succ, List.set_cons_zero]
                refine wl rfl (.int .i64 ((i + 1 : Nat))) _ (run_addI (.tmp 65) rfl i m hlt2 (by have := HLN.out; have := HF.out.2.2.2; have := HM.out; omega) rfl) ?_
                simp only [Act.put, List.setIfInBounds_toArray, List.set_cons_succ, List.set_cons_zero]
                refine wl rfl (.int .i64 ((i + 1 : Nat))) _ (run_asZ (.tmp 66) rfl (.int .i64 ((i + 1 : Nat))) rfl) ?_
                simp only [Act.put, List.setIfInBounds_toArray, List.set_cons_succ, List.set_cons_zero]
                refine wpList_nil ?_
                go_wp2_with fail
                exact ⟨⟨f, i + 1, rfl, rfl, HQ.out.1.trans (Rw5.out.below.mono HQ.out.1.size), HQ.out.2.keep x y HK.out.1 HK.out.2 (of_decide_eq_false HD3.out.2.2.2)⟩, by simp [intOf]; omega⟩
              have e_ : d2 = true := by cases d2 <;> first | rfl | exact absurd rfl h_
              subst e_
              clear h_
              by_cases h_ : d3 = true
              · subst h_
                go_upto_region 15 with fail
                refine wp_region_lit ?_
                refine wl rfl (.pointer (some ⟨q1, 0 + 35, none⟩)) _ (run_fieldOp' f26_4 (.tmp 10) rfl q1 (0) rfl) ?_
                simp only [Act.put, List.setIfInBounds_toArray, List.set_cons_succ, List.set_cons_zero]
                refine wl rfl (.int .i64 x.r.expiry) _ (run_load1 o3 (.tmp 75) rfl q1 (0 + 35) rfl (.int .i64 x.r.expiry) (Rw5.out.fld 0 rfl (HRX.out).root 1 _ rfl)) ?_
                simp only [Act.put, List.setIfInBounds_toArray, List.set_cons_succ, List.set_cons_zero]
                refine wl rfl (.pointer (some ⟨q2, 0 + 35, none⟩)) _ (run_fieldOp' f26_4 (.tmp 11) rfl q2 (0) rfl) ?_
                simp only [Act.put, List.setIfInBounds_toArray, List.set_cons_succ, List.set_cons_zero]
                refine wl rfl (.int .i64 y.r.expiry) _ (run_load1 o3 (.tmp 77) rfl q2 (0 + 35) rfl (.int .i64 y.r.expiry) (Rw5.out.fld 1 rfl (HRY.out).root 1 _ rfl)) ?_
                simp only [Act.put, List.setIfInBounds_toArray, List.set_cons_succ, List.set_cons_zero]
                refine wl rfl (.bool false) _ (run_lssZ (.tmp 76) (.tmp 78) rfl x.r.expiry y.r.expiry rfl rfl false HD3.out.1) ?_
                simp only [Act.put, List.setIfInBounds_toArray, List.set_cons_succ, List.set_cons_zero]
                refine wl rfl (.bool false) _ (run_mvZ (.tmp 79) rfl (.bool false) rfl) ?_
                simp only [Act.put, List.setIfInBounds_toArray, List.set_cons_succ, List.set_cons_zero]
                refine wl (by kernel_rfl) (.pointer (some ⟨q1, 0 + 35, none⟩)) _ (run_fieldOp' f26_4 (.tmp 10) rfl q1 (0) rfl) ?_
                simp only [Act.put, List.setIfInBounds_toArray, List.set_cons_succ, List.set_cons_zero]
                refine wl (by kernel_rfl) (.int .i64 x.r.expiry) _ (run_load1 o3 (.tmp 81) rfl q1 (0 + 35) rfl (.int .i64 x.r.expiry) (Rw5.out.fld 0 rfl (HRX.out).root 1 _ rfl)) ?_
                simp only [Act.put, List.setIfInBounds_toArray, List.set_cons_succ, List.set_cons_zero]
                refine wl (by kernel_rfl) (.pointer (some ⟨q2, 0 + 35, none⟩)) _ (run_fieldOp' f26_4 (.tmp 11) rfl q2 (0) rfl) ?_
                simp only [Act.put, List.setIfInBounds_toArray, List.set_cons_succ, List.set_cons_zero]
                refine wl (by kernel_rfl) (.int .i64 y.r.expiry) _ (run_load1 o3 (.tmp 83) rfl q2 (0 + 35) rfl (.int .i64 y.r.expiry) (Rw5.out.fld 1 rfl (HRY.out).root 1 _ rfl)) ?_
                simp only [Act.put, List.setIfInBounds_toArray, List.set_cons_succ, List.set_cons_zero]
                refine wl (by kernel_rfl) (.bool true) _ (run_eqZ (.tmp 82) (.tmp 84) rfl x.r.expiry y.r.expiry rfl rfl true HD3.out.2.1) ?_
                simp only [Act.put, List.setIfInBounds_toArray, List.set_cons_succ, List.set_cons_zero]
                refine wl (by kernel_rfl) (.bool true) _ (run_mvZ (.tmp 85) rfl (.bool true) rfl) ?_
                simp only [Act.put, List.setIfInBounds_toArray, List.set_cons_succ, List.set_cons_zero]
                refine wl (by kernel_rfl) (.pointer (some ⟨q1, 0 + 0, none⟩)) _ (run_fieldOp' f26_0 (.tmp 10) rfl q1 (0) rfl) ?_
                simp only [Act.put, List.setIfInBounds_toArray, List.set_cons_succ, List.set_cons_zero]
                refine wl (by kernel_rfl) (.string x.r.id) _ (run_load1 o9 (.tmp 87) rfl q1 (0 + 0) rfl (.string x.r.id) (Rw5.out.fid 0 rfl)) ?_
                simp only [Act.put, List.setIfInBounds_toArray, List.set_cons_succ, List.set_cons_zero]
                refine wl (by kernel_rfl) (.pointer (some ⟨q2, 0 + 0, none⟩)) _ (run_fieldOp' f26_0 (.tmp 11) rfl q2 (0) rfl) ?_
                simp only [Act.put, List.setIfInBounds_toArray, List.set_cons_succ, List.set_cons_zero]
                refine wl (by kernel_rfl) (.string y.r.id) _ (run_load1 o9 (.tmp 89) rfl q2 (0 + 0) rfl (.string y.r.id) (Rw5.out.fid 1 rfl)) ?_
                simp only [Act.put, List.setIfInBounds_toArray, List.set_cons_succ, List.set_cons_zero]
                refine wl (by kernel_rfl) (.bool true) _ (run_lssS (.tmp 88) (.tmp 90) rfl x.r.id y.r.id rfl rfl true HD3.out.2.2.1) ?_
                simp only [Act.put, List.setIfInBounds_toArray, List.set_cons_succ, List.set_cons_zero]
                refine wl (by kernel_rfl) (.bool true) _ (run_pickZ (.tmp 86) (.tmp 91) (.const (.bool false)) rfl true (.bool true) rfl rfl) ?_
                simp only [Act.put, List.setIfInBounds_toArray, List.set_cons_succ, List.set_cons_zero]
                refine wl rfl (.bool true) _ (run_pickZ (.tmp 80) (.const (.bool true)) (.tmp 92) rfl false (.bool true) rfl rfl) ?_
                simp only [Act.put, List.setIfInBounds_toArray, List.set_cons_succ, List.set_cons_zero]
                refine wpList_nil ?_
                go_upto_region 16 with fail
                refine wp_region_lit ?_
                refine wl rfl (.int .i64 (i : Nat)) _ (run_mvZ (.tmp 9) rfl (.int .i64 (i : Nat)) rfl) ?_
                simp only [Act.put, List.setIfInBounds_toArray, List.set_cons_succ, List.set_cons_zero]
                refine wl rfl (.int .i64 (i : Nat)) _ (run_asZ (.tmp 94) rfl (.int .i64 (i : Nat)) rfl) ?_
                simp only [Act.put, List.setIfInBounds_toArray, List.set_cons_succ, List.set_cons_zero]
                refine wpList_nil ?_
                go_upto_region 12 with fail
                refine wp_region_lit ?_
                refine wl rfl (.int .i64 (i : Nat)) _ (run_mvZ (.tmp 9) rfl (.int .i64 (i : Nat)) rfl) ?_
                simp only [Act.put, List.setIfInBounds_toArray, List.set_cons_succ, List.set_cons_zero]
                refine wl rfl (.int .i64 ((i + 1 : Nat))) _ (run_addI (.tmp 65) rfl i m hlt2 (by have := HLN.out; have := HF.out.2.2.2; have := HM.out; omega) rfl) ?_
                simp only [Act.put, List.setIfInBounds_toArray, List.set_cons_succ, List.set_cons_zero]
                refine wl rfl (.int .i64 ((i + 1 : Nat))) _ (run_asZ (.tmp 66) rfl (.int .i64 ((i + 1 : Nat))) rfl) ?_
                simp only [Act.put, List.setIfInBounds_toArray, List.set_cons_succ, List.set_cons_zero]
                refine wpList_nil ?_
                go_wp2_with fail
                exact ⟨⟨i, i + 1, rfl, rfl, HQ.out.1.trans (Rw5.out.below.mono HQ.out.1.size), HQ.out.2.move x y HK.out.1 HK.out.2 (of_decide_eq_true HD3.out.2.2.2)⟩, by simp [intOf]; omega⟩
              have e_ : d3 = false := eq_false_of_ne_true h_
              subst e_
              clear h_
              go_upto_region 15 with fail
              refine wp_region_lit ?_
              refine wl rfl (.pointer (some ⟨q1, 0 + 35, none⟩)) _ (run_fieldOp' f26_4 (.tmp 10) rfl q1 (0) rfl) ?_
              simp only [Act.put, List.setIfInBounds_toArray, List.set_cons_succ, List.set_cons_zero]
              refine wl rfl (.int .i64 x.r.expiry) _ (run_load1 o3 (.tmp 75) rfl q1 (0 + 35) rfl (.int .i64 x.r.expiry) (Rw5.out.fld 0 rfl (HRX.out).root 1 _ rfl)) ?_
              simp only [Act.put, List.setIfInBounds_toArray, List.set_cons_succ, List.set_cons_zero]
              refine wl rfl (.pointer (some ⟨q2, 0 + 35, none⟩)) _ (run_fieldOp' f26_4 (.tmp 11) rfl q2 (0) rfl) ?_
              simp only [Act.put, List.setIfInBounds_toArray, List.set_cons_succ, List.set_cons_zero]
              refine wl rfl (.int .i64 y.r.expiry) _ (run_load1 o3 (.tmp 77) rfl q2 (0 + 35) rfl (.int .i64 y.r.expiry) (Rw5.out.fld 1 rfl (HRY.out).root 1 _ rfl)) ?_
              simp only [Act.put, List.setIfInBounds_toArray, List.set_cons_succ, List.set_cons_zero]
              refine wl rfl (.bool false) _ (run_lssZ (.tmp 76) (.tmp 78) rfl x.r.expiry y.r.expiry rfl rfl false HD3.out.1) ?_
              simp only [Act.put, List.setIfInBounds_toArray, List.set_cons_succ, List.set_cons_zero]
              refine wl rfl (.bool false) _ (run_mvZ (.tmp 79) rfl (.bool false) rfl) ?_
              simp only [Act.put, List.setIfInBounds_toArray, List.set_cons_succ, List.set_cons_zero]
              refine wl (by kernel_rfl) (.pointer (some ⟨q1, 0 + 35, none⟩)) _ (run_fieldOp' f26_4 (.tmp 10) rfl q1 (0) rfl) ?_
              simp only [Act.put, List.setIfInBounds_toArray, List.set_cons_succ, List.set_cons_zero]
              refine wl (by kernel_rfl) (.int .i64 x.r.expiry) _ (run_load1 o3 (.tmp 81) rfl q1 (0 + 35) rfl (.int .i64 x.r.expiry) (Rw5.out.fld 0 rfl (HRX.out).root 1 _ rfl)) ?_
              simp only [Act.put, List.setIfInBounds_toArray, List.set_cons_succ, List.set_cons_zero]
              refine wl (by kernel_rfl) (.pointer (some ⟨q2, 0 + 35, none⟩)) _ (run_fieldOp' f26_4 (.tmp 11) rfl q2 (0) rfl) ?_
              simp only [Act.put, List.setIfInBounds_toArray, List.set_cons_succ, List.set_cons_zero]
              refine wl (by kernel_rfl) (.int .i64 y.r.expiry) _ (run_load1 o3 (.tmp 83) rfl q2 (0 + 35) rfl (.int .i64 y.r.expiry) (Rw5.out.fld 1 rfl (HRY.out).root 1 _ rfl)) ?_
              simp only [Act.put, List.setIfInBounds_toArray, List.set_cons_succ, List.set_cons_zero]
              refine wl (by kernel_rfl) (.bool true) _ (run_eqZ (.tmp 82) (.tmp 84) rfl x.r.expiry y.r.expiry rfl rfl true HD3.out.2.1) ?_
              simp only [Act.put, List.setIfInBounds_toArray, List.set_cons_succ, List.set_cons_zero]
              refine wl (by kernel_rfl) (.bool true) _ (run_mvZ (.tmp 85) rfl (.bool true) rfl) ?_
              simp only [Act.put, List.setIfInBounds_toArray, List.set_cons_succ, List.set_cons_zero]
              refine wl (by kernel_rfl) (.pointer (some ⟨q1, 0 + 0, none⟩)) _ (run_fieldOp' f26_0 (.tmp 10) rfl q1 (0) rfl) ?_
              simp only [Act.put, List.setIfInBounds_toArray, List.set_cons_succ, List.set_cons_zero]
              refine wl (by kernel_rfl) (.string x.r.id) _ (run_load1 o9 (.tmp 87) rfl q1 (0 + 0) rfl (.string x.r.id) (Rw5.out.fid 0 rfl)) ?_
              simp only [Act.put, List.setIfInBounds_toArray, List.set_cons_succ, List.set_cons_zero]
              refine wl (by kernel_rfl) (.pointer (some ⟨q2, 0 + 0, none⟩)) _ (run_fieldOp' f26_0 (.tmp 11) rfl q2 (0) rfl) ?_
              simp only [Act.put, List.setIfInBounds_toArray, List.set_cons_succ, List.set_cons_zero]
              refine wl (by kernel_rfl) (.string y.r.id) _ (run_load1 o9 (.tmp 89) rfl q2 (0 + 0) rfl (.string y.r.id) (Rw5.out.fid 1 rfl)) ?_
              simp only [Act.put, List.setIfInBounds_toArray, List.set_cons_succ, List.set_cons_zero]
              refine wl (by kernel_rfl) (.bool false) _ (run_lssS (.tmp 88) (.tmp 90) rfl x.r.id y.r.id rfl rfl false HD3.out.2.2.1) ?_
              simp only [Act.put, List.setIfInBounds_toArray, List.set_cons_succ, List.set_cons_zero]
              refine wl (by kernel_rfl) (.bool false) _ (run_pickZ (.tmp 86) (.tmp 91) (.const (.bool false)) rfl true (.bool false) rfl rfl) ?_
              simp only [Act.put, List.setIfInBounds_toArray, List.set_cons_succ, List.set_cons_zero]
              refine wl rfl (.bool false) _ (run_pickZ (.tmp 80) (.const (.bool true)) (.tmp 92) rfl false (.bool false) rfl rfl) ?_
              simp only [Act.put, List.setIfInBounds_toArray, List.set_cons_succ, List.set_cons_zero]
              refine wpList_nil ?_
              go_upto_region 12 with fail
              refine wp_region_lit ?_
              refine wl rfl (.int .i64 (i : Nat)) _ (run_mvZ (.tmp 9) rfl (.int .i64 (i : Nat)) rfl) ?_
              simp only [Act.put, List.setIfInBounds_toArray, List.set_cons_succ, List.set_cons_zero]
              refine wl rfl (.int .i64 ((i + 1 : Nat))) _ (run_addI (.tmp 65) rfl i m hlt2 (by have := HLN.out; have := HF.out.2.2.2; have := HM.out; omega) rfl) ?_
              simp only [Act.put, List.setIfInBounds_toArray, List.set_cons_succ, List.set_cons_zero]
              refine wl rfl (.int .i64 ((i + 1 : Nat))) _ (run_asZ (.tmp 66) rfl (.int .i64 ((i + 1 : Nat))) rfl) ?_
              simp only [Act.put, List.setIfInBounds_toArray, List.set_cons_succ, List.set_cons_zero]
              refine wpList_nil ?_
              go_wp2_with fail
              exact ⟨⟨f, i + 1, rfl, rfl, HQ.out.1.trans (Rw5.out.below.mono HQ.out.1.size), HQ.out.2.keep x y HK.out.1 HK.out.2 (of_decide_eq_false HD3.out.2.2.2)⟩, by simp [intOf]; omega⟩
            · have HD : Hid (decide (i < m) = false) := decide_eq_false hlt2
              go_upto_region 11 with fail
              refine wp_region_lit ?_
              refine wl rfl (.int .i64 (i : Nat)) _ (run_mvZ (.tmp 9) rfl (.int .i64 (i : Nat)) rfl) ?_
              simp only [Act.put, List.setIfInBounds_toArray, List.set_cons_succ, List.set_cons_zero]
              refine wl rfl u5 _ (run_mvZ (.tmp 5) rfl u5 rfl) ?_
              simp only [Act.put, List.setIfInBounds_toArray, List.set_cons_succ, List.set_cons_zero]
              refine wl rfl (.int .i64 (m : Nat)) _ ((by rw [HM.out]; exact run_lenO HS.out.2.1.1 sl37 (.tmp 62) rfl rfl)) ?_
              simp only [Act.put, List.setIfInBounds_toArray, List.set_cons_succ, List.set_cons_zero]
              refine wl rfl (.bool false) _ (run_lssN (.tmp 61) (.tmp 63) rfl i m rfl rfl false HD.out) ?_
              simp only [Act.put, List.setIfInBounds_toArray, List.set_cons_succ, List.set_cons_zero]
              refine wpList_nil ?_
              have hfi : f < L.length := Nat.lt_of_lt_of_le HQ.out.2.1 HQ.out.2.2.1
              have hie : i = L.length := by have := HQ.out.2.2.1; have := HM.out; omega
              have hal := HQ.out.2
              rw [hie] at hal
              have hst := HS.out.2.2.2.step f hfi (hal.all hfi)
              obtain ⟨y, hy⟩ : ∃ y, y = L[f] := ⟨_, rfl⟩
              rw [← hy] at hst
              have HI : Hid (RsIn wt u5 L) := (HS.out.2.1.isIn (by have := HLN.out; have := HF.out.2.2.2; omega)).later HQ.out.1
              have hyf : L[f]? = some y := by rw [hy]; exact List.getElem?_eq_getElem hfi
              have HRY : Hid (Rok y.r y.v) := HI.out.ok y (List.mem_of_getElem? hyf)
              obtain ⟨b2, o2, hy1, hy2, _⟩ := ix_rec HI.out f y hyf
              have HY1 : Hid (∀ w', (Instr.indexAt 37 u5 (.int .i64 (f : Nat))).run Try.prog w' = .ok (.pointer (some ⟨b2, o2, none⟩)) w') := hy1
              have HY2 : Hid (wt.cell? ⟨b2, o2 + 0, none⟩ = some (.string y.r.id)) := hy2 0 _ (rc0 _ _)
              have HE : Hid (f < L.length ∧ Sel now (l.map (·.r)) (O ++ [y.r.id]) (L.take f ++ L.drop (f + 1))) := ⟨hfi, hst⟩
              have HB : Hid (Below w.heap.size w wt) := HS.out.2.2.1.trans (HQ.out.1.mono HS.out.2.2.1.size)
              have HO : Hid (SOwn wt w.heap.size u7 O ∧ ROwn wt w.heap.size u5 L) := ⟨own_later HS.out.1 HQ.out.1, HS.out.2.1.later HQ.out.1⟩
              clear hal hst hy hyf hy1 hy2 hfi
              go_upto_region 17 with fail
              refine wp_region_lit ?_
              refine wl rfl u7 _ (run_mvZ (.tmp 7) rfl u7 rfl) ?_
              simp only [Act.put, List.setIfInBounds_toArray, List.set_cons_succ, List.set_cons_zero]
              refine wl rfl u5 _ (run_mvZ (.tmp 5) rfl u5 rfl) ?_
              simp only [Act.put, List.setIfInBounds_toArray, List.set_cons_succ, List.set_cons_zero]
              refine wl rfl (.int .i64 (f : Nat)) _ (run_mvZ (.tmp 8) rfl (.int .i64 (f : Nat)) rfl) ?_
              simp only [Act.put, List.setIfInBounds_toArray, List.set_cons_succ, List.set_cons_zero]
              refine wl rfl (.pointer (some ⟨b2, o2, none⟩)) _ (run_idx (.tmp 96) (.tmp 97) rfl u5 _ _ rfl rfl HY1.out) ?_
              simp only [Act.put, List.setIfInBounds_toArray, List.set_cons_succ, List.set_cons_zero]
              refine wl rfl (.pointer (some ⟨b2, o2 + 0, none⟩)) _ (run_fieldOp' f26_0 (.tmp 98) rfl b2 (o2) rfl) ?_
              simp only [Act.put, List.setIfInBounds_toArray, List.set_cons_succ, List.set_cons_zero]
              refine wl rfl (.string y.r.id) _ (run_load1 o9 (.tmp 99) rfl b2 (o2 + 0) rfl (.string y.r.id) HY2.out) ?_
              simp only [Act.put, List.setIfInBounds_toArray, List.set_cons_succ, List.set_cons_zero]
              refine wl rfl (.slice (some ⟨wt.heap.size, 0, none⟩) 1 1) _ (run_lit1S (.tmp 100) rfl y.r.id rfl) ?_
              simp only [Act.put, List.setIfInBounds_toArray, List.set_cons_succ, List.set_cons_zero]
              obtain ⟨v2, w4, hr_, o_, g_⟩ := HO.out.1.plit 38 y.r.id (by have := HLN.out; have := HF.out.2.2.1; omega) HB.out.size
              refine wl rfl v2 _ (run_append (.tmp 95) (.tmp 101) rfl u7 _ v2 rfl rfl hr_) ?_
              have HT : Hid (SOwn w4 w.heap.size v2 (O ++ [y.r.id]) ∧ ROwn w4 w.heap.size u5 L ∧ Below w.heap.size w w4) := ⟨o_, ⟨own_hold HO.out.2.1 g_ (own_two HO.out.2.1 HO.out.1 (by decide)), HO.out.2.2⟩, HB.out.grown g_ HB.out.size fun j hj => (HO.out.1.lt j hj).1⟩
              clear hr_ o_ g_ HO HB HI
              simp only [Act.put, List.setIfInBounds_toArray, List.set_cons_succ, List.set_cons_zero]
              refine wl rfl v2 _ (run_asZ (.tmp 102) rfl v2 rfl) ?_
              simp only [Act.put, List.setIfInBounds_toArray, List.set_cons_succ, List.set_cons_zero]
              refine wpList_nil ?_
              go_upto_region 18 with fail
              refine wp_region_held (S := fun X => True) (by kernel_rfl) ?_
              show wpAnyH _ _ _ _ _ 11 (Array.replicate 11 false) _ _
              obtain ⟨X, hX⟩ : ∃ X : World, X = { w4 with drawn := w4.drawn + 1 } := ⟨_, rfl⟩
              rw [← hX]
              have HX : Hid (ROwn X w.heap.size u5 L ∧ Below w.heap.size w X ∧ SOwn X w.heap.size v2 (O ++ [y.r.id])) := by rw [hX]; exact ⟨HT.out.2.1.later (Below.drewN (Below.refl _ w4) 1), Below.drewN HT.out.2.2 1, own_later HT.out.1 (Below.drewN (Below.refl _ w4) 1)⟩
              obtain ⟨g, cap, ad, cc, v1, w5, v3, w6, hv_, s1_, s2_, r1_, r2_, o_, b_⟩ := HX.out.1.without 37 37 f HE.out.1 (by have := HLN.out; have := HF.out.2.2.1; omega) HX.out.2.1.size
              have HC : Hid (u5 = .slice (some ⟨g, 0, none⟩) m cap ∧ (∀ w', (Instr.slice 37 (.slice (some ⟨g, 0, none⟩) m cap) none (some (.int .i64 (f : Nat))) none).run Try.prog w' = .ok (.slice (some ⟨g, 0, none⟩) f cap) w') ∧ ∀ w', (Instr.slice 37 (.slice (some ⟨g, 0, none⟩) m cap) (some (.int .i64 ((f + 1 : Nat)))) none none).run Try.prog w' = .ok (.slice (some ad) (m - (f + 1)) cc) w') := by rw [HM.out]; exact ⟨hv_, hv_ ▸ s1_, hv_ ▸ s2_⟩
              have HR1 : Hid ((Builtin.append_ #[37, 37] 37 #[.slice (some ⟨X.heap.size, 0, none⟩) 0 0, .slice (some ⟨g, 0, none⟩) f cap]).run Try.prog (X.alloc (.cells #[] 26)) = .ok v1 w5 ∧ (Builtin.append_ #[37, 37] 37 #[v1, .slice (some ad) (m - (f + 1)) cc]).run Try.prog w5 = .ok v3 w6) := ⟨r1_, by rw [HM.out]; exact r2_⟩
              have HU : Hid (ROwn w6 w.heap.size v3 (L.take f ++ L.drop (f + 1)) ∧ Below w.heap.size w w6 ∧ SOwn w6 w.heap.size v2 (O ++ [y.r.id])) := ⟨o_, HX.out.2.1.trans (b_.mono HX.out.2.1.size), own_later HX.out.2.2 b_⟩
              clear hv_ s1_ s2_ r1_ r2_ o_ b_
              clear hX
              refine takeH (i := 1) (some 104) rfl rfl (by kernel_rfl) (by kernel_rfl) (by kernel_rfl) (fun _ _ _ h => h) (gRun rfl u5 fun _ h => run_mvZ (.tmp 5) rfl u5 rfl) trivial ?_
              simp only [Act.put, List.setIfInBounds_toArray, List.set_cons_succ, List.set_cons_zero]
              refine takeH (i := 2) (some 105) rfl rfl (by kernel_rfl) (by kernel_rfl) (by kernel_rfl) (fun _ _ _ h => h) (gRun rfl (.int .i64 (f : Nat)) fun _ h => run_mvZ (.tmp 8) rfl (.int .i64 (f : Nat)) rfl) trivial ?_
              simp only [Act.put, List.setIfInBounds_toArray, List.set_cons_succ, List.set_cons_zero]
              refine takeH (i := 3) (some 106) rfl rfl (by kernel_rfl) (by kernel_rfl) (by kernel_rfl) (fun _ _ _ h => h) (gRun rfl (.slice (some ⟨g, 0, none⟩) f cap) fun _ h => run_cutO sl37 (.tmp 104) none (some (.tmp 105)) none rfl (some ⟨g, 0, none⟩) m cap _ HC.out.1 none (some (.int .i64 (f : Nat))) none rfl rfl rfl (HC.out.2.1 _)) trivial ?_
              simp only [Act.put, List.setIfInBounds_toArray, List.set_cons_succ, List.set_cons_zero]
              refine takeH (i := 5) (some 108) rfl rfl (by kernel_rfl) (by kernel_rfl) (by kernel_rfl) (fun _ _ _ h => h) (gRun rfl u5 fun _ h => run_mvZ (.tmp 5) rfl u5 rfl) trivial ?_
              simp only [Act.put, List.setIfInBounds_toArray, List.set_cons_succ, List.set_cons_zero]
              refine takeH (i := 6) (some 109) rfl rfl (by kernel_rfl) (by kernel_rfl) (by kernel_rfl) (fun _ _ _ h => h) (gRun rfl (.int .i64 (f : Nat)) fun _ h => run_mvZ (.tmp 8) rfl (.int .i64 (f : Nat)) rfl) trivial ?_
              simp only [Act.put, List.setIfInBounds_toArray, List.set_cons_succ, List.set_cons_zero]
              refine takeH (i := 7) (some 110) rfl rfl (by kernel_rfl) (by kernel_rfl) (by kernel_rfl) (fun _ _ _ h => h) (gRun rfl (.int .i64 ((f + 1 : Nat))) fun _ h => run_addI (.tmp 109) rfl f m (by rw [HM.out]; exact HE.out.1) (by have := HLN.out; have := HF.out.2.2.2; have := HM.out; omega) rfl) trivial ?_
              simp only [Act.put, List.setIfInBounds_toArray, List.set_cons_succ, List.set_cons_zero]
              refine takeH (i := 8) (some 111) rfl rfl (by kernel_rfl) (by kernel_rfl) (by kernel_rfl) (fun _ _ _ h => h) (gRun rfl (.slice (some ad) (m - (f + 1)) cc) fun _ h => run_cutO sl37 (.tmp 108) (some (.tmp 110)) none none rfl (some ⟨g, 0, none⟩) m cap _ HC.out.1 (some (.int .i64 ((f + 1 : Nat)))) none none rfl rfl rfl (HC.out.2.2 _)) trivial ?_
              simp only [Act.put, List.setIfInBounds_toArray, List.set_cons_succ, List.set_cons_zero]
              refine oneH (i := 0) (by kernel_rfl) ?_
              refine opValueG (some 103) rfl rfl rfl (.slice (some ⟨X.heap.size, 0, none⟩) 0 0) _ (run_lit0R rfl) ?_
              refine ⟨trivial, ?_⟩
              simp only [Act.put, List.setIfInBounds_toArray, List.set_cons_succ, List.set_cons_zero]
              refine oneH (i := 4) (by kernel_rfl) ?_
              refine opValueG (some 107) rfl rfl rfl v1 _ (run_append (.tmp 103) (.tmp 106) rfl _ _ v1 rfl rfl HR1.out.1) ?_
              refine ⟨trivial, ?_⟩
              simp only [Act.put, List.setIfInBounds_toArray, List.set_cons_succ, List.set_cons_zero]
              refine oneH (i := 9) (by kernel_rfl) ?_
              refine opValueG (some 112) rfl rfl rfl v3 _ (run_append (.tmp 107) (.tmp 111) rfl _ _ v3 rfl rfl HR1.out.2) ?_
              refine ⟨trivial, ?_⟩
              simp only [Act.put, List.setIfInBounds_toArray, List.set_cons_succ, List.set_cons_zero]
              refine takeH (i := 10) (some 5) rfl rfl (by kernel_rfl) (by kernel_rfl) (by kernel_rfl) (fun _ _ _ h => h) (gRun rfl v3 fun _ h => run_asZ (.tmp 112) rfl v3 rfl) trivial ?_
              simp only [Act.put, List.setIfInBounds_toArray, List.set_cons_succ, List.set_cons_zero]
              refine wpAnyH_done (by kernel_rfl) ?_ _
              go_wp2_with fail
              exact ⟨⟨_, _, HU.out.2.2, HU.out.1, HU.out.2.1, HE.out.2⟩, by rw [own_slLen HU.out.1.1, own_slLen HT.out.2.1.1, List.length_append, List.length_take, List.length_drop]; have := HE.out.1; omega⟩
        · have HD : Hid (decide ((0 : Int) < (m : Nat)) = false) := decide_eq_false (by omega)
          go_upto_region 8 with fail
          refine wp_region_lit ?_
          refine wl rfl u5 _ (run_mvZ (.tmp 5) rfl u5 rfl) ?_
          simp only [Act.put, List.setIfInBounds_toArray, List.set_cons_succ, List.set_cons_zero]
          refine wl rfl (.int .i64 (m : Nat)) _ ((by rw [HM.out]; exact run_lenO HS.out.2.1.1 sl37 (.tmp 58) rfl rfl)) ?_
          simp only [Act.put, List.setIfInBounds_toArray, List.set_cons_succ, List.set_cons_zero]
          refine wl rfl (.bool false) _ (run_gtrZ (.tmp 59) (.const (.int .i64 0)) rfl (m : Nat) 0 rfl rfl false HD.out) ?_
          simp only [Act.put, List.setIfInBounds_toArray, List.set_cons_succ, List.set_cons_zero]
          refine wpList_nil ?_
          go_upto_region 19 with fail
          refine wp_region_lit ?_
          refine wl rfl u7 _ (run_mvZ (.tmp 7) rfl u7 rfl) ?_
          simp only [Act.put, List.setIfInBounds_toArray, List.set_cons_succ, List.set_cons_zero]
          refine wl rfl u7 _ (run_asZ (.tmp 113) rfl u7 rfl) ?_
          simp only [Act.put, List.setIfInBounds_toArray, List.set_cons_succ, List.set_cons_zero]
          refine wpList_nil ?_
          have hL : L = [] := List.eq_nil_of_length_eq_zero (by have := HM.out; omega)
          have hdn := HS.out.2.2.2
          rw [hL] at hdn
          go_wp2_with fail
          first | (rw [HPQ.out]; exact ⟨u7, O, rfl, HS.out.1, hdn.done, HS.out.2.2.1⟩) | (go_end0; rw [HPQ.out]; exact ⟨u7, O, rfl, HS.out.1, hdn.done, HS.out.2.2.1⟩)

end Go.Proofs.Ytobolkllplmmcaa

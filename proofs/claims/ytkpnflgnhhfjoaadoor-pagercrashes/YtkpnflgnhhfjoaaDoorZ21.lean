/- Layer 9: whether a commit may be; pages of a disk. Layer 9: how many pages a device has. -/
import Derived.Test.YtkpnflgnhhfjoaaDoorZ20
import Derived.Test.YtkpnflgnhhfjoaaDoorZ16
namespace Go.Proofs.YtkpnflgnhhfjoaaDoor
open Go.RowKit Go.Maps
open Fr.Frame (be val)

open Classical in
/-- no page from k on -/
noncomputable def noneFrom (u : List Nat) (k : Nat) : Bool := decide (∀ p, k ≤ p → p < 384 → bitP u p = false)
theorem noneFrom_next {u : List Nat} {k : Nat} (h : bitP u k = false) : noneFrom u k = noneFrom u (k + 1) := by
  unfold noneFrom
  rw [decide_eq_decide]
  refine ⟨fun hh p hp => hh p (by omega), fun hh p hp hq => ?_⟩
  by_cases e : p = k
  · rw [e]; exact h
  · exact hh p (by omega) hq
theorem noneFrom_end (u : List Nat) {k : Nat} (h : 384 ≤ k) : noneFrom u k = true := by
  unfold noneFrom
  simp only [decide_eq_true_eq]
  intro p hp hq
  omega
theorem noneFrom_hit {u : List Nat} {k : Nat} (h : bitP u k = true) (hk : k < 384) : noneFrom u k = false := by
  unfold noneFrom
  simp only [decide_eq_false_iff_not]
  intro hh
  rw [hh k (Nat.le_refl _) hk] at h
  cases h
open Classical in
/-- may this commit be one of n pages? -/
noncomputable def holdsB (h : Hd) (n : Nat) : Bool := decide (Holds h n)
theorem holdsB_iff (h : Hd) (n : Nat) : holdsB h n = true ↔ Holds h n := by simp [holdsB]
theorem holdsB_eq (h : Hd) (n : Nat) : holdsB h n = (noneFrom h.used n && (decide (h.root = -1) || hasP h.used h.root)) := by
  rw [Bool.eq_iff_iff, holdsB_iff]
  unfold Holds noneFrom
  simp only [Bool.and_eq_true, Bool.or_eq_true, decide_eq_true_eq]
set_option maxHeartbeats 8000000 in
set_option maxRecDepth 100000 in
theorem holds_any (w : World) (h : Hd) (hw : h.WF) (n : Nat) (hn : n ≤ 384) : Calls Tryd.prog 79 #[.agg (hdCells h).toArray, .int .i64 (n : Nat)] w fun e w' => e = .returned (.bool (holdsB h n)) ∧ Below w.heap.size w w' := by
  obtain ⟨u, hu⟩ : ∃ u, u = h.used := ⟨_, rfl⟩
  obtain ⟨root, hroot⟩ : ∃ root, root = h.root := ⟨_, rfl⟩
  obtain ⟨r, hr⟩ : ∃ r, r = holdsB h n := ⟨_, rfl⟩
  have HR : Hid (r = (noneFrom u n && (decide (root = -1) || hasP u root))) := by show _ = _; rw [hr, holdsB_eq, hu, hroot]
  have HU : Hid (USet u) := by show USet u; rw [hu]; exact hw.used
  have HRT : Hid (-1 ≤ root ∧ root ≤ 65534) := by show _ ∧ _; rw [hroot]; exact ⟨hw.lo, hw.hi⟩
  have HC : Hid ((hdCells h)[1]? = some (.int .i64 root) ∧ (∀ j v, (bcells u)[j]? = some v → (hdCells h)[2 + j]? = some v)) := by
    refine ⟨by rw [hroot]; rfl, fun j v hv => ?_⟩
    rw [Nat.add_comm]
    rw [hu] at hv
    exact hv
  obtain ⟨cs, hcs⟩ : ∃ cs, cs = hdCells h := ⟨_, rfl⟩
  rw [← hcs] at HC
  have HHAS : Hid (∀ W p, Calls Tryd.prog 45 #[.agg (bcells u).toArray, .int .i64 p] W fun e w' => e = .returned (.bool (hasP u p)) ∧ Below W.heap.size W w') := fun W p => has_any W u HU.out p
  obtain ⟨PQ, hPQ⟩ : ∃ PQ : Ending → World → Prop, PQ = fun (e : Ending) (w' : World) => e = .returned (.bool r) ∧ Below w.heap.size w w' := ⟨_, rfl⟩
  have HPQ : Hid (PQ = fun (e : Ending) (w' : World) => e = .returned (.bool r) ∧ Below w.heap.size w w') := hPQ
  rw [← hr, ← hPQ, ← hcs]
  clear hu hroot hr hw hPQ hcs
  go_enter Tryd.func79, Tryd.ntmps79
  go_upto_region 0 with fail
  refine wp_region_lit ?_
  refine wpList_box (.tmp 0) rfl rfl cs rfl ?_
  intro w1 r1 z1 b1
  obtain ⟨q, hq⟩ : ∃ q, q = w.heap.size := ⟨_, rfl⟩
  have R1 : Hid (Loc w w1 [(q, 78, cs)]) := by rw [hq]; exact (Loc.nil (Below.refl _ w)).add r1 (Nat.le_refl _) b1
  rw [← hq]
  clear r1 b1 hq z1
  simp only [Act.put, aS, aC, aZ]
  refine wl_as (.const (.bool false)) rfl rfl (.bool false) rfl ?_
  simp only [Act.put, aS, aC, aZ]
  refine wpList_nil ?_
  go_upto_region 1 with fail
  go_wp2_with fail
  go_loopw [5] (fun vk W => ∃ k : Nat, vk = .int .i64 (k : Nat) ∧ n ≤ k ∧ k ≤ 384 ∧ noneFrom u n = noneFrom u k ∧ Loc w W [(q, 78, cs)]) (fun vk _ => 384 - (intOf vk).toNat)
  case atStart => exact ⟨n, rfl, Nat.le_refl _, hn, rfl, R1.out⟩
  case round =>
    obtain ⟨k, rfl, hk1, hk2, hk3, hI⟩ := hrel
    have R : Hid (Loc w wr [(q, 78, cs)] ∧ noneFrom u n = noneFrom u k) := ⟨hI, hk3⟩
    clear hI R1 hk3
    by_cases hlt : k < 384
    · have t1 : decide ((k : Int) < 384) = true := decide_eq_true (by omega)
      go_upto_region 4 with fail
      refine wp_region_lit ?_
      refine wl rfl (.pointer (some ⟨q, 0 + 2, none⟩)) _ (run_fieldOp' f78_2 (.tmp 2) rfl q (0) rfl) ?_
      simp only [Act.put, aS, aC, aZ]
      refine wl rfl (.agg (bcells u).toArray) _ (run_loadA ag76 (.tmp 11) rfl q (0 + 2) rfl (bcells u) (by rw [bcells_length]; exact HU.out.1) (fun j v hv => by exact rows_at R.out.1 0 rfl (2 + j) v (HC.out.2 j v hv))) ?_
      simp only [Act.put, aS, aC, aZ]
      refine wl rfl (.int .i64 (k : Nat)) _ (run_mvZ (.tmp 5) rfl (.int .i64 (k : Nat)) rfl) ?_
      simp only [Act.put, aS, aC, aZ]
      refine wpList_callW eN45 [.tmp 12, .tmp 13] _ rfl rfl [(.agg (bcells u).toArray), (.int .i64 (k : Nat))] rfl ?_
      refine (HHAS.out wr (k : Nat)).mono ?_
      rintro e w2 ⟨rfl, b2⟩
      refine ⟨_, rfl, ?_⟩
      rw [hasP_nat u k hlt]
      have R2 : Hid (Loc w w2 [(q, 78, cs)] ∧ noneFrom u n = noneFrom u k) := ⟨R.out.1.later b2, R.out.2⟩
      clear b2 R
      obtain ⟨bt, hbt⟩ : ∃ bt, bt = bitP u k := ⟨_, rfl⟩
      rw [← hbt]
      simp only [Act.put, aS, aC, aZ]
      refine wpList_nil ?_
      cases bt with
      | true =>
        have er : r = false := by rw [HR.out, R2.out.2, noneFrom_hit hbt.symm hlt]; rfl
        subst er
        go_wp2_with fail
        rw [HPQ.out]
        exact ⟨rfl, R2.out.1.below⟩
      | false =>
        go_wp2_with fail
        refine ⟨⟨k + 1, by go_num, by omega, by omega, by rw [R2.out.2, noneFrom_next hbt.symm], R2.out.1⟩, ?_⟩
        simp [intOf]; omega
    · have t1 : decide ((k : Int) < 384) = false := decide_eq_false (by omega)
      have er : r = (decide (root = -1) || hasP u root) := by rw [HR.out, R.out.2, noneFrom_end u (by omega)]; rfl
      have HER : Hid (r = (decide (root = -1) || hasP u root)) := er
      clear er
      go_upto_region 6 with fail
      by_cases h1 : root = -1
      · have hd1 : decide (root = -1) = true := decide_eq_true h1
        have er : r = true := by rw [HER.out, hd1]; rfl
        subst er
        refine wp_region_lit ?_
        refine wl rfl (.pointer (some ⟨q, 0 + 1, none⟩)) _ (run_fieldOp' f78_1 (.tmp 2) rfl q (0) rfl) ?_
        simp only [Act.put, aS, aC, aZ]
        refine wl rfl (.int .i64 root) _ (run_load1 o3 (.tmp 15) rfl q (0 + 1) rfl (.int .i64 root) (rows_at R.out.1 0 rfl 1 _ HC.out.1)) ?_
        simp only [Act.put, aS, aC, aZ]
        refine wl rfl (.bool true) _ (run_eqZ (.tmp 16) (.const (.int .i64 (-1))) rfl root (-1) rfl rfl true hd1) ?_
        simp only [Act.put, aS, aC, aZ]
        refine wl rfl (.bool true) _ (run_mvZ (.tmp 17) rfl (.bool true) rfl) ?_
        simp only [Act.put, aS, aC, aZ]
        refine wpList_skip (by kernel_rfl) ?_
        simp only [Act.put, aS, aC, aZ]
        refine wpList_skip (by kernel_rfl) ?_
        simp only [Act.put, aS, aC, aZ]
        refine wpList_skip (by kernel_rfl) ?_
        simp only [Act.put, aS, aC, aZ]
        refine wpList_skip (by kernel_rfl) ?_
        simp only [Act.put, aS, aC, aZ]
        refine wpList_skip (by kernel_rfl) ?_
        simp only [Act.put, aS, aC, aZ]
        refine wl rfl (.bool true) _ (run_pickZ (.tmp 18) (.const (.bool true)) (.tmp 23) rfl true (.bool true) rfl rfl) ?_
        simp only [Act.put, aS, aC, aZ]
        refine wl rfl (.bool true) _ (run_asZ (.tmp 24) rfl (.bool true) rfl) ?_
        simp only [Act.put, aS, aC, aZ]
        refine wpList_nil ?_
        go_wp2_with fail
        rw [HPQ.out]
        exact ⟨rfl, R.out.1.below⟩
      · have hd1 : decide (root = -1) = false := decide_eq_false h1
        have er : r = hasP u root := by rw [HER.out, hd1]; rfl
        have HE2 : Hid (r = hasP u root) := er
        clear er
        refine wp_region_lit ?_
        refine wl rfl (.pointer (some ⟨q, 0 + 1, none⟩)) _ (run_fieldOp' f78_1 (.tmp 2) rfl q (0) rfl) ?_
        simp only [Act.put, aS, aC, aZ]
        refine wl rfl (.int .i64 root) _ (run_load1 o3 (.tmp 15) rfl q (0 + 1) rfl (.int .i64 root) (rows_at R.out.1 0 rfl 1 _ HC.out.1)) ?_
        simp only [Act.put, aS, aC, aZ]
        refine wl rfl (.bool false) _ (run_eqZ (.tmp 16) (.const (.int .i64 (-1))) rfl root (-1) rfl rfl false hd1) ?_
        simp only [Act.put, aS, aC, aZ]
        refine wl rfl (.bool false) _ (run_mvZ (.tmp 17) rfl (.bool false) rfl) ?_
        simp only [Act.put, aS, aC, aZ]
        refine wl (by kernel_rfl) (.pointer (some ⟨q, 0 + 2, none⟩)) _ (run_fieldOp' f78_2 (.tmp 2) rfl q (0) rfl) ?_
        simp only [Act.put, aS, aC, aZ]
        refine wl (by kernel_rfl) (.agg (bcells u).toArray) _ (run_loadA ag76 (.tmp 19) rfl q (0 + 2) rfl (bcells u) (by rw [bcells_length]; exact HU.out.1) (fun j v hv => by exact rows_at R.out.1 0 rfl (2 + j) v (HC.out.2 j v hv))) ?_
        simp only [Act.put, aS, aC, aZ]
        refine wl (by kernel_rfl) (.pointer (some ⟨q, 0 + 1, none⟩)) _ (run_fieldOp' f78_1 (.tmp 2) rfl q (0) rfl) ?_
        simp only [Act.put, aS, aC, aZ]
        refine wl (by kernel_rfl) (.int .i64 root) _ (run_load1 o3 (.tmp 21) rfl q (0 + 1) rfl (.int .i64 root) (rows_at R.out.1 0 rfl 1 _ HC.out.1)) ?_
        simp only [Act.put, aS, aC, aZ]
        refine wpList_callW eN45 [.tmp 20, .tmp 22] _ rfl rfl [(.agg (bcells u).toArray), (.int .i64 root)] rfl ?_
        refine (HHAS.out wr root).mono ?_
        rintro e w3 ⟨rfl, b3⟩
        refine ⟨_, rfl, ?_⟩
        have R3 : Hid (Loc w w3 [(q, 78, cs)]) := R.out.1.later b3
        clear b3
        simp only [Act.put, aS, aC, aZ]
        refine wl rfl (.bool (hasP u root)) _ (run_pickZ (.tmp 18) (.const (.bool true)) (.tmp 23) rfl false (.bool (hasP u root)) rfl rfl) ?_
        simp only [Act.put, aS, aC, aZ]
        refine wl rfl (.bool (hasP u root)) _ (run_asZ (.tmp 24) rfl (.bool (hasP u root)) rfl) ?_
        simp only [Act.put, aS, aC, aZ]
        refine wpList_nil ?_
        rw [← HE2.out]
        go_wp2_with fail
        rw [HPQ.out]
        exact ⟨rfl, R3.out.below⟩
end Go.Proofs.YtkpnflgnhhfjoaaDoor

namespace Go.Proofs.YtkpnflgnhhfjoaaDoor
open Go.RowKit Go.Maps

theorem sized_disks {m : Pl} {ds ts : List Nat} (h : ShapeOf m ds ts) : sized false m.sh = ds.map fun n => .int .i64 (n : Nat) := by
  unfold sized
  rw [h, List.filter_append, List.map_append]
  have e1 : (ds.map fun n => (false, n)).filter (fun x => x.1 == false) = ds.map fun n => (false, n) := List.filter_eq_self.2 fun x hx => by
    obtain ⟨n, _, rfl⟩ := List.mem_map.1 hx
    rfl
  have e2 : (ts.map fun n => (true, n)).filter (fun x => x.1 == false) = [] := List.filter_eq_nil_iff.2 fun x hx => by
    obtain ⟨n, _, rfl⟩ := List.mem_map.1 hx
    exact Bool.false_ne_true
  rw [e1, e2, List.map_map, List.map_nil, List.append_nil]
  rfl
theorem run_field30 {w : World} {a : Act} {o : Oper} (x : Operand) (ho : o.op = .field 30 x 0) (vd vt : Value) (h1 : ∃ p n c, vd = .slice p n c) (h2 : ∃ p n c, vt = .slice p n c) (hx : a.eval x = .agg #[vd, vt]) : (execOp a.eval o).run Tryd.prog w = .ok (.value vd) w := by
  obtain ⟨p, n, c, rfl⟩ := h1
  obtain ⟨p2, n2, c2, rfl⟩ := h2
  have hr : (Instr.field 30 (.agg #[.slice p n c, .slice p2 n2 c2]) 0).run Tryd.prog w = .ok (.slice p n c) w := by kernel_rfl
  simp [execOp, ho, hx, hr]
theorem sl28 : Tryd.prog.underlying 28 = some (.slice (Tryd.prog.elem 28)) := by kernel_rfl
/-- the pages of a device: none, if it is no disk -/
def pagesD (ds : List Nat) (d : Int) : Nat := if 0 ≤ d ∧ d < (ds.length : Int) then pagesN (ds.getD d.toNat 0) else 0
theorem pages_val (x : Nat) (h : x ≤ 4096) : max 0 (min (((x : Int) - 2).tdiv 8) 384) = ((pagesN x : Nat) : Int) := by
  unfold pagesN
  by_cases h2 : 2 ≤ x
  · have e : ((x : Int) - 2).tdiv 8 = (((x - 2) / 8 : Nat) : Int) := by
      rw [Int.tdiv_eq_ediv_of_nonneg (by omega)]
      omega
    rw [e]
    omega
  · match x, h2 with
    | 0, _ => decide
    | 1, _ => decide
    | k + 2, h => omega
set_option maxHeartbeats 4000000 in
set_option maxRecDepth 100000 in
theorem pagesOf_any {w : World} {c : Nat → Colour} {t g : Nat} {m : Pl} (h : Live w c t g m) {ds ts : List Nat} (hsh : ShapeOf m ds ts) (d : Int) : Calls Tryd.prog 37 #[ptr g, .int .i64 d] w fun e w' => e = .returned (.int .i64 (pagesD ds d : Nat)) ∧ Below w.heap.size w w' := by
  obtain ⟨⟨db, cap, gs, hP⟩, hwf, _⟩ := h
  have hC := shape_any hP hwf
  rw [sized_disks hsh] at hC
  have HC : Hid (Calls Tryd.prog 64 #[ptr g] w fun e w' => ∃ vd vt, e = .returned (.agg #[vd, vt]) ∧ w'.ownsRow w.heap.size 3 1 vd ds.length (ds.map fun n => .int .i64 (n : Nat)) ∧ (∃ p n c, vt = .slice p n c) ∧ Below w.heap.size w w') := hC.mono fun e w' ⟨vd, vt, h1, h2, h3, h4⟩ => ⟨vd, vt, h1, by rw [List.length_map] at h2; exact h2, own_isSlice h3, h4⟩
  obtain ⟨r, hr⟩ : ∃ r, r = pagesD ds d := ⟨_, rfl⟩
  have HR : Hid (r = pagesD ds d) := hr
  have hn12 : ds.length ≤ 12 := by have := hwf.few; have h2 := hsh.n; unfold Pl.n at h2; omega
  have HSZ : Hid (∀ i, i < ds.length → ds.getD i 0 ≤ 4096) := fun i hi => by
    have h1 := (hwf.sizes i (by have h2 := hsh.n; unfold Pl.n at h2; omega)).2
    rw [(hsh.disk i hi).2] at h1
    exact h1
  obtain ⟨n, hn⟩ : ∃ n, n = ds.length := ⟨_, rfl⟩
  have HN : Hid (n = ds.length) := hn
  obtain ⟨PQ, hPQ⟩ : ∃ PQ : Ending → World → Prop, PQ = fun (e : Ending) (w' : World) => e = .returned (.int .i64 (r : Nat)) ∧ Below w.heap.size w w' := ⟨_, rfl⟩
  have HPQ : Hid (PQ = fun (e : Ending) (w' : World) => e = .returned (.int .i64 (r : Nat)) ∧ Below w.heap.size w w') := hPQ
  rw [← hr, ← hPQ]
  rw [← hn] at hn12 HC HSZ
  clear hP hwf hC hr hn hPQ
  go_enter Tryd.func37, Tryd.ntmps37
  go_upto_region 1 with fail
  refine wp_region_lit ?_
  refine wl_mv (.tmp 0) rfl rfl (ptr g) rfl ?_
  simp only [Act.put, aS, aC, aZ]
  refine wpList_callF eN64 [.tmp 6] _ rfl rfl [ptr g] rfl ?_
  refine HC.out.mono ?_
  rintro e w1 ⟨vd, vt, rfl, ho, hvt, hb⟩
  refine ⟨_, rfl, ?_⟩
  have R1 : Hid (w1.ownsRow w.heap.size 3 1 vd n (ds.map fun n => .int .i64 (n : Nat)) ∧ Below w.heap.size w w1) := ⟨ho, hb⟩
  simp only [Act.put, aS, aC, aZ]
  refine wl rfl vd w1 (run_field30 (.tmp 7) rfl vd vt (own_isSlice ho) hvt rfl) ?_
  clear ho hvt hb
  simp only [Act.put, aS, aC, aZ]
  refine wl_as (.tmp 8) rfl rfl vd rfl ?_
  simp only [Act.put, aS, aC, aZ]
  refine wpList_nil ?_
  go_upto_region 2 with fail
  by_cases h0 : d < 0
  · have t0 : decide (d < 0) = true := decide_eq_true h0
    have er : r = 0 := by rw [HR.out]; unfold pagesD; rw [if_neg (by omega)]
    subst er
    go_wp2_with fail
    rw [HPQ.out]
    exact ⟨rfl, R1.out.2⟩
  · have t0 : decide (d < 0) = false := decide_eq_false h0
    by_cases h1 : (n : Int) ≤ d
    · have t1 : decide ((n : Int) ≤ d) = true := decide_eq_true h1
      have er : r = 0 := by rw [HR.out]; unfold pagesD; rw [← HN.out, if_neg (by omega)]
      subst er
      go_wp2_with (refine wl_olen (.tmp 13) 28 rfl rfl sl28 vd rfl R1.out.1 ?_)
      rw [HPQ.out]
      exact ⟨rfl, R1.out.2⟩
    · have t1 : decide ((n : Int) ≤ d) = false := decide_eq_false h1
      obtain ⟨i, hi⟩ : ∃ i : Nat, d = (i : Int) := ⟨d.toNat, by omega⟩
      subst hi
      have hin : i < n := by omega
      have hix := own_index R1.out.1 Tryd.underlying28 (by kernel_rfl) i hin
      obtain ⟨b, hbo, hih, hch⟩ := hix
      rw [Nat.mul_one] at hih
      obtain ⟨x, hx⟩ : ∃ x, x = ds.getD i 0 := ⟨_, rfl⟩
      have HX : Hid (x = ds.getD i 0) := hx
      have hx4 : x ≤ 4096 := by rw [hx]; exact HSZ.out i hin
      have HIH : Hid (∀ w', (Instr.indexAt 28 vd (.int .i64 (i : Nat))).run Tryd.prog w' = .ok (.pointer (some ⟨b, i, none⟩)) w') := hih
      have kc : w1.cell? ⟨b, i, none⟩ = some (.int .i64 (x : Nat)) := by
        have h2 := hch 0 (by decide)
        rw [Nat.add_zero, Nat.mul_one] at h2
        rw [h2, hx]
        have hl := HN.out
        simp [show i < ds.length by omega]
      clear hbo hih hch hx
      have er : r = pagesN x := by rw [HR.out]; unfold pagesD; rw [← HN.out, if_pos (by omega), Int.toNat_natCast, ← HX.out]
      have HE : Hid (max 0 (min (((x : Int) - 2).tdiv 8) 384) = (r : Int)) := by show _ = _; rw [er]; exact pages_val x hx4
      clear er
      go_wp2_with (first | (refine wl_olen (.tmp 13) 28 rfl rfl sl28 vd rfl R1.out.1 ?_) | (refine wl_ix (.tmp 17) (.tmp 18) rfl rfl vd _ _ rfl rfl HIH.out ?_))
      rw [HPQ.out, HE.out]
      exact ⟨rfl, R1.out.2⟩
end Go.Proofs.YtkpnflgnhhfjoaaDoor

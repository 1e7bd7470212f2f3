/- Layer 9: Root, Room, Free: what needs no disk. -/
import Derived.Test.YtkpnflgnhhfjoaaDoorZ26
namespace Go.Proofs.YtkpnflgnhhfjoaaDoor
open Go.RowKit Go.Maps
open Fr.Frame (be val)

theorem eN27 : EntersF 27 := Go.Proofs.enters_of Tryd.func27 (by kernel_rfl) rfl
theorem eN28 : EntersF 28 := Go.Proofs.enters_of Tryd.func28 (by kernel_rfl) rfl
theorem eN29 : EntersF 29 := Go.Proofs.enters_of Tryd.func29 (by kernel_rfl) rfl
theorem eN15 : EntersF 15 := Go.Proofs.enters_of Tryd.func15 (by kernel_rfl) rfl
theorem eN17 : EntersF 17 := Go.Proofs.enters_of Tryd.func17 (by kernel_rfl) rfl
theorem eN19 : EntersF 19 := Go.Proofs.enters_of Tryd.func19 (by kernel_rfl) rfl
/-- a pager at block gp -/
structure Pg (w : World) (gp g i n : Nat) (L : Hd) (U : List Nat) : Prop where
  row : Row w gp 86 (pgCells g i n L U)
  wf : L.WF
  us : USet U
theorem Pg.later {w w' : World} {gp g i n : Nat} {L : Hd} {U : List Nat} (h : Pg w gp g i n L U) (hb : Below w.heap.size w w') : Pg w' gp g i n L U := ⟨h.row.later hb h.row.lt, h.wf, h.us⟩
theorem Pg.head {w : World} {gp g i n : Nat} {L : Hd} {U : List Nat} (h : Pg w gp g i n L U) (j : Nat) (v : Value) (hv : (hdCells L)[j]? = some v) : w.cell? ⟨gp, 3 + j, none⟩ = some v := h.row.at _ _ (pg_head j v hv)
theorem Pg.used {w : World} {gp g i n : Nat} {L : Hd} {U : List Nat} (h : Pg w gp g i n L U) (j : Nat) (v : Value) (hv : (bcells U)[j]? = some v) : w.cell? ⟨gp, 53 + j, none⟩ = some v := h.row.at _ _ (pg_used h.wf j v hv)
theorem Pg.lastU {w : World} {gp g i n : Nat} {L : Hd} {U : List Nat} (h : Pg w gp g i n L U) (j : Nat) (v : Value) (hv : (bcells L.used)[j]? = some v) : w.cell? ⟨gp, 3 + 2 + j, none⟩ = some v := by
  rw [Nat.add_assoc]
  exact h.head (2 + j) v (hd_used j v hv)
/-- is this page neither in use nor committed? -/
def freeP (L : Hd) (U : List Nat) (p : Int) : Bool := !hasP U p && !hasP L.used p
def roomTo (L : Hd) (U : List Nat) : Nat → Nat
  | 0 => 0
  | k + 1 => roomTo L U k + if freeP L U (k : Int) then 1 else 0
theorem roomTo_le (L : Hd) (U : List Nat) : ∀ k, roomTo L U k ≤ k := by
  intro k
  induction k with
  | zero => exact Nat.le_refl _
  | succ k ih => unfold roomTo; split <;> omega
/-- the least free page from k on -/
def leastFrom (L : Hd) (U : List Nat) (n : Nat) : Nat → Nat → Option Nat
  | 0, _ => none
  | f + 1, k => if k < n then (if freeP L U (k : Int) then some k else leastFrom L U n f (k + 1)) else none
def leastP (L : Hd) (U : List Nat) (n : Nat) : Option Nat := leastFrom L U n (n + 1) 0
theorem leastFrom_some (L : Hd) (U : List Nat) (n : Nat) : ∀ f k p, leastFrom L U n f k = some p → p < n ∧ freeP L U (p : Int) = true := by
  intro f
  induction f with
  | zero => intro k p h; cases h
  | succ f ih =>
    intro k p h
    unfold leastFrom at h
    split at h
    · split at h
      · rename_i h1 h2
        injection h with h
        subst h
        exact ⟨h1, h2⟩
      · exact ih _ _ h
    · cases h
theorem leastP_some {L : Hd} {U : List Nat} {n p : Nat} (h : leastP L U n = some p) : p < n ∧ freeP L U (p : Int) = true := leastFrom_some L U n _ _ p h
set_option maxHeartbeats 4000000 in
set_option maxRecDepth 100000 in
theorem root_any {w : World} {gp g i n : Nat} {L : Hd} {U : List Nat} (h : Pg w gp g i n L U) : Calls Tryd.prog 27 #[ptr gp] w fun e w' => e = .returned (.int .i64 L.root) ∧ w = w' := by
  have HP : Hid (Pg w gp g i n L U) := h
  obtain ⟨PQ, hPQ⟩ : ∃ PQ : Ending → World → Prop, PQ = fun (e : Ending) (w' : World) => e = .returned (.int .i64 L.root) ∧ w = w' := ⟨_, rfl⟩
  have HPQ : Hid (PQ = fun (e : Ending) (w' : World) => e = .returned (.int .i64 L.root) ∧ w = w') := hPQ
  rw [← hPQ]
  clear hPQ h
  go_enter Tryd.func27, Tryd.ntmps27
  go_upto_region 0 with fail
  refine wp_region_lit ?_
  refine wl rfl (.int .i64 0) _ (run_asZ (.const (.int .i64 0)) rfl (.int .i64 0) rfl) ?_
  simp only [Act.put, aS, aC, aZ]
  refine wpList_nil ?_
  go_upto_region 1 with fail
  refine wp_region_lit ?_
  refine wl rfl (ptr gp) _ (run_mvZ (.tmp 0) rfl (ptr gp) rfl) ?_
  simp only [Act.put, aS, aC, aZ]
  refine wl rfl (ptr gp) _ (run_nil (.tmp 3) rfl ⟨gp, 0, none⟩ rfl) ?_
  simp only [Act.put, aS, aC, aZ]
  refine wl rfl (.pointer (some ⟨gp, 0 + 3, none⟩)) _ (run_fieldOp' f86_3 (.tmp 4) rfl gp (0) rfl) ?_
  simp only [Act.put, aS, aC, aZ]
  refine wl rfl (.pointer (some ⟨gp, 0 + 3 + 1, none⟩)) _ (run_fieldOp' f78_1 (.tmp 5) rfl gp (0 + 3) rfl) ?_
  simp only [Act.put, aS, aC, aZ]
  refine wl rfl (.int .i64 L.root) _ (run_load1 o3 (.tmp 6) rfl gp (0 + 3 + 1) rfl (.int .i64 L.root) (HP.out.head 1 _ rfl)) ?_
  simp only [Act.put, aS, aC, aZ]
  refine wl rfl (.int .i64 L.root) _ (run_asZ (.tmp 7) rfl (.int .i64 L.root) rfl) ?_
  simp only [Act.put, aS, aC, aZ]
  refine wpList_nil ?_
  go_wp2_with fail
  rw [HPQ.out]
  exact ⟨rfl, rfl⟩
set_option maxHeartbeats 4000000 in
set_option maxRecDepth 100000 in
theorem isFree_any {w : World} {gp g i n : Nat} {L : Hd} {U : List Nat} (h : Pg w gp g i n L U) (p : Int) : Calls Tryd.prog 56 #[ptr gp, .int .i64 p] w fun e w' => e = .returned (.bool (freeP L U p)) ∧ Below w.heap.size w w' := by
  have HP : Hid (Pg w gp g i n L U) := h
  obtain ⟨r, hr⟩ : ∃ r, r = freeP L U p := ⟨_, rfl⟩
  obtain ⟨b1, hb1⟩ : ∃ b1, b1 = hasP U p := ⟨_, rfl⟩
  obtain ⟨b2, hb2⟩ : ∃ b2, b2 = hasP L.used p := ⟨_, rfl⟩
  have HR : Hid (r = (!b1 && !b2)) := by show _ = _; rw [hr, hb1, hb2]; rfl
  have HU : Hid (∀ W, Calls Tryd.prog 45 #[.agg (bcells U).toArray, .int .i64 p] W fun e w' => e = .returned (.bool b1) ∧ Below W.heap.size W w') := fun W => by rw [hb1]; exact has_any W U h.us p
  have HL : Hid (∀ W, Calls Tryd.prog 45 #[.agg (bcells L.used).toArray, .int .i64 p] W fun e w' => e = .returned (.bool b2) ∧ Below W.heap.size W w') := fun W => by rw [hb2]; exact has_any W L.used h.wf.used p
  obtain ⟨PQ, hPQ⟩ : ∃ PQ : Ending → World → Prop, PQ = fun (e : Ending) (w' : World) => e = .returned (.bool r) ∧ Below w.heap.size w w' := ⟨_, rfl⟩
  have HPQ : Hid (PQ = fun (e : Ending) (w' : World) => e = .returned (.bool r) ∧ Below w.heap.size w w') := hPQ
  rw [← hr, ← hPQ]
  clear hPQ h hr hb1 hb2
  go_enter Tryd.func56, Tryd.ntmps56
  go_upto_region 0 with fail
  refine wp_region_lit ?_
  refine wl_as (.const (.bool false)) rfl rfl (.bool false) rfl ?_
  simp only [Act.put, aS, aC, aZ]
  refine wpList_nil ?_
  go_upto_region 1 with fail
  cases b1 with
  | true =>
    refine wp_region_lit ?_
    refine wl rfl (ptr gp) _ (run_mvZ (.tmp 0) rfl (ptr gp) rfl) ?_
    simp only [Act.put, aS, aC, aZ]
    refine wl rfl (ptr gp) _ (run_nil (.tmp 5) rfl ⟨gp, 0, none⟩ rfl) ?_
    simp only [Act.put, aS, aC, aZ]
    refine wl rfl (.pointer (some ⟨gp, 0 + 53, none⟩)) _ (run_fieldOp' f86_4 (.tmp 6) rfl gp (0) rfl) ?_
    simp only [Act.put, aS, aC, aZ]
    refine wl rfl (.agg (bcells U).toArray) _ (run_loadA ag76 (.tmp 7) rfl gp (0 + 53) rfl (bcells U) (by rw [bcells_length]; exact HP.out.us.1) (fun j v hv => by rw [Nat.zero_add]; exact HP.out.used j v hv)) ?_
    simp only [Act.put, aS, aC, aZ]
    refine wl rfl (.int .i64 p) _ (run_mvZ (.tmp 1) rfl (.int .i64 p) rfl) ?_
    simp only [Act.put, aS, aC, aZ]
    refine wpList_callW eN45 [.tmp 8, .tmp 9] _ rfl rfl [(.agg (bcells U).toArray), (.int .i64 p)] rfl ?_
    refine (HU.out w).mono ?_
    rintro e w1 ⟨rfl, q1⟩
    refine ⟨_, rfl, ?_⟩
    have RB : Hid (Below w.heap.size w w1) := q1
    clear q1
    simp only [Act.put, aS, aC, aZ]
    refine wl rfl (.bool false) _ (run_not (.tmp 10) 4 rfl true rfl) ?_
    simp only [Act.put, aS, aC, aZ]
    refine wl rfl (.bool false) _ (run_mvZ (.tmp 11) rfl (.bool false) rfl) ?_
    simp only [Act.put, aS, aC, aZ]
    refine wpList_skip (by kernel_rfl) ?_
    simp only [Act.put, aS, aC, aZ]
    refine wpList_skip (by kernel_rfl) ?_
    simp only [Act.put, aS, aC, aZ]
    refine wpList_skip (by kernel_rfl) ?_
    simp only [Act.put, aS, aC, aZ]
    refine wpList_skip (by kernel_rfl) ?_
    simp only [Act.put, aS, aC, aZ]
    refine wpList_skip (by kernel_rfl) ?_
    simp only [Act.put, aS, aC, aZ]
    refine wpList_skip (by kernel_rfl) ?_
    simp only [Act.put, aS, aC, aZ]
    refine wpList_skip (by kernel_rfl) ?_
    simp only [Act.put, aS, aC, aZ]
    refine wpList_skip (by kernel_rfl) ?_
    simp only [Act.put, aS, aC, aZ]
    refine wl rfl (.bool false) _ (run_pickZ (.tmp 12) (.tmp 20) (.const (.bool false)) rfl false (.bool false) rfl rfl) ?_
    simp only [Act.put, aS, aC, aZ]
    refine wl rfl (.bool false) _ (run_asZ (.tmp 21) rfl (.bool false) rfl) ?_
    simp only [Act.put, aS, aC, aZ]
    refine wpList_nil ?_
    go_wp2_with fail
    rw [HPQ.out]
    exact ⟨by rw [HR.out]; rfl, RB.out⟩
  | false =>
    refine wp_region_lit ?_
    refine wl rfl (ptr gp) _ (run_mvZ (.tmp 0) rfl (ptr gp) rfl) ?_
    simp only [Act.put, aS, aC, aZ]
    refine wl rfl (ptr gp) _ (run_nil (.tmp 5) rfl ⟨gp, 0, none⟩ rfl) ?_
    simp only [Act.put, aS, aC, aZ]
    refine wl rfl (.pointer (some ⟨gp, 0 + 53, none⟩)) _ (run_fieldOp' f86_4 (.tmp 6) rfl gp (0) rfl) ?_
    simp only [Act.put, aS, aC, aZ]
    refine wl rfl (.agg (bcells U).toArray) _ (run_loadA ag76 (.tmp 7) rfl gp (0 + 53) rfl (bcells U) (by rw [bcells_length]; exact HP.out.us.1) (fun j v hv => by rw [Nat.zero_add]; exact HP.out.used j v hv)) ?_
    simp only [Act.put, aS, aC, aZ]
    refine wl rfl (.int .i64 p) _ (run_mvZ (.tmp 1) rfl (.int .i64 p) rfl) ?_
    simp only [Act.put, aS, aC, aZ]
    refine wpList_callW eN45 [.tmp 8, .tmp 9] _ rfl rfl [(.agg (bcells U).toArray), (.int .i64 p)] rfl ?_
    refine (HU.out w).mono ?_
    rintro e w1 ⟨rfl, q1⟩
    refine ⟨_, rfl, ?_⟩
    have RB : Hid (Below w.heap.size w w1) := q1
    clear q1
    simp only [Act.put, aS, aC, aZ]
    refine wl rfl (.bool true) _ (run_not (.tmp 10) 4 rfl false rfl) ?_
    simp only [Act.put, aS, aC, aZ]
    refine wl rfl (.bool true) _ (run_mvZ (.tmp 11) rfl (.bool true) rfl) ?_
    simp only [Act.put, aS, aC, aZ]
    refine wl (by kernel_rfl) (ptr gp) _ (run_mvZ (.tmp 0) rfl (ptr gp) rfl) ?_
    simp only [Act.put, aS, aC, aZ]
    refine wl (by kernel_rfl) (ptr gp) _ (run_nil (.tmp 13) rfl ⟨gp, 0, none⟩ rfl) ?_
    simp only [Act.put, aS, aC, aZ]
    refine wl (by kernel_rfl) (.pointer (some ⟨gp, 0 + 3, none⟩)) _ (run_fieldOp' f86_3 (.tmp 14) rfl gp (0) rfl) ?_
    simp only [Act.put, aS, aC, aZ]
    refine wl (by kernel_rfl) (.pointer (some ⟨gp, 0 + 3 + 2, none⟩)) _ (run_fieldOp' f78_2 (.tmp 15) rfl gp (0 + 3) rfl) ?_
    simp only [Act.put, aS, aC, aZ]
    refine wl (by kernel_rfl) (.agg (bcells L.used).toArray) _ (run_loadA ag76 (.tmp 16) rfl gp (0 + 3 + 2) rfl (bcells L.used) (by rw [bcells_length]; exact HP.out.wf.used.1) (fun j v hv => by rw [Nat.zero_add]; exact (HP.out.later RB.out).lastU j v hv)) ?_
    simp only [Act.put, aS, aC, aZ]
    refine wl (by kernel_rfl) (.int .i64 p) _ (run_mvZ (.tmp 1) rfl (.int .i64 p) rfl) ?_
    simp only [Act.put, aS, aC, aZ]
    refine wpList_callW eN45 [.tmp 17, .tmp 18] _ rfl rfl [(.agg (bcells L.used).toArray), (.int .i64 p)] rfl ?_
    refine (HL.out w1).mono ?_
    rintro e w2 ⟨rfl, q2⟩
    refine ⟨_, rfl, ?_⟩
    have RC : Hid (Below w.heap.size w w2) := RB.out.trans (q2.mono RB.out.size)
    clear q2
    simp only [Act.put, aS, aC, aZ]
    refine wl (by kernel_rfl) (.bool (!b2)) _ (run_not (.tmp 19) 4 rfl b2 rfl) ?_
    simp only [Act.put, aS, aC, aZ]
    refine wl rfl (.bool (!b2)) _ (run_pickZ (.tmp 12) (.tmp 20) (.const (.bool false)) rfl true (.bool (!b2)) rfl rfl) ?_
    simp only [Act.put, aS, aC, aZ]
    refine wl rfl (.bool (!b2)) _ (run_asZ (.tmp 21) rfl (.bool (!b2)) rfl) ?_
    simp only [Act.put, aS, aC, aZ]
    refine wpList_nil ?_
    go_wp2_with fail
    rw [HPQ.out]
    exact ⟨by rw [HR.out]; rfl, RC.out⟩
set_option maxHeartbeats 4000000 in
set_option maxRecDepth 100000 in
theorem room_any {w : World} {gp g i n : Nat} {L : Hd} {U : List Nat} (h : Pg w gp g i n L U) (hn : n ≤ 384) : Calls Tryd.prog 29 #[ptr gp] w fun e w' => e = .returned (.int .i64 (roomTo L U n : Nat)) ∧ Below w.heap.size w w' := by
  have HP : Hid (Pg w gp g i n L U) := h
  obtain ⟨r, hr⟩ : ∃ r, r = roomTo L U n := ⟨_, rfl⟩
  have HR : Hid (r = roomTo L U n) := hr
  have HF : Hid (∀ W p, Below w.heap.size w W → Calls Tryd.prog 56 #[ptr gp, .int .i64 p] W fun e w' => e = .returned (.bool (freeP L U p)) ∧ Below W.heap.size W w') := fun W p hW => isFree_any (h.later hW) p
  obtain ⟨PQ, hPQ⟩ : ∃ PQ : Ending → World → Prop, PQ = fun (e : Ending) (w' : World) => e = .returned (.int .i64 (r : Nat)) ∧ Below w.heap.size w w' := ⟨_, rfl⟩
  have HPQ : Hid (PQ = fun (e : Ending) (w' : World) => e = .returned (.int .i64 (r : Nat)) ∧ Below w.heap.size w w') := hPQ
  rw [← hr, ← hPQ]
  clear hPQ h hr
  go_enter Tryd.func29, Tryd.ntmps29
  go_upto_region 0 with fail
  refine wp_region_lit ?_
  refine wl rfl (.int .i64 0) _ (run_asZ (.const (.int .i64 0)) rfl (.int .i64 0) rfl) ?_
  simp only [Act.put, aS, aC, aZ]
  refine wpList_nil ?_
  go_upto_region 1 with fail
  refine wp_region_lit ?_
  refine wl rfl (.int .i64 0) _ (run_asZ (.const (.int .i64 0)) rfl (.int .i64 0) rfl) ?_
  simp only [Act.put, aS, aC, aZ]
  refine wpList_nil ?_
  go_upto_region 2 with fail
  refine wp_region_lit ?_
  refine wl rfl (ptr gp) _ (run_mvZ (.tmp 0) rfl (ptr gp) rfl) ?_
  simp only [Act.put, aS, aC, aZ]
  refine wl rfl (ptr gp) _ (run_nil (.tmp 5) rfl ⟨gp, 0, none⟩ rfl) ?_
  simp only [Act.put, aS, aC, aZ]
  refine wl rfl (.pointer (some ⟨gp, 0 + 2, none⟩)) _ (run_fieldOp' f86_2 (.tmp 6) rfl gp (0) rfl) ?_
  simp only [Act.put, aS, aC, aZ]
  refine wl rfl (.int .i64 (n : Nat)) _ (run_load1 o3 (.tmp 7) rfl gp (0 + 2) rfl (.int .i64 (n : Nat)) (HP.out.row.at 2 _ rfl)) ?_
  simp only [Act.put, aS, aC, aZ]
  refine wl rfl (.int .i64 0) _ (run_mvZ (.const (.int .i64 0)) rfl (.int .i64 0) rfl) ?_
  simp only [Act.put, aS, aC, aZ]
  refine wpList_nil ?_
  go_wp2_with fail
  go_loopw [3, 9] (fun vs vk W => ∃ k : Nat, vk = .int .i64 (k : Nat) ∧ vs = .int .i64 ((roomTo L U k : Nat) : Int) ∧ k ≤ n ∧ Below w.heap.size w W) (fun _ vk _ => n - (intOf vk).toNat)
  case atStart => exact ⟨0, rfl, rfl, Nat.zero_le _, Below.refl _ w⟩
  case round =>
    obtain ⟨k, rfl, rfl, hk, hB⟩ := hrel
    have RB : Hid (Below w.heap.size w wr) := hB
    clear hB
    obtain ⟨s, hs⟩ : ∃ s, s = roomTo L U k := ⟨_, rfl⟩
    have HS : Hid (s = roomTo L U k) := hs
    have hsk : s ≤ k := by rw [hs]; exact roomTo_le L U k
    rw [← hs]
    clear hs
    by_cases hlt : k < n
    · have t1 : decide ((k : Int) < (n : Int)) = true := decide_eq_true (by omega)
      obtain ⟨b, hb⟩ : ∃ b, b = freeP L U (k : Int) := ⟨_, rfl⟩
      have HB : Hid (b = freeP L U (k : Int)) := hb
      have HFK : Hid (Calls Tryd.prog 56 #[ptr gp, .int .i64 (k : Nat)] wr fun e w' => e = .returned (.bool b) ∧ Below wr.heap.size wr w') := by rw [hb]; exact HF.out wr (k : Nat) RB.out
      clear hb
      go_upto_region 5 with fail
      refine wp_region_lit ?_
      refine wl rfl (ptr gp) _ (run_mvZ (.tmp 0) rfl (ptr gp) rfl) ?_
      simp only [Act.put, aS, aC, aZ]
      refine wl rfl (.int .i64 (k : Nat)) _ (run_mvZ (.tmp 4) rfl (.int .i64 (k : Nat)) rfl) ?_
      simp only [Act.put, aS, aC, aZ]
      refine wpList_callW eN56 [.tmp 12, .tmp 13] _ rfl rfl [(ptr gp), (.int .i64 (k : Nat))] rfl ?_
      refine (HFK.out).mono ?_
      rintro e w2 ⟨rfl, q2⟩
      refine ⟨_, rfl, ?_⟩
      have RC : Hid (Below w.heap.size w w2) := RB.out.trans (q2.mono RB.out.size)
      clear q2 RB HFK
      simp only [Act.put, aS, aC, aZ]
      refine wpList_nil ?_
      cases b with
      | true =>
        go_wp2_with fail
        refine ⟨⟨k + 1, by go_num, ?_, by omega, RC.out⟩, ?_⟩
        · unfold roomTo
          rw [← HB.out, ← HS.out]
          go_num
        · simp [intOf]; omega
      | false =>
        go_wp2_with fail
        refine ⟨⟨k + 1, by go_num, ?_, by omega, RC.out⟩, ?_⟩
        · unfold roomTo
          rw [← HB.out, ← HS.out]
          go_num
        · simp [intOf]; omega
    · have t1 : decide ((k : Int) < (n : Int)) = false := decide_eq_false (by omega)
      have ek : k = n := by omega
      have er : s = r := by rw [HS.out, HR.out, ek]
      subst er
      clear ek
      go_wp2_with fail
      rw [HPQ.out]
      exact ⟨rfl, RB.out⟩
set_option maxHeartbeats 4000000 in
set_option maxRecDepth 100000 in
theorem least_any {w : World} {gp g i n : Nat} {L : Hd} {U : List Nat} (h : Pg w gp g i n L U) (hn : n ≤ 384) : Calls Tryd.prog 41 #[ptr gp] w fun e w' => e = .returned (.tuple #[.int .i64 (((leastP L U n).getD 0 : Nat) : Int), .bool (leastP L U n).isSome]) ∧ Below w.heap.size w w' := by
  have HP : Hid (Pg w gp g i n L U) := h
  obtain ⟨r, hr⟩ : ∃ r, r = leastP L U n := ⟨_, rfl⟩
  have HR : Hid (r = leastP L U n) := hr
  have HF : Hid (∀ W p, Below w.heap.size w W → Calls Tryd.prog 56 #[ptr gp, .int .i64 p] W fun e w' => e = .returned (.bool (freeP L U p)) ∧ Below W.heap.size W w') := fun W p hW => isFree_any (h.later hW) p
  obtain ⟨PQ, hPQ⟩ : ∃ PQ : Ending → World → Prop, PQ = fun (e : Ending) (w' : World) => e = .returned (.tuple #[.int .i64 ((r.getD 0 : Nat) : Int), .bool r.isSome]) ∧ Below w.heap.size w w' := ⟨_, rfl⟩
  have HPQ : Hid (PQ = fun (e : Ending) (w' : World) => e = .returned (.tuple #[.int .i64 ((r.getD 0 : Nat) : Int), .bool r.isSome]) ∧ Below w.heap.size w w') := hPQ
  rw [← hr, ← hPQ]
  clear hPQ h hr
  go_enter Tryd.func41, Tryd.ntmps41
  go_upto_region 0 with fail
  refine wp_region_lit ?_
  refine wl rfl (.int .i64 0) _ (run_asZ (.const (.int .i64 0)) rfl (.int .i64 0) rfl) ?_
  simp only [Act.put, aS, aC, aZ]
  refine wl rfl (.bool false) _ (run_asZ (.const (.bool false)) rfl (.bool false) rfl) ?_
  simp only [Act.put, aS, aC, aZ]
  refine wpList_nil ?_
  go_upto_region 1 with fail
  refine wp_region_lit ?_
  refine wl rfl (ptr gp) _ (run_mvZ (.tmp 0) rfl (ptr gp) rfl) ?_
  simp only [Act.put, aS, aC, aZ]
  refine wl rfl (ptr gp) _ (run_nil (.tmp 5) rfl ⟨gp, 0, none⟩ rfl) ?_
  simp only [Act.put, aS, aC, aZ]
  refine wl rfl (.pointer (some ⟨gp, 0 + 2, none⟩)) _ (run_fieldOp' f86_2 (.tmp 6) rfl gp (0) rfl) ?_
  simp only [Act.put, aS, aC, aZ]
  refine wl rfl (.int .i64 (n : Nat)) _ (run_load1 o3 (.tmp 7) rfl gp (0 + 2) rfl (.int .i64 (n : Nat)) (HP.out.row.at 2 _ rfl)) ?_
  simp only [Act.put, aS, aC, aZ]
  refine wl rfl (.int .i64 0) _ (run_mvZ (.const (.int .i64 0)) rfl (.int .i64 0) rfl) ?_
  simp only [Act.put, aS, aC, aZ]
  refine wpList_nil ?_
  go_wp2_with fail
  go_loopw [9] (fun vk W => ∃ k : Nat, vk = .int .i64 (k : Nat) ∧ k ≤ n ∧ r = leastFrom L U n (n + 1 - k) k ∧ Below w.heap.size w W) (fun vk _ => n - (intOf vk).toNat)
  case atStart => exact ⟨0, rfl, Nat.zero_le _, HR.out, Below.refl _ w⟩
  case round =>
    obtain ⟨k, rfl, hk, hrk, hB⟩ := hrel
    have RB : Hid (Below w.heap.size w wr ∧ r = leastFrom L U n (n + 1 - k) k) := ⟨hB, hrk⟩
    clear hB hrk
    by_cases hlt : k < n
    · have t1 : decide ((k : Int) < (n : Int)) = true := decide_eq_true (by omega)
      obtain ⟨b, hb⟩ : ∃ b, b = freeP L U (k : Int) := ⟨_, rfl⟩
      have HB : Hid (r = if b then some k else leastFrom L U n (n + 1 - (k + 1)) (k + 1)) := by
        show r = _
        rw [RB.out.2, hb, show n + 1 - k = (n + 1 - (k + 1)) + 1 by omega]
        exact if_pos hlt
      have HFK : Hid (Calls Tryd.prog 56 #[ptr gp, .int .i64 (k : Nat)] wr fun e w' => e = .returned (.bool b) ∧ Below wr.heap.size wr w') := by rw [hb]; exact HF.out wr (k : Nat) RB.out.1
      clear hb
      go_upto_region 4 with fail
      refine wp_region_lit ?_
      refine wl rfl (ptr gp) _ (run_mvZ (.tmp 0) rfl (ptr gp) rfl) ?_
      simp only [Act.put, aS, aC, aZ]
      refine wl rfl (.int .i64 (k : Nat)) _ (run_mvZ (.tmp 4) rfl (.int .i64 (k : Nat)) rfl) ?_
      simp only [Act.put, aS, aC, aZ]
      refine wpList_callW eN56 [.tmp 12, .tmp 13] _ rfl rfl [(ptr gp), (.int .i64 (k : Nat))] rfl ?_
      refine (HFK.out).mono ?_
      rintro e w2 ⟨rfl, q2⟩
      refine ⟨_, rfl, ?_⟩
      have RC : Hid (Below w.heap.size w w2) := RB.out.1.trans (q2.mono RB.out.1.size)
      clear q2 RB HFK
      simp only [Act.put, aS, aC, aZ]
      refine wpList_nil ?_
      cases b with
      | true =>
        have er : r = some k := by rw [HB.out]; rfl
        subst er
        go_wp2_with fail
        rw [HPQ.out]
        exact ⟨rfl, RC.out⟩
      | false =>
        have HB2 : Hid (r = leastFrom L U n (n + 1 - (k + 1)) (k + 1)) := by show r = _; rw [HB.out]; rfl
        clear HB
        go_wp2_with fail
        refine ⟨⟨k + 1, by go_num, by omega, HB2.out, RC.out⟩, ?_⟩
        simp [intOf]; omega
    · have t1 : decide ((k : Int) < (n : Int)) = false := decide_eq_false (by omega)
      have er : r = none := by
        rw [RB.out.2, show n + 1 - k = (n - k) + 1 by omega]
        exact if_neg hlt
      subst er
      go_wp2_with fail
      rw [HPQ.out]
      exact ⟨rfl, RB.out.1⟩
end Go.Proofs.YtkpnflgnhhfjoaaDoor

/- For every rows of bytes, number, root and proof, if verify.Consistency holds the root as that of a beginning of the rows, it is the root of the first so many, or two unlike strings with one SHA-256 value are found on the way: the law VerifyBegins returns true and changes nothing that was there. Condition: the tables sha.start and sha.constants start as the program's text lays them (the card ties them). -/
import Derived.Test.YtjdmpanemdhbbaaDoorPush
import Derived.Test.YtjdmpanemdhbbaaDoorInclB
import Derived.Test.YtjdmpanemdhbbaaDoorVMath2
import Derived.Test.YtjdmpanemdhbbaaDoorShown
import Derived.Test.YtjdmpanemdhbbaaDoorParts
import Derived.Test.YtjdmpanemdhbbaaDoorOpenRows
namespace Go.Proofs.YtjdmpanemdhbbaaDoor
open Go.RowKit
section
variable {w : World} {ops : Array Oper} {rest : List Oper} {o : Oper} {a : Act} {Q : Exit → Act → World → Prop}
theorem wl_neg (x : Operand) (hgd : Region.wanted o (yielded ops a.tmps) = true) (ho : o.op = .unOp .neg 3 x) (K : Int) (hx : a.eval x = .int .i64 K) (M : Nat) (hK : -K = (M : Int)) (hM : M ≤ 9223372036854775807)
    (h : wpList Tryd.prog ops Q rest (a.put o.dst (.int .i64 (M : Nat))) w) : wpList Tryd.prog ops Q (o :: rest) a w := by
  refine wl hgd _ w ?_ h
  have e : IntKind.i64.wrap (-K) = (M : Int) := by
    rw [IntKind.wrap_i64]
    omega
  simp only [execOp, ho, hx]
  simp [go_sem, e]
theorem wl_rem (x y : Operand) (hgd : Region.wanted o (yielded ops a.tmps) = true) (ho : o.op = .binOp .rem 3 x y 3) (A B : Nat) (hx : a.eval x = .int .i64 (A : Nat)) (hy : a.eval y = .int .i64 (B : Nat)) (hB : 0 < B)
    (h : wpList Tryd.prog ops Q rest (a.put o.dst (.int .i64 ((A % B : Nat) : Int))) w) : wpList Tryd.prog ops Q (o :: rest) a w := by
  refine wl hgd _ w ?_ h
  have hB0 : ¬ B = 0 := by omega
  have e : (A : Int).tmod (B : Int) = (A : Int) % (B : Int) := Int.tmod_eq_emod_of_nonneg (by omega)
  simp only [execOp, ho, hx, hy]
  simp [go_sem, hB0, e]
end
theorem inclAns_nat (hs : List (List Nat)) (m : Nat) (h : m < hs.length) : inclAns hs m = Tree.incl hs m ∧ inclErr hs m = 0 := by
  unfold inclAns inclErr
  refine ⟨?_, if_pos (by omega)⟩
  rw [if_pos (by omega)]
  rfl
theorem consAns_nat (hs : List (List Nat)) (m : Nat) (h : m ≤ hs.length) (h1 : 1 ≤ m) : consAns hs m = Tree.part hs m true := by
  unfold consAns
  rw [if_pos (by omega)]
  rfl
theorem consErr_nat (hs : List (List Nat)) (m : Nat) (h : m ≤ hs.length) : consErr hs m = 0 := by
  unfold consErr
  rw [if_pos (by omega)]
theorem consOk_ans (hs : List (List Nat)) (m n : Nat) (hn : hs.length = n) (h : m ≤ n) : Tree.consOk m n (Tree.root (hs.take m)) (Tree.root hs) (consAns hs m) = true := by
  by_cases h0 : m = 0
  · subst h0
    have e : consAns hs (0 : Nat) = [] := by unfold consAns; rw [if_neg (by omega)]
    rw [e, List.take_zero]
    exact Tree.consOk_zero hs n hn
  · rw [consAns_nat hs m (by omega) (by omega), Tree.consOk_part hs m n hn h (by omega)]
    exact decide_eq_true rfl
theorem leafs_length (L : List (List Nat)) : (L.map Tree.leaf).length = L.length := List.length_map ..
end Go.Proofs.YtjdmpanemdhbbaaDoor
namespace Go.Proofs.YtjdmpanemdhbbaaDoor
open Go.RowKit

set_option maxHeartbeats 4000000 in
set_option maxRecDepth 100000 in
theorem blaw_i (v : Value) (L : List (List Nat)) (m : Int) (a : List Nat) (vr : Value) (w : World) (h : ListIn w v L) (hx : IsH a) (ht : TabIn w) (hst : StartIn w) (hLn : L.length * 24 ≤ 140737488351232) (hL : ∀ c ∈ L, c.length ≤ 140737488351232) (hN3 : 300 < L.length) :
    Calls Tryd.prog 8 #[v, .int .i64 m, hv a, vr] w fun e w' => e = .returned (.bool true) ∧ Below w.heap.size w w' := by
  obtain ⟨N, hN'⟩ : ∃ N, L.length = N := ⟨_, rfl⟩
  have HNL : Hid (L.length = N) := hN'
  have HL : Hid (∀ c ∈ L, c.length + 1024 ≤ 140737488355328) := fun c hc => by have := hL c hc; omega
  have HSZ : Hid (L.length * 24 ≤ 140737488355328) := by show _ ≤ _; omega
  have HX : Hid (IsH a) := hx
  obtain ⟨B, hB⟩ : ∃ B, B = w.heap.size := ⟨_, rfl⟩
  have HB : Hid (B = w.heap.size) := hB

  have HC : Hid (decide ((300 : Int) < ((N : Nat) : Int)) = true) := by show _ = _; rw [decide_eq_true (by omega)]
  clear hN3 hN' hx hB hLn hL
  go_enter Tryd.func8, Tryd.ntmps8
  go_wp2_with ((first
    | (refine wl_box (.tmp 2) rfl rfl a HX.out rfl ?_; rw [← HB.out]; intro w1 r1 s1 b1; have R1 : Hid (HIs w1 B a ∧ Below w.heap.size w w1) := ⟨r1, HB.out ▸ b1⟩; clear r1 s1 b1)
    | (go_at_call 9; refine (shown_any w1 (ht.later R1.out.2) (hst.later R1.out.2)).mono ?_; rintro e w2 ⟨rfl, b2⟩; have R2 : Hid (HIs w2 B a ∧ Below w.heap.size w w2) := ⟨R1.out.1.next b2, below_append R1.out.2 b2⟩; clear b2)
    | (go_at_call 15; refine (leavesF_any v L w2 (h.later R2.out.2) HSZ.out HL.out).mono ?_; rintro e w3 ⟨vl, rfl, o3, b3⟩; have R3 : Hid (HIs w3 B a ∧ Below w.heap.size w w3 ∧ HIn w3 vl (L.map Tree.leaf)) := ⟨R2.out.1.next b3, below_append R2.out.2 b3, o3.hin⟩; clear o3 b3)); try simp only [Act.put, List.setIfInBounds_toArray, List.set_cons_succ, List.set_cons_zero])
  have HN : Hid ((L.map Tree.leaf).length = N) := (leafs_length L).trans HNL.out
  generalize L.map Tree.leaf = hs at R3 HN
  refine wp_region_held (S := fun W => Below w3.heap.size w3 W) (by kernel_rfl) ?_
  show wpAnyH _ _ _ _ _ 14 (Array.replicate 14 false) _ _
  have hS : Below w3.heap.size w3 { w3 with drawn := w3.drawn + 1 } := below_drawn w3 _
  refine takeH (i := 0) (some 16) rfl rfl (by kernel_rfl) (by kernel_rfl) (by kernel_rfl) (fun _ _ _ h => h) (yMoveW rfl (.tmp 10) rfl (vl) rfl) hS ?_
  simp only [Act.put, List.setIfInBounds_toArray, List.set_cons_succ, List.set_cons_zero]
  refine takeH (i := 1) (some 17) rfl rfl (by kernel_rfl) (by kernel_rfl) (by kernel_rfl) (fun _ _ _ h => h) (yLen rfl (.tmp 16) rfl vl hs rfl _ (R3.out.2.2) N HN.out) hS ?_
  simp only [Act.put, List.setIfInBounds_toArray, List.set_cons_succ, List.set_cons_zero]
  refine takeH (i := 2) (some 18) rfl rfl (by kernel_rfl) (by kernel_rfl) (by kernel_rfl) (fun _ _ _ h => h) (yGtrI rfl (.tmp 17) (.const (.int .i64 300)) rfl ((N : Nat) : Int) 300 rfl rfl true HC.out) hS ?_
  simp only [Act.put, List.setIfInBounds_toArray, List.set_cons_succ, List.set_cons_zero]
  refine takeH (i := 3) (some 19) rfl rfl (by kernel_rfl) (by kernel_rfl) (by kernel_rfl) (fun _ _ _ h => h) (yMoveW rfl (.tmp 18) rfl (.bool true) rfl) hS ?_
  simp only [Act.put, List.setIfInBounds_toArray, List.set_cons_succ, List.set_cons_zero]
  refine takeH (i := 4) (some 20) rfl rfl (by kernel_rfl) (by kernel_rfl) (by kernel_rfl) (fun _ _ _ h => h) (yOff rfl) hS ?_
  simp only [Act.put, List.setIfInBounds_toArray, List.set_cons_succ, List.set_cons_zero]
  refine takeH (i := 5) (some 21) rfl rfl (by kernel_rfl) (by kernel_rfl) (by kernel_rfl) (fun _ _ _ h => h) (yOff rfl) hS ?_
  simp only [Act.put, List.setIfInBounds_toArray, List.set_cons_succ, List.set_cons_zero]
  refine takeH (i := 6) (some 22) rfl rfl (by kernel_rfl) (by kernel_rfl) (by kernel_rfl) (fun _ _ _ h => h) (yOff rfl) hS ?_
  simp only [Act.put, List.setIfInBounds_toArray, List.set_cons_succ, List.set_cons_zero]
  refine takeH (i := 7) (some 23) rfl rfl (by kernel_rfl) (by kernel_rfl) (by kernel_rfl) (fun _ _ _ h => h) (yOff rfl) hS ?_
  simp only [Act.put, List.setIfInBounds_toArray, List.set_cons_succ, List.set_cons_zero]
  refine takeH (i := 8) (some 24) rfl rfl (by kernel_rfl) (by kernel_rfl) (by kernel_rfl) (fun _ _ _ h => h) (yOff rfl) hS ?_
  simp only [Act.put, List.setIfInBounds_toArray, List.set_cons_succ, List.set_cons_zero]
  refine takeH (i := 9) (some 25) rfl rfl (by kernel_rfl) (by kernel_rfl) (by kernel_rfl) (fun _ _ _ h => h) (yOff rfl) hS ?_
  simp only [Act.put, List.setIfInBounds_toArray, List.set_cons_succ, List.set_cons_zero]
  refine takeH (i := 10) (some 26) rfl rfl (by kernel_rfl) (by kernel_rfl) (by kernel_rfl) (fun _ _ _ h => h) (yOff rfl) hS ?_
  simp only [Act.put, List.setIfInBounds_toArray, List.set_cons_succ, List.set_cons_zero]
  refine takeH (i := 11) (some 27) rfl rfl (by kernel_rfl) (by kernel_rfl) (by kernel_rfl) (fun _ _ _ h => h) (yOff rfl) hS ?_
  simp only [Act.put, List.setIfInBounds_toArray, List.set_cons_succ, List.set_cons_zero]
  refine takeH (i := 12) (some 28) rfl rfl (by kernel_rfl) (by kernel_rfl) (by kernel_rfl) (fun _ _ _ h => h) (yOff rfl) hS ?_
  simp only [Act.put, List.setIfInBounds_toArray, List.set_cons_succ, List.set_cons_zero]
  refine takeH (i := 13) (some 29) rfl rfl (by kernel_rfl) (by kernel_rfl) (by kernel_rfl) (fun _ _ _ h => h) (yPickW rfl (.tmp 19) (.const (.bool true)) _ rfl rfl (.bool true) rfl) hS ?_
  simp only [Act.put, List.setIfInBounds_toArray, List.set_cons_succ, List.set_cons_zero]
  refine wpAnyH_done (by kernel_rfl) ?_ _
  have HB9 : Hid (Below w.heap.size w _) := below_append R3.out.2.1 hS
  clear hS
  go_wp2_with fail
  go_ret
  exact ⟨rfl, HB9.out⟩
set_option maxHeartbeats 4000000 in
set_option maxRecDepth 100000 in
theorem blaw_ii (v : Value) (L : List (List Nat)) (m : Int) (a : List Nat) (vr : Value) (row : List (List Nat)) (w : World) (h : ListIn w v L) (hr : HIn w vr row) (hx : IsH a) (ht : TabIn w) (hst : StartIn w) (hLn : L.length * 24 ≤ 140737488351232) (hL : ∀ c ∈ L, c.length ≤ 140737488351232) (hN3 : L.length ≤ 300) (hok : Tree.consOk m (L.length : Nat) a (Tree.root (L.map Tree.leaf)) row = false) :
    Calls Tryd.prog 8 #[v, .int .i64 m, hv a, vr] w fun e w' => e = .returned (.bool true) ∧ Below w.heap.size w w' := by
  obtain ⟨N, hN'⟩ : ∃ N, L.length = N := ⟨_, rfl⟩
  have HNL : Hid (L.length = N) := hN'
  have HL : Hid (∀ c ∈ L, c.length + 1024 ≤ 140737488355328) := fun c hc => by have := hL c hc; omega
  have HSZ : Hid (L.length * 24 ≤ 140737488355328) := by show _ ≤ _; omega
  have HX : Hid (IsH a) := hx
  obtain ⟨B, hB⟩ : ∃ B, B = w.heap.size := ⟨_, rfl⟩
  have HB : Hid (B = w.heap.size) := hB

  have HC : Hid (decide ((300 : Int) < ((N : Nat) : Int)) = false) := by show _ = _; rw [decide_eq_false (by omega)]
  have hN300 : N ≤ 300 := by omega
  rw [hN'] at hok
  have HOK0 : Hid (Tree.consOk m (N : Nat) a (Tree.root (L.map Tree.leaf)) row = false) := hok
  clear hN3 hN' hx hB hLn hL hok
  go_enter Tryd.func8, Tryd.ntmps8
  go_wp2_with ((first
    | (refine wl_box (.tmp 2) rfl rfl a HX.out rfl ?_; rw [← HB.out]; intro w1 r1 s1 b1; have R1 : Hid (HIs w1 B a ∧ Below w.heap.size w w1) := ⟨r1, HB.out ▸ b1⟩; clear r1 s1 b1)
    | (go_at_call 9; refine (shown_any w1 (ht.later R1.out.2) (hst.later R1.out.2)).mono ?_; rintro e w2 ⟨rfl, b2⟩; have R2 : Hid (HIs w2 B a ∧ Below w.heap.size w w2) := ⟨R1.out.1.next b2, below_append R1.out.2 b2⟩; clear b2)
    | (go_at_call 15; refine (leavesF_any v L w2 (h.later R2.out.2) HSZ.out HL.out).mono ?_; rintro e w3 ⟨vl, rfl, o3, b3⟩; have R3 : Hid (HIs w3 B a ∧ Below w.heap.size w w3 ∧ HIn w3 vl (L.map Tree.leaf)) := ⟨R2.out.1.next b3, below_append R2.out.2 b3, o3.hin⟩; clear o3 b3)); try simp only [Act.put, List.setIfInBounds_toArray, List.set_cons_succ, List.set_cons_zero])
  have HN : Hid ((L.map Tree.leaf).length = N) := (leafs_length L).trans HNL.out
  have HOK := HOK0
  clear HOK0
  generalize L.map Tree.leaf = hs at R3 HN HOK
  refine wp_region_held (S := fun W => Below w3.heap.size w3 W) (by kernel_rfl) ?_
  show wpAnyH _ _ _ _ _ 14 (Array.replicate 14 false) _ _
  have hS : Below w3.heap.size w3 { w3 with drawn := w3.drawn + 1 } := below_drawn w3 _
  refine takeH (i := 0) (some 16) rfl rfl (by kernel_rfl) (by kernel_rfl) (by kernel_rfl) (fun _ _ _ h => h) (yMoveW rfl (.tmp 10) rfl (vl) rfl) hS ?_
  simp only [Act.put, List.setIfInBounds_toArray, List.set_cons_succ, List.set_cons_zero]
  refine takeH (i := 1) (some 17) rfl rfl (by kernel_rfl) (by kernel_rfl) (by kernel_rfl) (fun _ _ _ h => h) (yLen rfl (.tmp 16) rfl vl hs rfl _ (R3.out.2.2) N HN.out) hS ?_
  simp only [Act.put, List.setIfInBounds_toArray, List.set_cons_succ, List.set_cons_zero]
  refine takeH (i := 2) (some 18) rfl rfl (by kernel_rfl) (by kernel_rfl) (by kernel_rfl) (fun _ _ _ h => h) (yGtrI rfl (.tmp 17) (.const (.int .i64 300)) rfl ((N : Nat) : Int) 300 rfl rfl false HC.out) hS ?_
  simp only [Act.put, List.setIfInBounds_toArray, List.set_cons_succ, List.set_cons_zero]
  refine takeH (i := 3) (some 19) rfl rfl (by kernel_rfl) (by kernel_rfl) (by kernel_rfl) (fun _ _ _ h => h) (yMoveW rfl (.tmp 18) rfl (.bool false) rfl) hS ?_
  simp only [Act.put, List.setIfInBounds_toArray, List.set_cons_succ, List.set_cons_zero]
  refine takeH (i := 4) (some 20) rfl rfl (by kernel_rfl) (by kernel_rfl) (by kernel_rfl) (fun _ _ _ h => h) (yMoveW rfl (.tmp 1) rfl (.int .i64 m) rfl) hS ?_
  simp only [Act.put, List.setIfInBounds_toArray, List.set_cons_succ, List.set_cons_zero]
  refine takeH (i := 5) (some 21) rfl rfl (by kernel_rfl) (by kernel_rfl) (by kernel_rfl) (fun _ _ _ h => h) (yMoveW rfl (.tmp 10) rfl (vl) rfl) hS ?_
  simp only [Act.put, List.setIfInBounds_toArray, List.set_cons_succ, List.set_cons_zero]
  refine takeH (i := 6) (some 22) rfl rfl (by kernel_rfl) (by kernel_rfl) (by kernel_rfl) (fun _ _ _ h => h) (yLen rfl (.tmp 21) rfl vl hs rfl _ (R3.out.2.2) N HN.out) hS ?_
  simp only [Act.put, List.setIfInBounds_toArray, List.set_cons_succ, List.set_cons_zero]
  refine takeH (i := 7) (some 23) rfl rfl (by kernel_rfl) (by kernel_rfl) (by kernel_rfl) (fun _ _ _ h => h) (yRunW rfl (hv a) (fun W hW => rx_load (.tmp 6) rfl (.pointer (some ⟨B, 0, none⟩)) rfl a ((R3.out.1.next hW).at))) hS ?_
  simp only [Act.put, List.setIfInBounds_toArray, List.set_cons_succ, List.set_cons_zero]
  refine takeH (i := 8) (some 24) rfl rfl (by kernel_rfl) (by kernel_rfl) (by kernel_rfl) (fun _ _ _ h => h) (yMoveW rfl (.tmp 10) rfl (vl) rfl) hS ?_
  simp only [Act.put, List.setIfInBounds_toArray, List.set_cons_succ, List.set_cons_zero]
  refine takeH (i := 10) (some 26) rfl rfl (by kernel_rfl) (by kernel_rfl) (by kernel_rfl) (fun _ _ _ h => h) (yMoveW rfl (.tmp 3) rfl (vr) rfl) hS ?_
  simp only [Act.put, List.setIfInBounds_toArray, List.set_cons_succ, List.set_cons_zero]
  refine oneH (i := 9) (by kernel_rfl) ?_
  refine opCallW (some 25) rfl rfl rfl 19 _ (run_call en19' [.tmp 24] _ rfl [vl] rfl) ?_
  refine (refRoot_any N vl hs _ HN.out (by omega) (R3.out.2.2.later hS)).mono ?_
  rintro e x1 ⟨rfl, bb⟩
  have hS' : Below w3.heap.size w3 x1 := below_append hS bb
  refine ⟨_, rfl, hS', ?_⟩
  clear hS bb
  have hS := hS'
  clear hS'
  simp only [Act.put, List.setIfInBounds_toArray, List.set_cons_succ, List.set_cons_zero]
  refine oneH (i := 11) (by kernel_rfl) ?_
  refine opCallW (some 27) rfl rfl rfl 13 _ (run_call en13' [.tmp 20, .tmp 22, .tmp 23, .tmp 25, .tmp 26] _ rfl [.int .i64 m, .int .i64 (N : Nat), hv a, hv (Tree.root hs), vr] rfl) ?_
  refine (vcons_any a (Tree.root hs) m (N : Nat) vr row _ HX.out R3.out.2.2.all.root (hr.later (below_append R3.out.2.1 hS)) (ht.later (below_append R3.out.2.1 hS)) (hst.later (below_append R3.out.2.1 hS)) (by omega)).mono ?_
  rintro e x2 ⟨rfl, bb⟩
  rw [HOK.out]
  have hS' : Below w3.heap.size w3 x2 := below_append hS bb
  refine ⟨_, rfl, hS', ?_⟩
  clear hS bb
  have hS := hS'
  clear hS'
  simp only [Act.put, List.setIfInBounds_toArray, List.set_cons_succ, List.set_cons_zero]
  refine takeH (i := 12) (some 28) rfl rfl (by kernel_rfl) (by kernel_rfl) (by kernel_rfl) (fun _ _ _ h => h) (yNotW rfl (.tmp 27) rfl false rfl) hS ?_
  simp only [Act.put, List.setIfInBounds_toArray, List.set_cons_succ, List.set_cons_zero]
  refine takeH (i := 13) (some 29) rfl rfl (by kernel_rfl) (by kernel_rfl) (by kernel_rfl) (fun _ _ _ h => h) (yPickF rfl (.tmp 19) _ (.tmp 28) rfl rfl (.bool true) rfl) hS ?_
  simp only [Act.put, List.setIfInBounds_toArray, List.set_cons_succ, List.set_cons_zero]
  refine wpAnyH_done (by kernel_rfl) ?_ _
  have HB9 : Hid (Below w.heap.size w _) := below_append R3.out.2.1 hS
  clear hS
  go_wp2_with fail
  go_ret
  exact ⟨rfl, HB9.out⟩
set_option maxHeartbeats 8000000 in
set_option maxRecDepth 100000 in
theorem blaw_eq (v : Value) (L : List (List Nat)) (K : Nat) (a : List Nat) (vr : Value) (row : List (List Nat)) (w : World) (h : ListIn w v L) (hr : HIn w vr row) (hx : IsH a) (ht : TabIn w) (hst : StartIn w) (hLn : L.length ≤ 300) (hL : ∀ c ∈ L, c.length ≤ 140737488351232) (hK : K ≤ L.length) (hok : Tree.consOk (K : Nat) (L.length : Nat) a (Tree.root (L.map Tree.leaf)) row = true) (he : decide (a = Tree.root ((L.map Tree.leaf).take K)) = true) :
    Calls Tryd.prog 8 #[v, .int .i64 (K : Nat), hv a, vr] w fun e w' => e = .returned (.bool true) ∧ Below w.heap.size w w' := by
  obtain ⟨N, hN'⟩ : ∃ N, L.length = N := ⟨_, rfl⟩
  have HNL : Hid (L.length = N) := hN'
  have HL : Hid (∀ c ∈ L, c.length + 1024 ≤ 140737488355328) := fun c hc => by have := hL c hc; omega
  have HSZ : Hid (L.length * 24 ≤ 140737488355328) := by show _ ≤ _; omega
  have HX : Hid (IsH a) := hx
  obtain ⟨B, hB⟩ : ∃ B, B = w.heap.size := ⟨_, rfl⟩
  have HB : Hid (B = w.heap.size) := hB

  have HC : Hid (decide ((300 : Int) < ((N : Nat) : Int)) = false) := by show _ = _; rw [decide_eq_false (by omega)]
  have hN300 : N ≤ 300 := by omega
  rw [hN'] at hok hK
  have hm0 : ¬ (K : Int) < 0 := by omega
  have hmN : ¬ (N : Int) < (K : Int) := by omega
  have HOK0 : Hid (Tree.consOk (K : Nat) (N : Nat) a (Tree.root (L.map Tree.leaf)) row = true) := hok
  have HE0 : Hid (decide (a = Tree.root ((L.map Tree.leaf).take K)) = true) := he
  clear hN' hx hB hLn hL hok he
  go_enter Tryd.func8, Tryd.ntmps8
  go_wp2_with ((first
    | (refine wl_box (.tmp 2) rfl rfl a HX.out rfl ?_; rw [← HB.out]; intro w1 r1 s1 b1; have R1 : Hid (HIs w1 B a ∧ Below w.heap.size w w1) := ⟨r1, HB.out ▸ b1⟩; clear r1 s1 b1)
    | (go_at_call 9; refine (shown_any w1 (ht.later R1.out.2) (hst.later R1.out.2)).mono ?_; rintro e w2 ⟨rfl, b2⟩; have R2 : Hid (HIs w2 B a ∧ Below w.heap.size w w2) := ⟨R1.out.1.next b2, below_append R1.out.2 b2⟩; clear b2)
    | (go_at_call 15; refine (leavesF_any v L w2 (h.later R2.out.2) HSZ.out HL.out).mono ?_; rintro e w3 ⟨vl, rfl, o3, b3⟩; have R3 : Hid (HIs w3 B a ∧ Below w.heap.size w w3 ∧ HIn w3 vl (L.map Tree.leaf)) := ⟨R2.out.1.next b3, below_append R2.out.2 b3, o3.hin⟩; clear o3 b3)); try simp only [Act.put, List.setIfInBounds_toArray, List.set_cons_succ, List.set_cons_zero])
  have HN : Hid ((L.map Tree.leaf).length = N) := (leafs_length L).trans HNL.out
  have HOK := HOK0
  have HE := HE0
  clear HOK0 HE0
  generalize L.map Tree.leaf = hs at R3 HN HOK HE
  refine wp_region_held (S := fun W => Below w3.heap.size w3 W) (by kernel_rfl) ?_
  show wpAnyH _ _ _ _ _ 14 (Array.replicate 14 false) _ _
  have hS : Below w3.heap.size w3 { w3 with drawn := w3.drawn + 1 } := below_drawn w3 _
  refine takeH (i := 0) (some 16) rfl rfl (by kernel_rfl) (by kernel_rfl) (by kernel_rfl) (fun _ _ _ h => h) (yMoveW rfl (.tmp 10) rfl (vl) rfl) hS ?_
  simp only [Act.put, List.setIfInBounds_toArray, List.set_cons_succ, List.set_cons_zero]
  refine takeH (i := 1) (some 17) rfl rfl (by kernel_rfl) (by kernel_rfl) (by kernel_rfl) (fun _ _ _ h => h) (yLen rfl (.tmp 16) rfl vl hs rfl _ (R3.out.2.2) N HN.out) hS ?_
  simp only [Act.put, List.setIfInBounds_toArray, List.set_cons_succ, List.set_cons_zero]
  refine takeH (i := 2) (some 18) rfl rfl (by kernel_rfl) (by kernel_rfl) (by kernel_rfl) (fun _ _ _ h => h) (yGtrI rfl (.tmp 17) (.const (.int .i64 300)) rfl ((N : Nat) : Int) 300 rfl rfl false HC.out) hS ?_
  simp only [Act.put, List.setIfInBounds_toArray, List.set_cons_succ, List.set_cons_zero]
  refine takeH (i := 3) (some 19) rfl rfl (by kernel_rfl) (by kernel_rfl) (by kernel_rfl) (fun _ _ _ h => h) (yMoveW rfl (.tmp 18) rfl (.bool false) rfl) hS ?_
  simp only [Act.put, List.setIfInBounds_toArray, List.set_cons_succ, List.set_cons_zero]
  refine takeH (i := 4) (some 20) rfl rfl (by kernel_rfl) (by kernel_rfl) (by kernel_rfl) (fun _ _ _ h => h) (yMoveW rfl (.tmp 1) rfl (.int .i64 (K : Nat)) rfl) hS ?_
  simp only [Act.put, List.setIfInBounds_toArray, List.set_cons_succ, List.set_cons_zero]
  refine takeH (i := 5) (some 21) rfl rfl (by kernel_rfl) (by kernel_rfl) (by kernel_rfl) (fun _ _ _ h => h) (yMoveW rfl (.tmp 10) rfl (vl) rfl) hS ?_
  simp only [Act.put, List.setIfInBounds_toArray, List.set_cons_succ, List.set_cons_zero]
  refine takeH (i := 6) (some 22) rfl rfl (by kernel_rfl) (by kernel_rfl) (by kernel_rfl) (fun _ _ _ h => h) (yLen rfl (.tmp 21) rfl vl hs rfl _ (R3.out.2.2) N HN.out) hS ?_
  simp only [Act.put, List.setIfInBounds_toArray, List.set_cons_succ, List.set_cons_zero]
  refine takeH (i := 7) (some 23) rfl rfl (by kernel_rfl) (by kernel_rfl) (by kernel_rfl) (fun _ _ _ h => h) (yRunW rfl (hv a) (fun W hW => rx_load (.tmp 6) rfl (.pointer (some ⟨B, 0, none⟩)) rfl a ((R3.out.1.next hW).at))) hS ?_
  simp only [Act.put, List.setIfInBounds_toArray, List.set_cons_succ, List.set_cons_zero]
  refine takeH (i := 8) (some 24) rfl rfl (by kernel_rfl) (by kernel_rfl) (by kernel_rfl) (fun _ _ _ h => h) (yMoveW rfl (.tmp 10) rfl (vl) rfl) hS ?_
  simp only [Act.put, List.setIfInBounds_toArray, List.set_cons_succ, List.set_cons_zero]
  refine takeH (i := 10) (some 26) rfl rfl (by kernel_rfl) (by kernel_rfl) (by kernel_rfl) (fun _ _ _ h => h) (yMoveW rfl (.tmp 3) rfl (vr) rfl) hS ?_
  simp only [Act.put, List.setIfInBounds_toArray, List.set_cons_succ, List.set_cons_zero]
  refine oneH (i := 9) (by kernel_rfl) ?_
  refine opCallW (some 25) rfl rfl rfl 19 _ (run_call en19' [.tmp 24] _ rfl [vl] rfl) ?_
  refine (refRoot_any N vl hs _ HN.out (by omega) (R3.out.2.2.later hS)).mono ?_
  rintro e x1 ⟨rfl, bb⟩
  have hS' : Below w3.heap.size w3 x1 := below_append hS bb
  refine ⟨_, rfl, hS', ?_⟩
  clear hS bb
  have hS := hS'
  clear hS'
  simp only [Act.put, List.setIfInBounds_toArray, List.set_cons_succ, List.set_cons_zero]
  refine oneH (i := 11) (by kernel_rfl) ?_
  refine opCallW (some 27) rfl rfl rfl 13 _ (run_call en13' [.tmp 20, .tmp 22, .tmp 23, .tmp 25, .tmp 26] _ rfl [.int .i64 (K : Nat), .int .i64 (N : Nat), hv a, hv (Tree.root hs), vr] rfl) ?_
  refine (vcons_any a (Tree.root hs) (K : Nat) (N : Nat) vr row _ HX.out R3.out.2.2.all.root (hr.later (below_append R3.out.2.1 hS)) (ht.later (below_append R3.out.2.1 hS)) (hst.later (below_append R3.out.2.1 hS)) (by omega)).mono ?_
  rintro e x2 ⟨rfl, bb⟩
  rw [HOK.out]
  have hS' : Below w3.heap.size w3 x2 := below_append hS bb
  refine ⟨_, rfl, hS', ?_⟩
  clear hS bb
  have hS := hS'
  clear hS'
  simp only [Act.put, List.setIfInBounds_toArray, List.set_cons_succ, List.set_cons_zero]
  refine takeH (i := 12) (some 28) rfl rfl (by kernel_rfl) (by kernel_rfl) (by kernel_rfl) (fun _ _ _ h => h) (yNotW rfl (.tmp 27) rfl true rfl) hS ?_
  simp only [Act.put, List.setIfInBounds_toArray, List.set_cons_succ, List.set_cons_zero]
  refine takeH (i := 13) (some 29) rfl rfl (by kernel_rfl) (by kernel_rfl) (by kernel_rfl) (fun _ _ _ h => h) (yPickF rfl (.tmp 19) _ (.tmp 28) rfl rfl (.bool false) rfl) hS ?_
  simp only [Act.put, List.setIfInBounds_toArray, List.set_cons_succ, List.set_cons_zero]
  refine wpAnyH_done (by kernel_rfl) ?_ _
  have R7 : Hid (HIs x2 B a ∧ Below w.heap.size w x2 ∧ HIn x2 vl hs) := ⟨R3.out.1.next hS, below_append R3.out.2.1 hS, R3.out.2.2.later hS⟩
  clear hS
  go_wp2_with (first
    | (refine wl_lenN (.tmp 35) rfl rfl vl hs rfl R3.out.2.2 N HN.out ?_))
  obtain ⟨va, ra, sa⟩ := run_hto R7.out.2.2 K (by have := HN.out; omega)
  have HPA : Hid ((∀ w', (Instr.slice 24 vl none (some (.int .i64 (K : Nat))) none).run Tryd.prog w' = .ok va w') ∧ HIn x2 va (hs.take K) ∧ (hs.take K).length = K) := ⟨ra, sa, by rw [List.length_take]; have := HN.out; omega⟩
  clear ra sa
  refine wp_region_held (S := fun W => Below x2.heap.size x2 W) (by kernel_rfl) ?_
  show wpAnyH _ _ _ _ _ 17 (Array.replicate 17 false) _ _
  have hS : Below x2.heap.size x2 { x2 with drawn := x2.drawn + 1 } := below_drawn x2 _
  refine takeH (i := 0) (some 39) rfl rfl (by kernel_rfl) (by kernel_rfl) (by kernel_rfl) (fun _ _ _ h => h) (yMoveW rfl (.tmp 9) rfl (.bool true) rfl) hS ?_
  simp only [Act.put, List.setIfInBounds_toArray, List.set_cons_succ, List.set_cons_zero]
  refine takeH (i := 1) (some 40) rfl rfl (by kernel_rfl) (by kernel_rfl) (by kernel_rfl) (fun _ _ _ h => h) (yMoveW rfl (.tmp 39) rfl (.bool true) rfl) hS ?_
  simp only [Act.put, List.setIfInBounds_toArray, List.set_cons_succ, List.set_cons_zero]
  refine takeH (i := 2) (some 41) rfl rfl (by kernel_rfl) (by kernel_rfl) (by kernel_rfl) (fun _ _ _ h => h) (yRunW rfl (hv a) (fun W hW => rx_load (.tmp 6) rfl (.pointer (some ⟨B, 0, none⟩)) rfl a ((R7.out.1.next hW).at))) hS ?_
  simp only [Act.put, List.setIfInBounds_toArray, List.set_cons_succ, List.set_cons_zero]
  refine takeH (i := 3) (some 42) rfl rfl (by kernel_rfl) (by kernel_rfl) (by kernel_rfl) (fun _ _ _ h => h) (yMoveW rfl (.tmp 10) rfl (vl) rfl) hS ?_
  simp only [Act.put, List.setIfInBounds_toArray, List.set_cons_succ, List.set_cons_zero]
  refine takeH (i := 4) (some 43) rfl rfl (by kernel_rfl) (by kernel_rfl) (by kernel_rfl) (fun _ _ _ h => h) (yMoveW rfl (.tmp 1) rfl (.int .i64 (K : Nat)) rfl) hS ?_
  simp only [Act.put, List.setIfInBounds_toArray, List.set_cons_succ, List.set_cons_zero]
  refine takeH (i := 5) (some 44) rfl rfl (by kernel_rfl) (by kernel_rfl) (by kernel_rfl) (fun _ _ _ h => h) (yRunW rfl va (fun _ _ => rx_sub (.tmp 42) none (some (.tmp 43)) rfl vl va rfl HPA.out.1)) hS ?_
  simp only [Act.put, List.setIfInBounds_toArray, List.set_cons_succ, List.set_cons_zero]
  refine oneH (i := 6) (by kernel_rfl) ?_
  refine opCallW (some 45) rfl rfl rfl 19 _ (run_call en19' [.tmp 44] _ rfl [va] rfl) ?_
  refine (refRoot_any K va (hs.take K) _ HPA.out.2.2 (by omega) (HPA.out.2.1.later hS)).mono ?_
  rintro e y1 ⟨rfl, bb⟩
  have hS' : Below x2.heap.size x2 y1 := below_append hS bb
  refine ⟨_, rfl, hS', ?_⟩
  clear hS bb
  have hS := hS'
  clear hS'
  simp only [Act.put, List.setIfInBounds_toArray, List.set_cons_succ, List.set_cons_zero]
  refine takeH (i := 7) (some 46) rfl rfl (by kernel_rfl) (by kernel_rfl) (by kernel_rfl) (fun _ _ _ h => h) (yRunW rfl (.bool true) (fun _ _ => rx_eqB (.tmp 41) (.tmp 45) rfl a (Tree.root (hs.take K)) HX.out (HPA.out.2.1.all.root) rfl rfl true HE.out)) hS ?_
  simp only [Act.put, List.setIfInBounds_toArray, List.set_cons_succ, List.set_cons_zero]
  refine takeH (i := 8) (some 47) rfl rfl (by kernel_rfl) (by kernel_rfl) (by kernel_rfl) (fun _ _ _ h => h) (yMoveW rfl (.tmp 46) rfl (.bool true) rfl) hS ?_
  simp only [Act.put, List.setIfInBounds_toArray, List.set_cons_succ, List.set_cons_zero]
  refine takeH (i := 9) (some 48) rfl rfl (by kernel_rfl) (by kernel_rfl) (by kernel_rfl) (fun _ _ _ h => h) (yOff rfl) hS ?_
  simp only [Act.put, List.setIfInBounds_toArray, List.set_cons_succ, List.set_cons_zero]
  refine takeH (i := 10) (some 49) rfl rfl (by kernel_rfl) (by kernel_rfl) (by kernel_rfl) (fun _ _ _ h => h) (yOff rfl) hS ?_
  simp only [Act.put, List.setIfInBounds_toArray, List.set_cons_succ, List.set_cons_zero]
  refine takeH (i := 11) (some 50) rfl rfl (by kernel_rfl) (by kernel_rfl) (by kernel_rfl) (fun _ _ _ h => h) (yOff rfl) hS ?_
  simp only [Act.put, List.setIfInBounds_toArray, List.set_cons_succ, List.set_cons_zero]
  refine takeH (i := 12) (some 51) rfl rfl (by kernel_rfl) (by kernel_rfl) (by kernel_rfl) (fun _ _ _ h => h) (yOff rfl) hS ?_
  simp only [Act.put, List.setIfInBounds_toArray, List.set_cons_succ, List.set_cons_zero]
  refine takeH (i := 13) (some 52) rfl rfl (by kernel_rfl) (by kernel_rfl) (by kernel_rfl) (fun _ _ _ h => h) (yOff rfl) hS ?_
  simp only [Act.put, List.setIfInBounds_toArray, List.set_cons_succ, List.set_cons_zero]
  refine takeH (i := 14) (some 53) rfl rfl (by kernel_rfl) (by kernel_rfl) (by kernel_rfl) (fun _ _ _ h => h) (yPickW rfl (.tmp 47) (.const (.bool true)) _ rfl rfl (.bool true) rfl) hS ?_
  simp only [Act.put, List.setIfInBounds_toArray, List.set_cons_succ, List.set_cons_zero]
  refine takeH (i := 15) (some 54) rfl rfl (by kernel_rfl) (by kernel_rfl) (by kernel_rfl) (fun _ _ _ h => h) (yPickW rfl (.tmp 40) (.tmp 53) _ rfl rfl (.bool true) rfl) hS ?_
  simp only [Act.put, List.setIfInBounds_toArray, List.set_cons_succ, List.set_cons_zero]
  refine takeH (i := 16) (some 8) rfl rfl (by kernel_rfl) (by kernel_rfl) (by kernel_rfl) (fun _ _ _ h => h) (yAssign rfl (.tmp 54) rfl (.bool true) rfl) hS ?_
  simp only [Act.put, List.setIfInBounds_toArray, List.set_cons_succ, List.set_cons_zero]
  refine wpAnyH_done (by kernel_rfl) ?_ _
  have HB9 : Hid (Below w.heap.size w _) := below_append R7.out.2.1 hS
  clear hS
  go_wp2_with fail
  go_ret
  exact ⟨rfl, HB9.out⟩
set_option maxHeartbeats 8000000 in
set_option maxRecDepth 100000 in
theorem blaw_ne (v : Value) (L : List (List Nat)) (K : Nat) (a : List Nat) (vr : Value) (row : List (List Nat)) (w : World) (h : ListIn w v L) (hr : HIn w vr row) (hx : IsH a) (ht : TabIn w) (hst : StartIn w) (hLn : L.length ≤ 300) (hL : ∀ c ∈ L, c.length ≤ 140737488351232) (hK : K ≤ L.length) (hok : Tree.consOk (K : Nat) (L.length : Nat) a (Tree.root (L.map Tree.leaf)) row = true) (he : decide (a = Tree.root ((L.map Tree.leaf).take K)) = false) (hup : Tree.two K L.length a row true = some (a, Tree.root (L.map Tree.leaf))) (hK1 : 1 ≤ K) :
    Calls Tryd.prog 8 #[v, .int .i64 (K : Nat), hv a, vr] w fun e w' => e = .returned (.bool true) ∧ Below w.heap.size w w' := by
  obtain ⟨N, hN'⟩ : ∃ N, L.length = N := ⟨_, rfl⟩
  have HNL : Hid (L.length = N) := hN'
  have HL : Hid (∀ c ∈ L, c.length + 1024 ≤ 140737488355328) := fun c hc => by have := hL c hc; omega
  have HSZ : Hid (L.length * 24 ≤ 140737488355328) := by show _ ≤ _; omega
  have HX : Hid (IsH a) := hx
  obtain ⟨B, hB⟩ : ∃ B, B = w.heap.size := ⟨_, rfl⟩
  have HB : Hid (B = w.heap.size) := hB

  have HC : Hid (decide ((300 : Int) < ((N : Nat) : Int)) = false) := by show _ = _; rw [decide_eq_false (by omega)]
  have hN300 : N ≤ 300 := by omega
  rw [hN'] at hok hK hup
  have hm0 : ¬ (K : Int) < 0 := by omega
  have hmN : ¬ (N : Int) < (K : Int) := by omega
  have HOK0 : Hid (Tree.consOk (K : Nat) (N : Nat) a (Tree.root (L.map Tree.leaf)) row = true) := hok
  have HE0 : Hid (decide (a = Tree.root ((L.map Tree.leaf).take K)) = false) := he
  have HU0 : Hid (Tree.two K N a row true = some (a, Tree.root (L.map Tree.leaf))) := hup
  clear hN' hx hB hLn hL hok he hup
  go_enter Tryd.func8, Tryd.ntmps8
  go_wp2_with ((first
    | (refine wl_box (.tmp 2) rfl rfl a HX.out rfl ?_; rw [← HB.out]; intro w1 r1 s1 b1; have R1 : Hid (HIs w1 B a ∧ Below w.heap.size w w1) := ⟨r1, HB.out ▸ b1⟩; clear r1 s1 b1)
    | (go_at_call 9; refine (shown_any w1 (ht.later R1.out.2) (hst.later R1.out.2)).mono ?_; rintro e w2 ⟨rfl, b2⟩; have R2 : Hid (HIs w2 B a ∧ Below w.heap.size w w2) := ⟨R1.out.1.next b2, below_append R1.out.2 b2⟩; clear b2)
    | (go_at_call 15; refine (leavesF_any v L w2 (h.later R2.out.2) HSZ.out HL.out).mono ?_; rintro e w3 ⟨vl, rfl, o3, b3⟩; have R3 : Hid (HIs w3 B a ∧ Below w.heap.size w w3 ∧ HIn w3 vl (L.map Tree.leaf)) := ⟨R2.out.1.next b3, below_append R2.out.2 b3, o3.hin⟩; clear o3 b3)); try simp only [Act.put, List.setIfInBounds_toArray, List.set_cons_succ, List.set_cons_zero])
  have HN : Hid ((L.map Tree.leaf).length = N) := (leafs_length L).trans HNL.out
  have HOK := HOK0
  have HE := HE0
  clear HOK0 HE0
  have HU := HU0
  clear HU0
  generalize L.map Tree.leaf = hs at R3 HN HOK HE HU
  refine wp_region_held (S := fun W => Below w3.heap.size w3 W) (by kernel_rfl) ?_
  show wpAnyH _ _ _ _ _ 14 (Array.replicate 14 false) _ _
  have hS : Below w3.heap.size w3 { w3 with drawn := w3.drawn + 1 } := below_drawn w3 _
  refine takeH (i := 0) (some 16) rfl rfl (by kernel_rfl) (by kernel_rfl) (by kernel_rfl) (fun _ _ _ h => h) (yMoveW rfl (.tmp 10) rfl (vl) rfl) hS ?_
  simp only [Act.put, List.setIfInBounds_toArray, List.set_cons_succ, List.set_cons_zero]
  refine takeH (i := 1) (some 17) rfl rfl (by kernel_rfl) (by kernel_rfl) (by kernel_rfl) (fun _ _ _ h => h) (yLen rfl (.tmp 16) rfl vl hs rfl _ (R3.out.2.2) N HN.out) hS ?_
  simp only [Act.put, List.setIfInBounds_toArray, List.set_cons_succ, List.set_cons_zero]
  refine takeH (i := 2) (some 18) rfl rfl (by kernel_rfl) (by kernel_rfl) (by kernel_rfl) (fun _ _ _ h => h) (yGtrI rfl (.tmp 17) (.const (.int .i64 300)) rfl ((N : Nat) : Int) 300 rfl rfl false HC.out) hS ?_
  simp only [Act.put, List.setIfInBounds_toArray, List.set_cons_succ, List.set_cons_zero]
  refine takeH (i := 3) (some 19) rfl rfl (by kernel_rfl) (by kernel_rfl) (by kernel_rfl) (fun _ _ _ h => h) (yMoveW rfl (.tmp 18) rfl (.bool false) rfl) hS ?_
  simp only [Act.put, List.setIfInBounds_toArray, List.set_cons_succ, List.set_cons_zero]
  refine takeH (i := 4) (some 20) rfl rfl (by kernel_rfl) (by kernel_rfl) (by kernel_rfl) (fun _ _ _ h => h) (yMoveW rfl (.tmp 1) rfl (.int .i64 (K : Nat)) rfl) hS ?_
  simp only [Act.put, List.setIfInBounds_toArray, List.set_cons_succ, List.set_cons_zero]
  refine takeH (i := 5) (some 21) rfl rfl (by kernel_rfl) (by kernel_rfl) (by kernel_rfl) (fun _ _ _ h => h) (yMoveW rfl (.tmp 10) rfl (vl) rfl) hS ?_
  simp only [Act.put, List.setIfInBounds_toArray, List.set_cons_succ, List.set_cons_zero]
  refine takeH (i := 6) (some 22) rfl rfl (by kernel_rfl) (by kernel_rfl) (by kernel_rfl) (fun _ _ _ h => h) (yLen rfl (.tmp 21) rfl vl hs rfl _ (R3.out.2.2) N HN.out) hS ?_
  simp only [Act.put, List.setIfInBounds_toArray, List.set_cons_succ, List.set_cons_zero]
  refine takeH (i := 7) (some 23) rfl rfl (by kernel_rfl) (by kernel_rfl) (by kernel_rfl) (fun _ _ _ h => h) (yRunW rfl (hv a) (fun W hW => rx_load (.tmp 6) rfl (.pointer (some ⟨B, 0, none⟩)) rfl a ((R3.out.1.next hW).at))) hS ?_
  simp only [Act.put, List.setIfInBounds_toArray, List.set_cons_succ, List.set_cons_zero]
  refine takeH (i := 8) (some 24) rfl rfl (by kernel_rfl) (by kernel_rfl) (by kernel_rfl) (fun _ _ _ h => h) (yMoveW rfl (.tmp 10) rfl (vl) rfl) hS ?_
  simp only [Act.put, List.setIfInBounds_toArray, List.set_cons_succ, List.set_cons_zero]
  refine takeH (i := 10) (some 26) rfl rfl (by kernel_rfl) (by kernel_rfl) (by kernel_rfl) (fun _ _ _ h => h) (yMoveW rfl (.tmp 3) rfl (vr) rfl) hS ?_
  simp only [Act.put, List.setIfInBounds_toArray, List.set_cons_succ, List.set_cons_zero]
  refine oneH (i := 9) (by kernel_rfl) ?_
  refine opCallW (some 25) rfl rfl rfl 19 _ (run_call en19' [.tmp 24] _ rfl [vl] rfl) ?_
  refine (refRoot_any N vl hs _ HN.out (by omega) (R3.out.2.2.later hS)).mono ?_
  rintro e x1 ⟨rfl, bb⟩
  have hS' : Below w3.heap.size w3 x1 := below_append hS bb
  refine ⟨_, rfl, hS', ?_⟩
  clear hS bb
  have hS := hS'
  clear hS'
  simp only [Act.put, List.setIfInBounds_toArray, List.set_cons_succ, List.set_cons_zero]
  refine oneH (i := 11) (by kernel_rfl) ?_
  refine opCallW (some 27) rfl rfl rfl 13 _ (run_call en13' [.tmp 20, .tmp 22, .tmp 23, .tmp 25, .tmp 26] _ rfl [.int .i64 (K : Nat), .int .i64 (N : Nat), hv a, hv (Tree.root hs), vr] rfl) ?_
  refine (vcons_any a (Tree.root hs) (K : Nat) (N : Nat) vr row _ HX.out R3.out.2.2.all.root (hr.later (below_append R3.out.2.1 hS)) (ht.later (below_append R3.out.2.1 hS)) (hst.later (below_append R3.out.2.1 hS)) (by omega)).mono ?_
  rintro e x2 ⟨rfl, bb⟩
  rw [HOK.out]
  have hS' : Below w3.heap.size w3 x2 := below_append hS bb
  refine ⟨_, rfl, hS', ?_⟩
  clear hS bb
  have hS := hS'
  clear hS'
  simp only [Act.put, List.setIfInBounds_toArray, List.set_cons_succ, List.set_cons_zero]
  refine takeH (i := 12) (some 28) rfl rfl (by kernel_rfl) (by kernel_rfl) (by kernel_rfl) (fun _ _ _ h => h) (yNotW rfl (.tmp 27) rfl true rfl) hS ?_
  simp only [Act.put, List.setIfInBounds_toArray, List.set_cons_succ, List.set_cons_zero]
  refine takeH (i := 13) (some 29) rfl rfl (by kernel_rfl) (by kernel_rfl) (by kernel_rfl) (fun _ _ _ h => h) (yPickF rfl (.tmp 19) _ (.tmp 28) rfl rfl (.bool false) rfl) hS ?_
  simp only [Act.put, List.setIfInBounds_toArray, List.set_cons_succ, List.set_cons_zero]
  refine wpAnyH_done (by kernel_rfl) ?_ _
  have R7 : Hid (HIs x2 B a ∧ Below w.heap.size w x2 ∧ HIn x2 vl hs) := ⟨R3.out.1.next hS, below_append R3.out.2.1 hS, R3.out.2.2.later hS⟩
  clear hS
  go_wp2_with (first
    | (refine wl_lenN (.tmp 35) rfl rfl vl hs rfl R3.out.2.2 N HN.out ?_))
  obtain ⟨va, ra, sa⟩ := run_hto R7.out.2.2 K (by have := HN.out; omega)
  have HPA : Hid ((∀ w', (Instr.slice 24 vl none (some (.int .i64 (K : Nat))) none).run Tryd.prog w' = .ok va w') ∧ HIn x2 va (hs.take K) ∧ (hs.take K).length = K) := ⟨ra, sa, by rw [List.length_take]; have := HN.out; omega⟩
  clear ra sa
  refine wp_region_held (S := fun W => Below x2.heap.size x2 W) (by kernel_rfl) ?_
  show wpAnyH _ _ _ _ _ 17 (Array.replicate 17 false) _ _
  have hS : Below x2.heap.size x2 { x2 with drawn := x2.drawn + 1 } := below_drawn x2 _
  refine takeH (i := 0) (some 39) rfl rfl (by kernel_rfl) (by kernel_rfl) (by kernel_rfl) (fun _ _ _ h => h) (yMoveW rfl (.tmp 9) rfl (.bool true) rfl) hS ?_
  simp only [Act.put, List.setIfInBounds_toArray, List.set_cons_succ, List.set_cons_zero]
  refine takeH (i := 1) (some 40) rfl rfl (by kernel_rfl) (by kernel_rfl) (by kernel_rfl) (fun _ _ _ h => h) (yMoveW rfl (.tmp 39) rfl (.bool true) rfl) hS ?_
  simp only [Act.put, List.setIfInBounds_toArray, List.set_cons_succ, List.set_cons_zero]
  refine takeH (i := 2) (some 41) rfl rfl (by kernel_rfl) (by kernel_rfl) (by kernel_rfl) (fun _ _ _ h => h) (yRunW rfl (hv a) (fun W hW => rx_load (.tmp 6) rfl (.pointer (some ⟨B, 0, none⟩)) rfl a ((R7.out.1.next hW).at))) hS ?_
  simp only [Act.put, List.setIfInBounds_toArray, List.set_cons_succ, List.set_cons_zero]
  refine takeH (i := 3) (some 42) rfl rfl (by kernel_rfl) (by kernel_rfl) (by kernel_rfl) (fun _ _ _ h => h) (yMoveW rfl (.tmp 10) rfl (vl) rfl) hS ?_
  simp only [Act.put, List.setIfInBounds_toArray, List.set_cons_succ, List.set_cons_zero]
  refine takeH (i := 4) (some 43) rfl rfl (by kernel_rfl) (by kernel_rfl) (by kernel_rfl) (fun _ _ _ h => h) (yMoveW rfl (.tmp 1) rfl (.int .i64 (K : Nat)) rfl) hS ?_
  simp only [Act.put, List.setIfInBounds_toArray, List.set_cons_succ, List.set_cons_zero]
  refine takeH (i := 5) (some 44) rfl rfl (by kernel_rfl) (by kernel_rfl) (by kernel_rfl) (fun _ _ _ h => h) (yRunW rfl va (fun _ _ => rx_sub (.tmp 42) none (some (.tmp 43)) rfl vl va rfl HPA.out.1)) hS ?_
  simp only [Act.put, List.setIfInBounds_toArray, List.set_cons_succ, List.set_cons_zero]
  refine oneH (i := 6) (by kernel_rfl) ?_
  refine opCallW (some 45) rfl rfl rfl 19 _ (run_call en19' [.tmp 44] _ rfl [va] rfl) ?_
  refine (refRoot_any K va (hs.take K) _ HPA.out.2.2 (by omega) (HPA.out.2.1.later hS)).mono ?_
  rintro e y1 ⟨rfl, bb⟩
  have hS' : Below x2.heap.size x2 y1 := below_append hS bb
  refine ⟨_, rfl, hS', ?_⟩
  clear hS bb
  have hS := hS'
  clear hS'
  simp only [Act.put, List.setIfInBounds_toArray, List.set_cons_succ, List.set_cons_zero]
  refine takeH (i := 7) (some 46) rfl rfl (by kernel_rfl) (by kernel_rfl) (by kernel_rfl) (fun _ _ _ h => h) (yRunW rfl (.bool false) (fun _ _ => rx_eqB (.tmp 41) (.tmp 45) rfl a (Tree.root (hs.take K)) HX.out (HPA.out.2.1.all.root) rfl rfl false HE.out)) hS ?_
  simp only [Act.put, List.setIfInBounds_toArray, List.set_cons_succ, List.set_cons_zero]
  refine takeH (i := 8) (some 47) rfl rfl (by kernel_rfl) (by kernel_rfl) (by kernel_rfl) (fun _ _ _ h => h) (yMoveW rfl (.tmp 46) rfl (.bool false) rfl) hS ?_
  simp only [Act.put, List.setIfInBounds_toArray, List.set_cons_succ, List.set_cons_zero]
  refine takeH (i := 9) (some 48) rfl rfl (by kernel_rfl) (by kernel_rfl) (by kernel_rfl) (fun _ _ _ h => h) (yMoveW rfl (.tmp 1) rfl (.int .i64 (K : Nat)) rfl) hS ?_
  simp only [Act.put, List.setIfInBounds_toArray, List.set_cons_succ, List.set_cons_zero]
  refine takeH (i := 10) (some 49) rfl rfl (by kernel_rfl) (by kernel_rfl) (by kernel_rfl) (fun _ _ _ h => h) (yMoveW rfl (.tmp 10) rfl (vl) rfl) hS ?_
  simp only [Act.put, List.setIfInBounds_toArray, List.set_cons_succ, List.set_cons_zero]
  refine takeH (i := 11) (some 50) rfl rfl (by kernel_rfl) (by kernel_rfl) (by kernel_rfl) (fun _ _ _ h => h) (yRunW rfl (hv a) (fun W hW => rx_load (.tmp 6) rfl (.pointer (some ⟨B, 0, none⟩)) rfl a ((R7.out.1.next hW).at))) hS ?_
  simp only [Act.put, List.setIfInBounds_toArray, List.set_cons_succ, List.set_cons_zero]
  refine takeH (i := 12) (some 51) rfl rfl (by kernel_rfl) (by kernel_rfl) (by kernel_rfl) (fun _ _ _ h => h) (yMoveW rfl (.tmp 3) rfl (vr) rfl) hS ?_
  simp only [Act.put, List.setIfInBounds_toArray, List.set_cons_succ, List.set_cons_zero]
  refine oneH (i := 13) (by kernel_rfl) ?_
  refine opCallW (some 52) rfl rfl rfl 21 _ (run_call en21' [.tmp 48, .tmp 49, .tmp 50, .tmp 51, .const (.bool true)] _ rfl [.int .i64 (K : Nat), vl, hv a, vr, .bool true] rfl) ?_
  refine (parts_any a HX.out N K true vl vr hs row _ a HN.out (by omega) hK1 hK (R7.out.2.2.later hS) (hr.later (below_append R7.out.2.1 hS)) HU.out (of_decide_eq_false HE.out)).mono ?_
  rintro e y2 ⟨rfl, bb⟩
  have hS' : Below x2.heap.size x2 y2 := below_append hS bb
  refine ⟨_, rfl, hS', ?_⟩
  clear hS bb
  have hS := hS'
  clear hS'
  simp only [Act.put, List.setIfInBounds_toArray, List.set_cons_succ, List.set_cons_zero]
  refine takeH (i := 14) (some 53) rfl rfl (by kernel_rfl) (by kernel_rfl) (by kernel_rfl) (fun _ _ _ h => h) (yPickF rfl (.tmp 47) _ (.tmp 52) rfl rfl (.bool true) rfl) hS ?_
  simp only [Act.put, List.setIfInBounds_toArray, List.set_cons_succ, List.set_cons_zero]
  refine takeH (i := 15) (some 54) rfl rfl (by kernel_rfl) (by kernel_rfl) (by kernel_rfl) (fun _ _ _ h => h) (yPickW rfl (.tmp 40) (.tmp 53) _ rfl rfl (.bool true) rfl) hS ?_
  simp only [Act.put, List.setIfInBounds_toArray, List.set_cons_succ, List.set_cons_zero]
  refine takeH (i := 16) (some 8) rfl rfl (by kernel_rfl) (by kernel_rfl) (by kernel_rfl) (fun _ _ _ h => h) (yAssign rfl (.tmp 54) rfl (.bool true) rfl) hS ?_
  simp only [Act.put, List.setIfInBounds_toArray, List.set_cons_succ, List.set_cons_zero]
  refine wpAnyH_done (by kernel_rfl) ?_ _
  have HB9 : Hid (Below w.heap.size w _) := below_append R7.out.2.1 hS
  clear hS
  go_wp2_with fail
  go_ret
  exact ⟨rfl, HB9.out⟩
theorem verifyBegins_any (v : Value) (L : List (List Nat)) (m : Int) (a : List Nat) (vr : Value) (row : List (List Nat)) (w : World) (h : ListIn w v L) (hr : HIn w vr row) (hx : IsH a) (ht : TabIn w) (hst : StartIn w) (_hm : -9223372036854775808 ≤ m ∧ m ≤ 9223372036854775807) (hLn : L.length * 24 ≤ 140737488351232) (hL : ∀ c ∈ L, c.length ≤ 140737488351232) :
    Calls Tryd.prog 8 #[v, .int .i64 m, hv a, vr] w fun e w' => e = .returned (.bool true) ∧ Below w.heap.size w w' := by
  by_cases hN : 300 < L.length
  · exact blaw_i v L m a vr w h hx ht hst hLn hL hN
  · cases hok : Tree.consOk m (L.length : Nat) a (Tree.root (L.map Tree.leaf)) row with
    | false => exact blaw_ii v L m a vr row w h hr hx ht hst hLn hL (by omega) hok
    | true =>
      obtain ⟨hb, h0, hu⟩ := Tree.consOk_spec hok
      obtain ⟨K, rfl⟩ : ∃ K : Nat, m = (K : Int) := ⟨m.toNat, by omega⟩
      cases he : decide (a = Tree.root ((L.map Tree.leaf).take K)) with
      | true => exact blaw_eq v L K a vr row w h hr hx ht hst (by omega) hL (by omega) hok he
      | false =>
        by_cases hK0 : K = 0
        · subst hK0
          rw [List.take_zero, Tree.root_nil] at he
          exact absurd (h0 rfl) (of_decide_eq_false he)
        · have hu' := hu (by omega)
          rw [Int.toNat_natCast, Int.toNat_natCast] at hu'
          exact blaw_ne v L K a vr row w h hr hx ht hst (by omega) hL (by omega) hok he hu' (by omega)
end Go.Proofs.YtjdmpanemdhbbaaDoor
namespace Go.Proofs.YtjdmpanemdhbbaaDoor.verifyBegins
open Go.ChangeShapes Go.WideShapes Go.ChangeAt Go.RowKit

set_option maxRecDepth 100000 in
/-- WHAT THE WALK GIVES, FOR EVERY ARGUMENT AND EVERY WORLD THAT HOLDS THE TABLE -/
theorem contract (H : Type) (enc : TypeId × Value → H) (W : World) (base : Nat) (args : Array Value) (ds gs : List (DataW H)) (before : List MemPlace)
    (hval : ∀ (j : Nat) t v, Tryd.f8.params[j]? = some t → args[j]? = some v → Value.okWide Tryd.prog W .any base t v)
    (hW : DataW.Whole enc Tryd.prog Tryd.f8.params.toList Rows.verifyBeginsSpec.vars false W args.toList ds gs before)
    (hsz : (DataW.weightsEach Tryd.prog (Tryd.f8.params.toList ++ (Rows.verifyBeginsSpec.plain.varTypes Tryd.prog)) (ds ++ gs)).all (· ≤ reachBytes) = true)
    (hL : laidMetH Tryd.prog Rows.verifyBeginsRow.laid W) :
    Calls Tryd.prog 8 args W fun e W' => ∃ v, e = .returned v ∧ Rows.verifyBeginsSpec.post enc Tryd.prog Tryd.f8 false true false false W args v W' := by
  have hW' := hW
  obtain ⟨p, q, hA0, hV, rfl, hfz, hnd⟩ := hW
  have hA : DataW.TrodAll enc Tryd.prog W 0 (fun _ => true) true Tryd.f8.params.toList args.toList ds p := hA0
  rw [Tryd.params8] at hA hval hsz
  obtain ⟨v0, vs0, d0, ds0, p0, q0, hargs, rfl, rfl, h0, r0⟩ := trodAll_cons hA
  obtain ⟨v1, vs1, d1, ds1, p1, q1, rfl, rfl, rfl, h1, r1⟩ := trodAll_cons r0
  obtain ⟨v2, vs2, d2, ds2, p2, q2, rfl, rfl, rfl, h2, r2⟩ := trodAll_cons r1
  obtain ⟨v3, vs3, d3, ds3, p3, q3, rfl, rfl, rfl, h3, r3⟩ := trodAll_cons r2
  obtain ⟨rfl, rfl, rfl⟩ := trodAll_nil r3
  obtain rfl : args = #[v0, v1, v2, v3] := by cases args; simp_all
  obtain ⟨rfl, rfl⟩ := trodVars_none hV
  have lt0 : ∀ x ∈ p0, x.block < W.heap.size := by obtain ⟨m, hm⟩ := h0; exact DataW.trod_lt m _ _ _ hm
  obtain ⟨L0, hs0, hd0, hw0⟩ := open_rows (hval 0 32 v0 rfl rfl) h0
  obtain ⟨a1, rfl, rfl, rfl, w1⟩ := open_int Tryd.underlying3 (hval 1 3 v1 rfl rfl) h1
  have b1 : -9223372036854775808 ≤ a1 ∧ a1 ≤ 9223372036854775807 := by
    simpa [Lit.wf, IntKind.min, IntKind.max, IntKind.signed, IntKind.bits] using w1
  have lt2 : ∀ x ∈ p2, x.block < W.heap.size := by obtain ⟨m, hm⟩ := h2; exact DataW.trod_lt m _ _ _ hm
  obtain ⟨x2, hx2, rfl⟩ := open_hash (hval 2 23 v2 rfl rfl) h2
  have lt3 : ∀ x ∈ p3, x.block < W.heap.size := by obtain ⟨m, hm⟩ := h3; exact DataW.trod_lt m _ _ _ hm
  obtain ⟨hs3, hin3, hsz3⟩ := open_hashes (hval 3 24 v3 rfl rfl) h3
  clear hA0
  have hw := hw0 (reach_rows hsz (j := 0) rfl rfl)
  have walk := verifyBegins_any v0 L0 a1 x2 v3 hs3 W hs0 hin3 hx2 (tabs_of hL).2 (tabs_of hL).1 b1 hw.1 hw.2
  refine walk.mono fun e W' ⟨he, bel⟩ => ?_
  subst he
  exact ⟨_, rfl, _, _, _, [], _, [], hW', trodAll_mk1 (shut_bool Tryd.underlying4 _), (trodAll_cons_mk (Below.trod laidOut (by kernel_rfl) (of_decide_eq_true (by kernel_rfl)) h0 bel lt0) (trodAll_cons_mk (shut_int Tryd.underlying3 w1) (trodAll_cons_mk (Below.trod laidOut (by kernel_rfl) (of_decide_eq_true (by kernel_rfl)) h2 bel lt2) (trodAll_cons_mk (Below.trod laidOut (by kernel_rfl) (of_decide_eq_true (by kernel_rfl)) h3 bel lt3) trodAll_mk0)))), rfl, bel.frame _, fun h => by cases h⟩

theorem laid_met (os : Os) : laidMet Tryd.prog Rows.verifyBeginsRow.laid ((laidOn (World.holding Tryd.prog os ⟨#[], #[], []⟩)).forCall (fun _ _ => 0) ⟨#[], #[.slice none 0 0, .int .i64 0, .agg (zerosU8 32).toArray, .slice none 0 0], []⟩).memory :=
  laidMet_of_run' 8 (by kernel_rfl) (by kernel_rfl)
theorem reads (os : Os) {H : Type} (enc : TypeId × Value → H) : ∃ places, DataW.whole enc Tryd.prog ((laidOn (World.holding Tryd.prog os ⟨#[], #[], []⟩)).forCall (fun _ _ => 0) ⟨#[], #[.slice none 0 0, .int .i64 0, .agg (zerosU8 32).toArray, .slice none 0 0], []⟩).memory Tryd.f8.params.toList Rows.verifyBeginsSpec.vars false #[Value.slice none 0 0, .int .i64 0, .agg (zerosU8 32).toArray, .slice none 0 0].toList 8 = some ([.nil, .lit (.int .i64 0), .agg (List.replicate 32 (.lit (.int .u8 0))), .nil], [], places) :=
  ⟨[], by kernel_rfl⟩

set_option maxRecDepth 100000 in
theorem lifted (os : Os) (started : os.Started) (H : Type) (enc : TypeId × Value → H) (F : Stop.Interp) :
    ReturnsInHanded {} Tryd.checked os 8 .any ((OpenSpec.ofChange Rows.verifyBeginsSpec).preRow enc Tryd.prog Tryd.f8 Rows.verifyBeginsRow.domain false Rows.verifyBeginsRow.laid) (((OpenSpec.ofChange Rows.verifyBeginsSpec).at F).post enc Tryd.prog Tryd.f8 false true false false) := by
  obtain ⟨places, hx⟩ := reads os enc
  refine returnsInHanded_of_row (C := Tryd.checked) (s := OpenSpec.ofChange Rows.verifyBeginsSpec) own started (by kernel_rfl) Tryd.func8
    (witness_row_at (enc := enc) (C := Tryd.checked) false (laidOn (World.holding Tryd.prog os ⟨#[], #[], []⟩)) #[.slice none 0 0, .int .i64 0, .agg (zerosU8 32).toArray, .slice none 0 0] rfl (by kernel_rfl) (by kernel_rfl) (by kernel_rfl)
      (OpenSpec.preRow_of_cond 8 hx (by kernel_rfl) (fun k hk => by cases hk) (by kernel_rfl) (laid_met os))) ?_
  intro W base args ds gs before hval hW _ _ hsz hL _ _
  exact contract H enc W base args ds gs before hval hW hsz hL

theorem said : Rows.VerifyBeginsSaid :=
  OpenClaim.holds_of_cond 8 Tryd.f8 rfl rfl rfl rfl rfl rfl rfl ⟨rfl, rfl, rfl, rfl, rfl⟩ rfl rfl rfl rfl rfl (by kernel_rfl) Tryd.func8 (by kernel_rfl)
    (of_decide_eq_true (by kernel_rfl)) (by unfold Func.isWrapper; first | (rw [if_pos (by decide +kernel)]; kernel_rfl) | (rw [if_neg (by decide +kernel)]; exact ⟨rfl, rfl⟩))
    (fun os started H enc _ F => by rw [OpenClaim.pre_eq_preRow]; exact lifted os started H enc F)

theorem plain (f : FuncId) (fn : Func) (hf : Tryd.pinned.checked.prog.funcNamed "muniment/munimentlaw06.VerifyBegins" = some f) (hfn : Tryd.pinned.checked.prog.funcs[f]? = some fn) :
    false = Tryd.pinned.checked.prog.looks [] ∧ ∀ (j : Nat) t, fn.params[j]? = some t → Tryd.pinned.checked.prog.wantsStandIn t = false := by
  obtain rfl : f = 8 := Option.some.inj ((show Tryd.prog.funcNamed "muniment/munimentlaw06.VerifyBegins" = some 8 by kernel_rfl).symm.trans hf) |>.symm
  obtain rfl : fn = Tryd.f8 := (Option.some.inj (Tryd.func8.symm.trans hfn)).symm
  refine ⟨by kernel_rfl, fun j t ht => ?_⟩
  rw [Tryd.params8] at ht
  have hm := Array.mem_of_getElem? ht
  have : t = 32 ∨ t = 3 ∨ t = 23 ∨ t = 24 := by simpa using hm
  rcases this with rfl | rfl | rfl | rfl
  · exact (show Tryd.prog.wantsStandIn 32 = false by kernel_rfl)
  · exact (show Tryd.prog.wantsStandIn 3 = false by kernel_rfl)
  · exact (show Tryd.prog.wantsStandIn 23 = false by kernel_rfl)
  · exact (show Tryd.prog.wantsStandIn 24 = false by kernel_rfl)

end Go.Proofs.YtjdmpanemdhbbaaDoor.verifyBegins
namespace Go.Proofs.YtjdmpanemdhbbaaDoor
/-- THE CARD -/
theorem verifyBegins_card : Rows.VerifyBeginsCardSaid :=
  Claim7.holds_tied_plain_at .later [] _ _ _ _ verifyBegins.said (fun _ h => by cases h) (by kernel_rfl) (fun _ h => by cases h) verifyBegins_row_tie rfl ⟨rfl, rfl⟩ (by kernel_rfl) rfl verifyBegins.plain (by kernel_rfl)
end Go.Proofs.YtjdmpanemdhbbaaDoor

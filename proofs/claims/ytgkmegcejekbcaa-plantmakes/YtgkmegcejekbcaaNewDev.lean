/- The walks of sizesHold, newDevice, and of the small calls Fuse and Tick. -/
import Derived.Test.YtgkmegcejekbcaaBootW
namespace Go.Proofs.Ytgkmegcejekbcaa
open Go.RowKit Go.Maps

/-- a slice of numbers -/
def IntsIn (w : World) (v : Value) (l : List Int) : Prop :=
  ∃ p cap, v = .slice p l.length cap ∧ l.length ≤ cap ∧ l.length < 4611686018427387904 ∧ (l = [] ∨ ∃ b off, p = some ⟨b, off, none⟩ ∧ ∀ j, j < l.length → w.cell? ⟨b, off + j, none⟩ = some (.int .i64 (l.getD j 0)))
theorem IntsIn.later {w wx : World} {v : Value} {l : List Int} (h : IntsIn w v l) (hb : Below w.heap.size w wx) : IntsIn wx v l := by
  obtain ⟨p, cap, rfl, h1, h2, h⟩ := h
  refine ⟨p, cap, rfl, h1, h2, ?_⟩
  rcases h with h | ⟨b, off, rfl, h⟩
  · exact Or.inl h
  · exact Or.inr ⟨b, off, rfl, fun j hj => cell_later hb (h j hj)⟩
def sizesOk (l : List Int) : Bool := l.all fun x => decide (1 ≤ x) && decide (x ≤ 4096)

set_option maxHeartbeats 400000 in
theorem sizes_any (w : World) (v : Value) (l : List Int) (hv : IntsIn w v l) : Calls Try.prog 37 #[v] w fun e w' => e = .returned (.bool (sizesOk l)) ∧ w' = w := by
  obtain ⟨p, cap, rfl, hc, hl, h⟩ := hv
  obtain ⟨L, hL⟩ : ∃ L, L = l.length := ⟨_, rfl⟩
  obtain ⟨y, hy⟩ : ∃ y, y = sizesOk l := ⟨_, rfl⟩
  rw [← hL] at hc hl ⊢
  rw [← hy]
  have HL : Hid (L = l.length) := hL
  have HY : Hid (y = sizesOk l) := hy
  have HH : Hid (l = [] ∨ ∃ b off, p = some ⟨b, off, none⟩ ∧ ∀ j, j < l.length → w.cell? ⟨b, off + j, none⟩ = some (.int .i64 (l.getD j 0))) := h
  clear h hL hy
  go_enter Try.func37, Try.ntmps37
  go_wp2
  go_loopw [7] (fun ix W => ∃ n : Nat, n ≤ L ∧ ix = .int .i64 n ∧ sizesOk (l.take n) = true ∧ W = w) (fun ix _ => L - (intOf ix).toNat)
  case atStart => exact ⟨0, Nat.zero_le _, rfl, rfl, rfl⟩
  case round =>
    obtain ⟨n, hn, rfl, hok, rfl⟩ := hrel
    by_cases hlt : n < L
    · obtain ⟨b, off, hp, hcell⟩ : ∃ b off, p = some ⟨b, off, none⟩ ∧ ∀ j, j < l.length → wr.cell? ⟨b, off + j, none⟩ = some (.int .i64 (l.getD j 0)) := by
        rcases HH.out with h0 | h0
        · have := HL.out
          rw [h0] at this
          simp at this
          omega
        · exact h0
      subst hp
      obtain ⟨x, hx⟩ : ∃ x, x = l.getD n 0 := ⟨_, rfl⟩
      have cn : wr.cell? ⟨b, off + n, none⟩ = some (.int .i64 x) := by rw [hx]; exact hcell n (by rw [← HL.out]; exact hlt)
      have ht0 : sizesOk (l.take (n + 1)) = (decide (1 ≤ x) && decide (x ≤ 4096)) := by
        have hn' : n < l.length := by rw [← HL.out]; exact hlt
        rw [List.take_succ_eq_append_getElem hn']
        unfold sizesOk at hok ⊢
        rw [List.all_append, hok]
        have e : l[n] = x := by rw [hx]; simp [hn']
        simp [e]
      have HT : Hid (sizesOk (l.take (n + 1)) = (decide (1 ≤ x) && decide (x ≤ 4096))) := ht0
      clear hcell hx hok ht0
      by_cases h1 : x < 1
      · have t1 : decide (x < 1) = true := by simpa using h1
        have hy : y = false := by
          rw [HY.out]
          have := HT.out
          rw [show decide (1 ≤ x) = false by simp; omega, Bool.false_and] at this
          unfold sizesOk at this ⊢
          rw [List.all_eq_false] at this ⊢
          obtain ⟨z, hz, hzz⟩ := this
          exact ⟨z, List.mem_of_mem_take hz, hzz⟩
        subst hy
        go_wp2
        go_ret
        exact ⟨rfl, rfl⟩
      · have t1 : decide (x < 1) = false := by simpa using h1
        by_cases h2 : 4096 < x
        · have t2 : decide (4096 < x) = true := by simpa using h2
          have hy : y = false := by
            rw [HY.out]
            have := HT.out
            rw [show decide (x ≤ 4096) = false by simp; omega, Bool.and_false] at this
            unfold sizesOk at this ⊢
            rw [List.all_eq_false] at this ⊢
            obtain ⟨z, hz, hzz⟩ := this
            exact ⟨z, List.mem_of_mem_take hz, hzz⟩
          subst hy
          go_wp2
          go_ret
          exact ⟨rfl, rfl⟩
        · have t2 : decide (4096 < x) = false := by simpa using h2
          have ht2 : sizesOk (l.take (n + 1)) = true := by
            rw [HT.out]
            simp only [Bool.and_eq_true, decide_eq_true_eq]
            omega
          have HT2 : Hid (sizesOk (l.take (n + 1)) = true) := ht2
          clear ht2
          go_wp2
          exact ⟨⟨n + 1, by omega, by go_num, HT2.out, by first | trivial | rfl⟩, by simp [intOf]; omega⟩
    · have e : n = L := by omega
      have hy : y = true := by
        rw [HY.out, ← hok, e, HL.out, List.take_length]
      subst hy
      subst e
      go_wp2
      go_ret
      exact ⟨rfl, rfl⟩

/-- what a new device has -/
def fresh (tape : Bool) (size : Nat) : List (List Nat) := if tape then [] else List.replicate size zeros
theorem run_build76 (w : World) (b : Bool) (n : Int) (x y : Nat) : (Instr.build 76 #[(0, .bool b), (1, .int .i64 n), (2, .map (some x)), (4, .map (some y))]).run Try.prog w = .ok (.agg #[.bool b, .int .i64 n, .map (some x), .slice none 0 0, .map (some y)]) w := by kernel_rfl

set_option maxHeartbeats 400000 in
set_option maxRecDepth 100000 in
theorem newDev_any (w : World) (c : Nat → Colour) (k : Colour) (size : Nat) (tape : Bool) :
    Calls Try.prog 38 #[.int .i64 (size : Int), .bool tape] w fun e w' => ∃ g, e = .returned (ptr g) ∧ w.heap.size ≤ g ∧ DevIn w' (paint c w.heap.size k) k g tape size (fresh tape size) [] ∧ Below w.heap.size w w' := by
  have hmm := @run_makeMap Try.prog
  obtain ⟨B, hB⟩ : ∃ B, B = w.heap.size := ⟨_, rfl⟩
  obtain ⟨w1, hw1⟩ : ∃ w1, w1 = w.alloc (.map #[] 0) := ⟨_, rfl⟩
  obtain ⟨w2, hw2⟩ : ∃ w2, w2 = w1.alloc (.map #[] 0) := ⟨_, rfl⟩
  have hm1 : (Instr.makeMap 72 none).run Try.prog w = .ok (.map (some B)) w1 := by rw [hw1, hB]; exact run_makeMap 72 w
  have hs1 : w1.heap.size = B + 1 := by rw [hw1, hB]; simp
  have hm2 : (Instr.makeMap 74 none).run Try.prog w1 = .ok (.map (some (B + 1))) w2 := by rw [hw2, ← hs1]; exact run_makeMap 74 w1
  have hs2 : w2.heap.size = B + 2 := by rw [hw2]; simp [hs1]
  have a1 : MapAt secs w1 B 0 (fun _ => none) := by rw [hw1, hB]; exact MapAt.made secs w
  have a2 : MapAt ints w2 (B + 1) 0 (fun _ => none) := by rw [hw2, ← hs1]; exact MapAt.made ints w1
  have a12 : MapAt secs w2 B 0 (fun _ => none) := by rw [hw2]; exact a1.alloc _
  have b2 : Below B w w2 := by rw [hw2, hw1]; exact ((Below.refl B w).alloc (by omega) _).alloc (by rw [hB]; simp) _
  rw [← hB]
  clear hmm hB hw1 hw2
  go_enter Try.func38, Try.ntmps38
  go_upto_region 1 with fail
  refine wp_region_lit ?_
  refine wpList_move (.tmp 1) rfl rfl (.bool tape) rfl ?_
  refine wpList_move (.tmp 0) rfl rfl (.int .i64 (size : Int)) rfl ?_
  simp only [Act.put, List.setIfInBounds_toArray, List.set_cons_succ, List.set_cons_zero]
  refine wpList_makeMap rfl rfl _ _ hm1 ?_
  refine wpList_makeMap rfl rfl _ _ hm2 ?_
  simp only [Act.put, List.setIfInBounds_toArray, List.set_cons_succ, List.set_cons_zero]
  refine wpList_value rfl (.agg #[.bool tape, .int .i64 (size : Int), .map (some B), .slice none 0 0, .map (some (B + 1))]) w2 (by simp [execOp, run_build76, Act.eval]) ?_
  simp only [Act.put, List.setIfInBounds_toArray, List.set_cons_succ, List.set_cons_zero]
  refine wpList_box (.tmp 9) rfl rfl [.bool tape, .int .i64 (size : Int), .map (some B), .slice none 0 0, .map (some (B + 1))] rfl ?_
  intro w3 r3 s3 b3
  refine wpList_assign (.tmp 10) rfl rfl (ptr w2.heap.size) rfl ?_
  refine wpList_nil ?_
  simp only [Act.put, List.setIfInBounds_toArray, List.set_cons_succ, List.set_cons_zero]
  rw [hs2] at r3 s3 b3 ⊢
  have HE : Hid (DevIn w3 (paint c B k) k (B + 2) tape size (fresh tape size) []) := by
    have e1 : w3.heap[B]? = w2.heap[B]? := b3.block B (by omega)
    have e2 : w3.heap[B + 1]? = w2.heap[B + 1]? := b3.block (B + 1) (by omega)
    refine ⟨B, B + 1, _, r3, paint_new _ _ _ _ (by omega), paint_new _ _ _ _ (by omega), paint_new _ _ _ _ (by omega), by omega, ⟨_, _, a12.kept e1, fun p hp => ?_, fun ht => ?_⟩, ⟨⟨rfl, Or.inl ⟨rfl, rfl⟩⟩, fun b hb => by cases hb⟩, ⟨0, a2.kept e2⟩⟩
    · unfold fresh at hp ⊢
      split at hp
      · simp at hp
      · rename_i ht
        rw [if_neg ht]
        simp at hp
        simp [hp]
    · subst ht
      exact ⟨rfl, fun p => by simp [fresh]⟩
  have HBB : Hid (Below B w w3) := b2.trans (b3.mono (by omega))
  clear r3 s3 b3 a1 a2 a12 b2 hm1 hm2
  go_wp2
  go_ret
  exact ⟨B + 2, rfl, by omega, HE.out, HBB.out⟩

def Pl.fuseTo (m : Pl) (n : Int) : Pl := if m.on then { m with fuse := n } else m
theorem fuse_any {w : World} {c : Nat → Colour} {t g db cap : Nat} {gs : Nat → Nat} {m : Pl} (h : PlantAt w c t g db cap gs m) (n : Int) :
    Calls Try.prog 23 #[ptr g, .int .i64 n] w fun e w' => e = .returned noResult ∧ PlantAt w' c t g db cap gs (m.fuseTo n) ∧ Ch (· = g) w w' := by
  have c1 := h.c1
  have c2 := h.c2
  have fz : ∀ i, w.frozen? ⟨g, i, none⟩ = false := fun i => h.row.frozen i
  have HP : Hid (PlantAt w c t g db cap gs m) := h
  clear h
  cases hon : m.on with
  | false =>
    rw [hon] at c1
    go_enter Try.func23, Try.ntmps23
    go_wp2
    go_end0
    refine ⟨rfl, ?_, Ch.refl _ _⟩
    unfold Pl.fuseTo
    rw [hon]
    exact HP.out
  | true =>
    rw [hon] at c1
    go_enter Try.func23, Try.ntmps23
    go_wp2
    go_end0
    have hch : Ch (· = g) w (w.setCell ⟨g, 2, none⟩ (.int .i64 n)) := (Ch.refl (· = g) w).setCell (g := g) (Or.inl rfl) 2 _
    have e : m.fuseTo n = { m with fuse := n } := by unfold Pl.fuseTo; rw [hon]; rfl
    refine ⟨rfl, ?_, hch⟩
    rw [e]
    refine HP.out.head _ rfl rfl rfl hch ?_
    have := HP.out.row.setCell 2 (.int .i64 n)
    simpa [plCells, Pl.n] using this
end Go.Proofs.Ytgkmegcejekbcaa

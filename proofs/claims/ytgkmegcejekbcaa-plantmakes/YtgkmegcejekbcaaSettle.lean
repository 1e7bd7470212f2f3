/- The walk of device.settle. -/
import Derived.Test.YtgkmegcejekbcaaFlush
import Derived.Laws.BitsLemmas
namespace Go.Proofs.Ytgkmegcejekbcaa
open Go.RowKit Go.Maps

theorem i64_and1 (n : Int) : bits .and .i64 n 1 = n % 2 := by
  have h1 : (BitVec.ofInt 64 1).toNat = 2 ^ 1 - 1 := by decide
  have key : (BitVec.ofInt 64 n &&& BitVec.ofInt 64 1).toNat = (n % ((2 ^ 64 : Nat) : Int)).toNat % 2 ^ 1 := by
    rw [BitVec.toNat_and, BitVec.toNat_ofInt, h1, Nat.and_two_pow_sub_one_eq_mod]
  show IntKind.i64.wrap ((BitVec.ofInt 64 n &&& BitVec.ofInt 64 1).toNat : Nat) = n % 2
  rw [key, IntKind.wrap_i64]
  omega
theorem i64_and3 (n : Int) : bits .and .i64 n 3 = n % 4 := by
  have h1 : (BitVec.ofInt 64 3).toNat = 2 ^ 2 - 1 := by decide
  have key : (BitVec.ofInt 64 n &&& BitVec.ofInt 64 3).toNat = (n % ((2 ^ 64 : Nat) : Int)).toNat % 2 ^ 2 := by
    rw [BitVec.toNat_and, BitVec.toNat_ofInt, h1, Nat.and_two_pow_sub_one_eq_mod]
  show IntKind.i64.wrap ((BitVec.ofInt 64 n &&& BitVec.ofInt 64 3).toNat : Nat) = n % 4
  rw [key, IntKind.wrap_i64]
  omega

/-- a block of which half was written -/
def torn (b : List Nat) : List Nat := b.take 32 ++ List.replicate 32 0
theorem torn_sec {b : List Nat} (h : Sec b) : Sec (torn b) := by
  refine ⟨by simp [torn, h.1], fun c hc => ?_⟩
  unfold torn at hc
  rcases List.mem_append.1 hc with hc | hc
  · exact h.2 c (List.mem_of_mem_take hc)
  · have := (List.mem_replicate.1 hc).2
    omega
def goesOn (tape : Bool) (k : Int) : Bool := decide (k % 2 = 1) || !tape
def settled (tape : Bool) (fl : List (List Nat)) (p : Nat) (b : List Nat) (k : Int) : List (List Nat) :=
  if k % 2 = 1 then lay tape fl p b else if tape = true ∧ k % 4 = 2 then lay tape fl p (torn b) else fl

theorem wpQuiet_slice84 {ops : Array Oper} {C : World → Prop} {R : Act → Prop} {o : Oper} {rest : List Oper} {a : Act} (x : Operand) (hgd : o.guard = none) (ho : o.op = .slice 84 x none none none) (g off : Nat) (hx : a.eval x = .pointer (some ⟨g, off, none⟩))
    (h : wpQuiet Try.prog ops C R rest (a.put o.dst (.slice (some ⟨g, off, none⟩) 64 64))) : wpQuiet Try.prog ops C R (o :: rest) a :=
  wpQuiet_value hgd _ (fun w _ => by simp [execOp, ho, hx, slice84]) h
theorem wpQuiet_slice84_32 {ops : Array Oper} {C : World → Prop} {R : Act → Prop} {o : Oper} {rest : List Oper} {a : Act} (x hi : Operand) (hgd : o.guard = none) (ho : o.op = .slice 84 x none (some hi) none) (g off : Nat) (hx : a.eval x = .pointer (some ⟨g, off, none⟩)) (hh : a.eval hi = .int .i64 32)
    (h : wpQuiet Try.prog ops C R rest (a.put o.dst (.slice (some ⟨g, off, none⟩) 32 64))) : wpQuiet Try.prog ops C R (o :: rest) a :=
  wpQuiet_value hgd _ (fun w _ => by simp [execOp, ho, hx, hh, slice84_32]) h
theorem wpQuiet_field {ops : Array Oper} {C : World → Prop} {R : Act → Prop} {o : Oper} {rest : List Oper} {a : Act} {T i k : Nat} (hf : FieldAt T i k) (x : Operand) (hgd : o.guard = none) (ho : o.op = .fieldAddr T x i) (g off : Nat) (hx : a.eval x = .pointer (some ⟨g, off, none⟩))
    (h : wpQuiet Try.prog ops C R rest (a.put o.dst (.pointer (some ⟨g, off + k, none⟩)))) : wpQuiet Try.prog ops C R (o :: rest) a :=
  wpQuiet_value hgd _ (fun w _ => by simp [execOp, ho, hx, hf w g off]) h

set_option maxHeartbeats 600000 in
set_option maxRecDepth 100000 in
theorem settle_any {w : World} {c : Nat → Colour} {k : Colour} {g : Nat} {tape : Bool} {size : Nat} {fl : List (List Nat)} {wt : List Wr} (h : DevIn w c k g tape size fl wt) (x : Wr) (hxs : Sec x.b) (hp4 : x.place < 4096) (hpl : PlaceOk tape fl x.place) (kk : Int) :
    Calls Try.prog 53 #[ptr g, .agg (wrCells x).toArray, .int .i64 kk] w fun e w' => e = .returned (.bool (goesOn tape kk)) ∧ DevIn w' c k g tape size (settled tape fl x.place x.b kk) wt ∧ Ch (fun b => c b = k) w w' := by
  obtain ⟨bm, bl, v, hdev⟩ := h
  have HD : Hid (DevAt w c k g bm bl v tape size fl wt) := hdev
  obtain ⟨r, hr⟩ : ∃ r, r = settled tape fl x.place x.b kk := ⟨_, rfl⟩
  obtain ⟨y, hy⟩ : ∃ y, y = goesOn tape kk := ⟨_, rfl⟩
  rw [← hr, ← hy]
  have HR : Hid (r = settled tape fl x.place x.b kk) := hr
  have HY : Hid (y = goesOn tape kk) := hy
  have hxl := hxs.1
  have HPL : Hid (PlaceOk tape fl x.place) := hpl
  clear hdev hr hy hpl
  go_enter Try.func53, Try.ntmps53
  go_upto_region 0 with fail
  refine wp_region_lit ?_
  refine wpList_box (.tmp 1) rfl rfl (wrCells x) rfl ?_
  intro w1 r1 s1 b1
  refine wpList_assign (.const (.bool false)) rfl rfl (.bool false) rfl ?_
  refine wpList_nil ?_
  simp only [Act.put, List.setIfInBounds_toArray, List.set_cons_succ, List.set_cons_zero]
  obtain ⟨q, hq⟩ : ∃ q, q = w.heap.size := ⟨_, rfl⟩
  rw [← hq] at r1 ⊢
  have HD1 : Hid (DevAt w1 c k g bm bl v tape size fl wt) := HD.out.below b1
  have HC1 : Hid (Ch (fun b => c b = k) w w1) := Ch.of_below b1
  have HS1 : Hid (w1.heap.size = q + 1 ∧ q = w.heap.size) := ⟨by rw [hq]; exact s1, hq⟩
  have d0 := HD1.out.1.at 0 _ rfl
  have d2 := HD1.out.1.at 2 _ rfl
  obtain ⟨pl, hpp⟩ : ∃ pl, pl = x.place := ⟨_, rfl⟩
  have HPP : Hid (pl = x.place) := hpp
  have q1 : w1.cell? ⟨q, 1, none⟩ = some (.int .i64 (pl : Nat)) := by rw [hpp]; exact r1.at 1 _ rfl
  have hcb : ∀ j u, (bcells x.b)[j]? = some u → w1.cell? ⟨q, 0 + 2 + j, none⟩ = some u := fun j u hu => by
    rw [show 0 + 2 + j = j + 2 by omega]
    exact r1.at (j + 2) u (by simpa [wrCells] using hu)
  rw [← hpp] at hp4
  clear b1 s1 hq HD hpp
  by_cases hodd : kk % 2 = 1
  · have hb1 : bits .and .i64 kk 1 = 1 := by rw [i64_and1, hodd]
    have er : r = lay tape fl x.place x.b := by rw [HR.out]; unfold settled; rw [if_pos hodd]
    have ey : y = true := by rw [HY.out]; simp [goesOn, hodd]
    subst ey
    have HRR : Hid (r = lay tape fl x.place x.b) := er
    clear HR HY er r1
    go_upto_region 2 with fail
    refine wp_region_head_drew 8 (by kernel_rfl) (by kernel_rfl) ?_
    simp only [List.take_succ_cons, List.take_zero, List.drop_succ_cons, List.drop_zero]
    iterate 7 (go_big_quiet_step (fail))
    refine wpQuiet_load agg84 (.tmp 18) rfl rfl q (0 + 2) rfl (bcells x.b) (by rw [bcells_length, hxl]) (fun W hW => by obtain ⟨n, rfl⟩ := hW; exact hcb) ?_
    refine wpQuiet_nil ?_
    intro _ hw'
    obtain ⟨nq, hw''⟩ := hw'
    subst hw''
    simp only [Act.put, List.setIfInBounds_toArray, List.set_cons_succ, List.set_cons_zero]
    obtain ⟨f, nf, hm, hff, hft⟩ := HD1.out.2.2.2.2.2.1
    refine wpList_putMap0 (hm.drewN nq) (.tmp 15) (.tmp 17) (.tmp 19) 72 84 rfl rfl rfl Try.underlying72 pl hp4 x.b hxs rfl rfl rfl ?_
    intro w3 hm3 t3
    refine wpList_nil ?_
    have HD3 : Hid (DevIn w3 c k g tape size r wt) := by
      rw [HRR.out]
      refine DevAt.devIn ((HD1.out.kept (w' := w1.drewN nq) fun _ _ hk => ⟨rfl, hk⟩).flushed t3 ?_)
      rw [← HPP.out]
      exact FlIn.lay hff hft (by rw [HPP.out]; exact HPL.out) hm3
    have HC3 : Hid (Ch (fun b => c b = k) w w3) := (HC1.out.drewN nq).grown t3.grown (fun b hb => by cases hb; exact Or.inl HD1.out.2.2.1)
    clear hm hff hft hm3 t3 hcb q1 d2 d0
    go_wp2
    go_ret
    exact ⟨rfl, HD3.out, HC3.out⟩
  · have hb1 : bits .and .i64 kk 1 = 0 := by rw [i64_and1]; omega
    cases htp : tape with
    | false =>
      have er : r = fl := by rw [HR.out]; unfold settled; rw [if_neg hodd, if_neg (by simp [htp])]
      have ey : y = true := by rw [HY.out]; simp [goesOn, htp]
      subst ey
      have HRR : Hid (r = fl) := er
      subst htp
      clear HR HY er r1 hcb q1 d2
      go_wp2
      go_ret
      refine ⟨rfl, ?_, HC1.out⟩
      rw [HRR.out]
      exact HD1.out.devIn
    | true =>
      have ey : y = false := by rw [HY.out]; simp [goesOn, htp, hodd]
      subst ey
      subst htp
      by_cases h4 : kk % 4 = 2
      · have hb3 : bits .and .i64 kk 3 = 2 := by rw [i64_and3, h4]
        have er : r = lay true fl x.place (torn x.b) := by rw [HR.out]; unfold settled; rw [if_neg hodd, if_pos ⟨rfl, h4⟩]
        have HRR : Hid (r = lay true fl x.place (torn x.b)) := er
        clear HR HY er
        go_upto_region 5 with fail
        refine wp_region_lit ?_
        refine wpList_alloc' (zerosU8 64) zero84 rfl rfl ?_
        intro w2 r2 s2 b2
        refine wpList_nil ?_
        simp only [Act.put, List.setIfInBounds_toArray, List.set_cons_succ, List.set_cons_zero]
        obtain ⟨q2, hq2⟩ : ∃ q2, q2 = w1.heap.size := ⟨_, rfl⟩
        rw [← hq2] at r2 s2 b2 ⊢
        have hqq : q < q2 := by have := HS1.out; omega
        have r12 : Row w2 q 87 (wrCells x) := r1.later b2 hqq
        go_upto_region 6 with fail
        refine wp_region_head_drew 3 (by kernel_rfl) (by kernel_rfl) ?_
        simp only [List.take_succ_cons, List.take_zero, List.drop_succ_cons, List.drop_zero]
        refine wpQuiet_slice84_32 (.tmp 7) _ rfl rfl q2 0 rfl rfl ?_
        refine wpQuiet_field f87_2 (.tmp 4) rfl rfl q 0 rfl ?_
        refine wpQuiet_slice84 (.tmp 31) rfl rfl q (0 + 2) rfl ?_
        refine wpQuiet_nil ?_
        intro _ hw'
        obtain ⟨nq, hw''⟩ := hw'
        subst hw''
        simp only [Act.put, List.setIfInBounds_toArray, List.set_cons_succ, List.set_cons_zero]
        refine wpList_copy_row (.tmp 30) (.tmp 32) rfl rfl q2 0 32 64 q (0 + 2) 64 64 84 32 rfl rfl (zerosU8 64) (r2.drewN nq) (x.b.take 32) (by simp [hxl]) rfl ?cp (by simp [zerosU8]) ?_
        case cp =>
          intro j hj
          have hj32 : j < 32 := by simp at hj; omega
          have := r12.at (j + 2) (.int .u8 (x.b.getD j 0 : Nat)) (by have := bcells_at x.b j (by omega); simpa [wrCells] using this)
          rw [show 0 + 2 + j = j + 2 by omega]
          have e : (x.b.take 32).getD j 0 = x.b.getD j 0 := by simp [hj32]
          rw [e]
          exact this
        intro w4 r4 s4 ch4
        refine wpList_nil ?_
        simp only [Act.put, List.setIfInBounds_toArray, List.set_cons_succ, List.set_cons_zero]
        have r4' : Row w4 q2 84 (bcells (torn x.b)) := by
          have e : splice (zerosU8 64) 0 (bcells (x.b.take 32)) = bcells (torn x.b) := by
            simp [splice, torn, bcells, zerosU8, hxl]
          rw [← e]
          exact r4
        have hk4 : ∀ b, b < w1.heap.size → w4.heap[b]? = w1.heap[b]? := fun b hb => (ch4.block b (by show b < w2.heap.size; omega) (by omega)).trans (b2.block b (by omega))
        have HD4 : Hid (DevAt w4 c k g bm bl v true size fl wt) := HD1.out.kept fun b hb hk => ⟨hk4 b hb, hk⟩
        have HC4 : Hid (Ch (fun b => c b = k) w w4) := by
          have h2 : Ch (fun b => c b = k) w (w2.drewN nq) := (HC1.out.trans (Ch.of_below (by rw [← hq2]; exact b2))).drewN nq
          refine h2.trans' ch4 fun b hb e => ?_
          have := HC1.out.size
          omega
        have d24 := HD4.out.1.at 2 _ rfl
        have d04 := HD4.out.1.at 0 _ rfl
        have q14 : w4.cell? ⟨q, 1, none⟩ = some (.int .i64 (pl : Nat)) := by
          rw [← q1]
          exact World.cell?_of_block (hk4 q (by omega))
        have hc4 : ∀ j u, (bcells (torn x.b))[j]? = some u → w4.cell? ⟨q2, 0 + j, none⟩ = some u := fun j u hu => by
          rw [Nat.zero_add]
          exact r4'.at j u hu
        have hts := torn_sec hxs
        clear r4 r4' s4 ch4 r2 s2 b2 r12 r1 hk4 d0 d2 q1 hcb hq2
        go_upto_region 7 with fail
        refine wp_region_head_drew 7 (by kernel_rfl) (by kernel_rfl) ?_
        simp only [List.take_succ_cons, List.take_zero, List.drop_succ_cons, List.drop_zero]
        iterate 6 (go_big_quiet_step (fail))
        refine wpQuiet_load agg84 (.tmp 7) rfl rfl q2 0 rfl (bcells (torn x.b)) (by rw [bcells_length]; exact hts.1) (fun W hW => by obtain ⟨n, rfl⟩ := hW; exact hc4) ?_
        refine wpQuiet_nil ?_
        intro _ hw'
        obtain ⟨nr, hw''⟩ := hw'
        subst hw''
        simp only [Act.put, List.setIfInBounds_toArray, List.set_cons_succ, List.set_cons_zero]
        obtain ⟨f, nf, hm, hff, hft⟩ := HD4.out.2.2.2.2.2.1
        refine wpList_putMap0 (hm.drewN nr) (.tmp 37) (.tmp 39) (.tmp 40) 72 84 rfl rfl rfl Try.underlying72 pl hp4 (torn x.b) hts rfl rfl rfl ?_
        intro w5 hm5 t5
        refine wpList_nil ?_
        have HD5 : Hid (DevAt w5 c k g bm bl v true size r wt) := by
          rw [HRR.out]
          refine (HD4.out.kept (w' := w4.drewN nr) fun _ _ hk => ⟨rfl, hk⟩).flushed t5 ?_
          rw [← HPP.out]
          exact FlIn.lay hff hft (by rw [HPP.out]; exact HPL.out) hm5
        have HC5 : Hid (Ch (fun b => c b = k) w w5) := (HC4.out.drewN nr).grown t5.grown (fun b hb => by cases hb; exact Or.inl HD4.out.2.2.1)
        have d05 := HD5.out.1.at 0 _ rfl
        clear hm hff hft hm5 t5 hc4 q14 d24 d04
        go_wp2
        go_ret
        exact ⟨rfl, HD5.out.devIn, HC5.out⟩
      · have hb3 : bits .and .i64 kk 3 = kk % 4 := i64_and3 kk
        have t4 : (kk % 4 == 2) = false := by simpa using h4
        have er : r = fl := by rw [HR.out]; unfold settled; rw [if_neg hodd, if_neg (by simp [h4])]
        have HRR : Hid (r = fl) := er
        clear HR HY er r1 hcb q1 d2
        go_wp2
        go_ret
        refine ⟨rfl, ?_, HC1.out⟩
        rw [HRR.out]
        exact HD1.out.devIn
end Go.Proofs.Ytgkmegcejekbcaa

/- A Grow: leaves that come one by one. -/
import Derived.Test.YtfnncccioipjcaaDoorTMem
import Derived.Test.YtfnncccioipjcaaDoorInclB
namespace Go.Proofs.YtfnncccioipjcaaDoor
namespace Tree
theorem add_step (A Bs : List (List Nat)) (x : List Nat) (j q : Nat) (hA : A.length = (2 * q + 1) * 2 ^ j) (hB : Bs.length + 1 = 2 ^ j) :
    ∃ A' C, A = A' ++ C ∧ C.length = 2 ^ j ∧ A'.length = q * 2 ^ (j + 1) ∧ peaks A = peaks A' ++ [root C] ∧ root ((C ++ Bs) ++ [x]) = node (root C) (root (Bs ++ [x])) ∧ (C ++ Bs).length + 1 = 2 ^ (j + 1) := by
  have h1 : q * 2 ^ (j + 1) + 2 ^ j = (2 * q + 1) * 2 ^ j := by rw [Nat.pow_succ, Nat.add_mul, Nat.one_mul, Nat.mul_comm 2 q, Nat.mul_assoc, Nat.mul_comm 2 (2 ^ j)]
  have hl1 : (A.take (q * 2 ^ (j + 1))).length = q * 2 ^ (j + 1) := by rw [List.length_take]; omega
  have hl2 : (A.drop (q * 2 ^ (j + 1))).length = 2 ^ j := by rw [List.length_drop]; omega
  refine ⟨A.take (q * 2 ^ (j + 1)), A.drop (q * 2 ^ (j + 1)), (List.take_append_drop _ _).symm, hl2, hl1, ?_, ?_, ?_⟩
  · have := peaks_behind j _ (A.take (q * 2 ^ (j + 1))) (A.drop (q * 2 ^ (j + 1))) rfl ⟨q, by rw [hl1, Nat.mul_comm]⟩ hl2
    rwa [List.take_append_drop] at this
  · rw [List.append_assoc]
    exact root_parts _ _ j hl2 (by simp) (by simp; omega)
  · rw [List.length_append, hl2, Nat.pow_succ]
    omega
theorem add_end (A Bs : List (List Nat)) (x : List Nat) (j q : Nat) (hA : A.length = (2 * q) * 2 ^ j) (hB : Bs.length + 1 = 2 ^ j) : peaks ((A ++ Bs) ++ [x]) = peaks A ++ [root (Bs ++ [x])] := by
  rw [List.append_assoc]
  refine peaks_behind j _ A (Bs ++ [x]) rfl ⟨q, ?_⟩ (by simp; omega)
  rw [hA, Nat.pow_succ, Nat.mul_comm 2 q, Nat.mul_assoc, Nat.mul_comm q, Nat.mul_comm 2]
theorem fold_drop (ps : List (List Nat)) (j : Nat) (h : j + 1 < ps.length) : fold (ps.drop j) = node (ps.getD j []) (fold (ps.drop (j + 1))) := by
  rw [List.drop_eq_getElem_cons (by omega), fold_cons _ _ (by
    intro e
    have := congrArg List.length e
    simp at this
    omega)]
  simp [show j < ps.length by omega]
theorem fold_last (ps : List (List Nat)) (j : Nat) (h : j + 1 = ps.length) : fold (ps.drop j) = ps.getD j [] := by
  rw [List.drop_eq_getElem_cons (by omega), List.drop_of_length_le (by omega)]
  simp [show j < ps.length by omega, fold]
end Tree
theorem peaks_all : ∀ (n : Nat) (hs : List (List Nat)), hs.length = n → AllH hs → AllH (Tree.peaks hs) := by
  intro n
  induction n using Nat.strongRecOn with
  | _ n ih =>
    intro hs hn ha
    by_cases h0 : hs.length = 0
    · rw [Tree.peaks_none hs h0]
      exact AllH.nil
    · have hp := Nat.pow_pos (n := Nat.log2 hs.length) (show 0 < 2 by decide)
      rw [Tree.peaks_some hs h0]
      intro x hx
      rcases List.mem_cons.1 hx with rfl | hx
      · exact (ha.take _).root
      · exact ih (hs.length - 2 ^ Nat.log2 hs.length) (by omega) (hs.drop (2 ^ Nat.log2 hs.length)) List.length_drop (ha.drop _) x hx
theorem AllH.peaks {hs : List (List Nat)} (h : AllH hs) : AllH (Tree.peaks hs) := peaks_all _ hs rfl h
end Go.Proofs.YtfnncccioipjcaaDoor

namespace Go.Proofs.YtfnncccioipjcaaDoor
open Go.RowKit

/-- append, and where its result lies: where it lay, or in a new block -/
theorem run_happend2 {w : World} (base : Nat) (v vx : Value) (hs ys : List (List Nat)) (hown : HOwn w base v hs) (hin : HIn w vx ys) (hne : ys ≠ []) (hsz : (hs.length + ys.length) * 32 ≤ 140737488355328) (hbase : base ≤ w.heap.size) :
    ∃ v' w', (Builtin.append_ #[24, 24] 24 #[v, vx]).run Tryd.prog w = .ok v' w' ∧ HOwn w' base v' (hs ++ ys) ∧ w.grownBy w' v.ownBlock ∧ (v'.ownBlock = v.ownBlock ∨ ∀ k, v'.ownBlock = some k → w.heap.size ≤ k) := by
  obtain ⟨v', w', hr, ho', hg⟩ := run_happend base 24 v vx hs ys hown hin hsz hbase
  refine ⟨v', w', hr, ho', hg, ?_⟩
  obtain ⟨i, hi, hz0, hz1, hz2⟩ := info_parts info27
  rcases hown.2.2 with ⟨rfl, h0⟩ | ⟨g, cap', cur, rfl, hbg, hgb, hcap, hmax, hcs, htake⟩
  · right
    have hs0 : hs = [] := List.length_eq_zero_iff.1 h0
    subst hs0
    obtain ⟨v2, w2, hr2, ho2, _⟩ := run_happend w.heap.size 24 (.slice none 0 0) vx [] ys (HOwn.nil w _) hin hsz (Nat.le_refl _)
    rw [hr] at hr2
    injection hr2 with e1 e2
    subst e1 e2
    exact fun k hk => (ho2.2.lt k hk).1
  · obtain ⟨hay, p, cap, rfl, hl, hin⟩ := hin
    rcases hin with h | ⟨b, off, rfl, hc, _⟩
    · exact absurd h hne
    have hnews : ∀ j u, (bcells ys.flatten)[j]? = some u → w.cell? ((⟨b, off, none⟩ : Addr).add j) = some u := fun j u hu => by
      have hj : j < ys.flatten.length := by
        have := (List.getElem?_eq_some_iff.1 hu).1
        rwa [bcells_length] at this
      rw [add_none, hc j hj, ← hu, bcells_at _ j hj]
    have hnl : (bcells ys.flatten).length = ys.length * i.size := by rw [bcells_length, flat_length ys hay, hz1]
    by_cases hroom : hs.length + ys.length ≤ cap'
    · have hr2 := run_append_room (P := Tryd.prog) w 24 24 29 i Tryd.underlying24 hi g hs.length cap' cur hgb ⟨b, off, none⟩ ys.length cap (bcells ys.flatten) hnl hnews (bcells_one _) hroom (by rw [hnl, hz1, hcs]; omega)
      rw [hr] at hr2
      left
      injection hr2 with e1 e2
      rw [e1]
      rfl
    · have hlen : 0 < hs.length ∨ hs.length = 0 := by omega
      have hr2 := run_append_grow (P := Tryd.prog) w 24 24 29 i (.agg (zerosU8 32).toArray) Tryd.underlying24 hi hz0 ⟨g, 0, none⟩ hs.length cap' (bcells hs.flatten) (by rw [bcells_length, flat_length hs hown.1, hz1]) (hown.2.cells (g := g) rfl) ⟨b, off, none⟩ ys.length cap (bcells ys.flatten) hnl hnews (by omega) (by unfold maxLen at hmax; omega) (growslice_fits (by omega) (by rw [hz2]; omega))
      rw [hr] at hr2
      right
      injection hr2 with e1 e2
      intro k hk
      rw [e1] at hk
      injection hk with hk
      exact Nat.le_of_eq hk

/-- a Grow at block g, its row at v, that has taken these leaves -/
def GrowAt (w : World) (g : Nat) (v : Value) (hs : List (List Nat)) : Prop := AllH hs ∧ Row w g 53 [.int .i64 (hs.length : Nat), v] ∧ HOwn w 2 v (Tree.peaks hs) ∧ v.ownBlock ≠ some g
/-- nothing has turned but block g and the row k -/
structure Kept (g : Nat) (k : Option Nat) (w w' : World) : Prop where
  os : w'.os = w.os
  tape : w'.tape = w.tape
  output : w'.output = w.output
  size : w.heap.size ≤ w'.heap.size
  block : ∀ i, i < w.heap.size → i ≠ g → k ≠ some i → w'.heap[i]? = w.heap[i]?
theorem own_kept {w w' : World} {base : Nat} {v : Value} {hs : List (List Nat)} (h : HOwn w base v hs) (hb : ∀ b, v.ownBlock = some b → w'.heap[b]? = w.heap[b]?) : HOwn w' base v hs := by
  obtain ⟨ha, hl, h⟩ := h
  refine ⟨ha, hl, ?_⟩
  rcases h with ⟨rfl, h⟩ | ⟨g, cap, cur, rfl, h0, hg, h⟩
  · exact Or.inl ⟨rfl, h⟩
  · exact Or.inr ⟨g, cap, cur, rfl, h0, (hb g rfl).trans hg, h⟩
theorem GrowAt.below {w w' : World} {g : Nat} {v : Value} {hs : List (List Nat)} (h : GrowAt w g v hs) (hb : Below w.heap.size w w') : GrowAt w' g v hs :=
  ⟨h.1, h.2.1.later hb h.2.1.lt, h.2.2.1.later hb (Nat.le_refl _), h.2.2.2⟩
theorem GrowAt.len {w : World} {g : Nat} {v : Value} {hs : List (List Nat)} (h : GrowAt w g v hs) : w.cell? ⟨g, 0, none⟩ = some (.int .i64 (hs.length : Nat)) := h.2.1.at 0 _ rfl
theorem GrowAt.full {w : World} {g : Nat} {v : Value} {hs : List (List Nat)} (h : GrowAt w g v hs) : w.cell? ⟨g, 1, none⟩ = some v := h.2.1.at 1 _ rfl

theorem run_build53 (w : World) : (Instr.build 53 #[]).run Tryd.prog w = .ok (.agg ([.int .i64 0, .slice none 0 0] : List Value).toArray) w := by kernel_rfl
theorem f53_0 : FieldAt 53 0 0 := fun w g off => by kernel_rfl
theorem f53_1 : FieldAt 53 1 1 := fun w g off => by kernel_rfl
section
variable {w : World} {ops : Array Oper} {rest : List Oper} {o : Oper} {a : Act} {Q : Exit → Act → World → Prop}
theorem wl_build53 (hgd : Region.wanted o (yielded ops a.tmps) = true) (ho : o.op = .build 53 #[]) (h : wpList Tryd.prog ops Q rest (a.put o.dst (.agg ([.int .i64 0, .slice none 0 0] : List Value).toArray)) w) : wpList Tryd.prog ops Q (o :: rest) a w :=
  wl hgd _ w (by simp [execOp, ho, run_build53]) h
theorem rx_fieldG {T i k : Nat} (hf : FieldAt T i k) (x : Operand) (ho : o.op = .fieldAddr T x i) (g off : Nat) (hx : a.eval x = .pointer (some ⟨g, off, none⟩)) : (execOp a.eval o).run Tryd.prog w = .ok (.value (.pointer (some ⟨g, off + k, none⟩))) w := by
  simp [execOp, ho, hx, hf w g off]
end

set_option maxHeartbeats 400000 in
theorem newGrow_any (w : World) :
    Calls Tryd.prog 10 #[] w fun e w' => e = .returned (.pointer (some ⟨w.heap.size, 0, none⟩)) ∧ GrowAt w' w.heap.size (.slice none 0 0) [] ∧ Below w.heap.size w w' := by
  go_enter Tryd.func10, Tryd.ntmps10
  go_wp2_with (first
    | (refine wl_build53 rfl rfl ?_)
    | (refine wpList_box (.tmp 1) rfl rfl [.int .i64 0, .slice none 0 0] rfl ?_; intro w1 r1 s1 b1; have R1 : Hid (GrowAt w1 w.heap.size (.slice none 0 0) [] ∧ Below w.heap.size w w1) := ⟨⟨AllH.nil, r1, by rw [Tree.peaks_none [] rfl]; exact HOwn.nil _ _, by intro e; cases e⟩, b1⟩; clear r1 s1 b1))
  go_ret
  exact ⟨rfl, R1.out.1, R1.out.2⟩
set_option maxHeartbeats 400000 in
theorem growSize_any (g : Nat) (v : Value) (hs : List (List Nat)) (w : World) (h : GrowAt w g v hs) :
    Calls Tryd.prog 17 #[.pointer (some ⟨g, 0, none⟩)] w fun e w' => e = .returned (.int .i64 (hs.length : Nat)) ∧ w = w' := by
  have h0 := h.len
  go_enter Tryd.func17, Tryd.ntmps17
  go_wp2
  go_ret
  exact ⟨rfl, rfl⟩
end Go.Proofs.YtfnncccioipjcaaDoor

namespace Go.Proofs.YtfnncccioipjcaaDoor
open Go.RowKit

theorem i64_and1 (n : Int) : bits .and .i64 n 1 = n % 2 := by
  have h1 : (BitVec.ofInt 64 1).toNat = 2 ^ 1 - 1 := by decide
  have key : (BitVec.ofInt 64 n &&& BitVec.ofInt 64 1).toNat = (n % ((2 ^ 64 : Nat) : Int)).toNat % 2 ^ 1 := by
    rw [BitVec.toNat_and, BitVec.toNat_ofInt, h1, Nat.and_two_pow_sub_one_eq_mod]
  show IntKind.i64.wrap ((BitVec.ofInt 64 n &&& BitVec.ofInt 64 1).toNat : Nat) = n % 2
  rw [key, IntKind.wrap_i64]
  omega
set_option maxHeartbeats 1000000 in
set_option maxRecDepth 100000 in
theorem growRoot_none (g : Nat) (v : Value) (hs : List (List Nat)) (w : World) (h : GrowAt w g v hs) (ht : TabIn w) (hst : StartIn w) (hn : hs.length = 0) :
    Calls Tryd.prog 11 #[.pointer (some ⟨g, 0, none⟩)] w fun e w' => e = .returned (hv (Tree.root hs)) ∧ Below w.heap.size w w' := by
  have h0 := h.len
  rw [hn] at h0
  have HR : Hid (Tree.root hs = Tree.root []) := by
    have : hs = [] := List.length_eq_zero_iff.1 hn
    show _ = _
    rw [this]
  clear hn h
  obtain ⟨g0, hg0⟩ : ∃ g0, g0 = w.heap.size := ⟨_, rfl⟩
  have G0 : Hid (g0 = w.heap.size) := hg0
  go_enter Tryd.func11, Tryd.ntmps11
  go_upto_region 0 with fail
  refine wp_region_lit ?_
  refine wl_alloc rfl rfl ?_
  rw [← hg0]
  intro w1 r1 s1 b1
  refine wpList_nil ?_
  have R1 : Hid (HIs w1 g0 noH ∧ Below w.heap.size w w1) := ⟨r1, hg0 ▸ b1⟩
  have h1 : w1.cell? ⟨g, 0, none⟩ = some (.int .i64 0) := cell_later R1.out.2 h0
  clear r1 s1 b1 hg0 h0
  go_wp2_with (first
    | (go_at_call 29; refine (root_any 0 (.slice none 0 0) [] w1 rfl (by decide) (HIn.nil w1) (ht.later R1.out.2) (hst.later R1.out.2)).mono ?_; rintro e w2 ⟨rfl, b2⟩; have R2 : Hid (HIs w2 g0 noH ∧ Below w.heap.size w w2) := ⟨R1.out.1.next b2, below_append R1.out.2 b2⟩; clear b2)
    | (refine wl_store (.tmp 2) (.tmp 11) rfl rfl rfl g0 rfl noH (Tree.root []) (AllH.root AllH.nil) rfl R2.out.1 ?_; intro w7 r7 o7 s7; have R7 : Hid (HIs w7 g0 (Tree.root []) ∧ Below w.heap.size w w7) := ⟨r7, R2.out.2.trans (o7.below (Nat.le_of_eq G0.out.symm) R2.out.2.size)⟩; clear r7 o7 s7 R2))
  exact bodyPost_ret (results_H Tryd.results11 _ _ g0 rfl _ R7.out.1) rfl ⟨by rw [HR.out], R7.out.2⟩

/-- where the loop stands -/
def RootTo (w W : World) (g gr n : Nat) (v : Value) (r : List Nat) : Prop := Row W g 53 [.int .i64 (n : Nat), v] ∧ HIs W gr r ∧ Below w.heap.size w W
set_option maxHeartbeats 2000000 in
set_option maxRecDepth 100000 in
theorem growRoot_some (g : Nat) (v : Value) (hs : List (List Nat)) (n q : Nat) (w : World) (h : GrowAt w g v hs) (ht : TabIn w) (hst : StartIn w) (hn : hs.length = n) (hpos : 0 < n) (hmax : n ≤ 1099511627776) (hq : (Tree.peaks hs).length = q + 1) :
    Calls Tryd.prog 11 #[.pointer (some ⟨g, 0, none⟩)] w fun e w' => e = .returned (hv (Tree.root hs)) ∧ Below w.heap.size w w' := by
  have HR : Hid (Tree.root hs = Tree.fold (Tree.peaks hs)) := (Tree.fold_peaks _ hs rfl).symm
  have hq40 : q + 1 ≤ 41 := by
    have := Tree.peaks_length 41 hs (by rw [hn]; omega)
    omega
  have hglt := h.2.1.lt
  have HW : Hid (Row w g 53 [.int .i64 (n : Nat), v] ∧ HIn w v (Tree.peaks hs)) := ⟨by have := h.2.1; rwa [hn] at this, h.2.2.1.hin⟩
  have HPA : Hid (AllH (Tree.peaks hs)) := h.1.peaks
  clear h hn
  generalize Tree.peaks hs = ps at hq HR HW HPA
  have HQ : Hid (ps.length = q + 1) := hq
  have HL : Hid (Tree.fold (ps.drop q) = ps.getD q []) := Tree.fold_last ps q hq.symm
  clear hq
  have hne0 : ((n : Int) == 0) = false := by simp; omega
  have hne0' : ¬ (n : Int) = 0 := by omega
  obtain ⟨g0, hg0⟩ : ∃ g0, g0 = w.heap.size := ⟨_, rfl⟩
  have G0 : Hid (g0 = w.heap.size) := hg0
  go_enter Tryd.func11, Tryd.ntmps11
  go_upto_region 0 with fail
  refine wp_region_lit ?_
  refine wl_alloc rfl rfl ?_
  rw [← hg0]
  intro w1 r1 s1 b1
  refine wpList_nil ?_
  have R1 : Hid (HIs w1 g0 noH ∧ w1.heap.size = g0 + 1 ∧ Below w.heap.size w w1) := ⟨r1, s1, hg0 ▸ b1⟩
  have c0 : w1.cell? ⟨g, 0, none⟩ = some (.int .i64 (n : Nat)) := cell_later R1.out.2.2 (HW.out.1.at 0 _ rfl)
  have c1 : w1.cell? ⟨g, 1, none⟩ = some v := cell_later R1.out.2.2 (HW.out.1.at 1 _ rfl)
  clear r1 s1 b1 hg0
  obtain ⟨r0, hr0⟩ : ∃ r0, r0 = Tree.fold (ps.drop q) := ⟨_, rfl⟩
  have HX : Hid (ps.getD q [] = r0) := by rw [hr0]; exact HL.out.symm
  have HE : Hid (r0 = Tree.fold (ps.drop q)) := hr0
  clear hr0
  go_wp2_with (first
    | (refine wl_lenN (.tmp 15) rfl rfl v ps rfl HW.out.2 (q + 1) HQ.out ?_)
    | (refine wl_index (.tmp 21) (.tmp 22) rfl rfl v ps rfl (HW.out.2.later R1.out.2.2) _ q rfl (by omega) (by have := HQ.out; omega) ?_; intro p hp; rw [HX.out] at hp)
    | (refine wl_load (.tmp 23) rfl rfl p rfl r0 hp ?_)
    | (refine wl_new rfl rfl rfl rfl rfl (.tmp 24) rfl r0 hp.1 (fun _ => rfl) (fun _ => rfl) ?_; rw [R1.out.2.1]; intro w2 r2 s2 b2; have R2 : Hid (RootTo w w2 g (g0 + 1) n v r0 ∧ HIs w2 g0 noH) := ⟨⟨HW.out.1.later (below_append R1.out.2.2 (R1.out.2.1 ▸ b2)) hglt, r2, below_append R1.out.2.2 (R1.out.2.1 ▸ b2)⟩, R1.out.1.later b2 (by omega)⟩; clear r2 s2 b2))
  go_loopw [5] (fun i W => ∃ j : Nat, j ≤ q ∧ i = .int .i64 ((j : Int) - 1) ∧ RootTo w W g (g0 + 1) n v (Tree.fold (ps.drop j)) ∧ HIs W g0 noH) (fun i _ => (intOf i + 1).toNat)
  case atStart => exact ⟨q, Nat.le_refl _, by go_num, by rw [← HE.out]; exact R2.out.1, R2.out.2⟩
  case round =>
    clear R1 R2 c0 c1
    obtain ⟨j, hj, rfl, hr, hb⟩ := hrel
    by_cases h0 : j = 0
    · subst h0
      rw [List.drop_zero, ← HR.out] at hr
      have R5 : Hid (HIs wr (g0 + 1) (Tree.root hs) ∧ HIs wr g0 noH ∧ Below w.heap.size w wr) := ⟨hr.2.1, hb, hr.2.2⟩
      clear hr hb
      go_wp2_with (first
        | (refine wl_load (.tmp 4) rfl rfl (.pointer (some ⟨g0 + 1, 0, none⟩)) rfl (Tree.root hs) R5.out.1.at ?_)
        | (refine wl_store (.tmp 2) (.tmp 40) rfl rfl rfl g0 rfl noH (Tree.root hs) R5.out.1.1 rfl R5.out.2.1 ?_; intro w7 r7 o7 s7; have R7 : Hid (HIs w7 g0 (Tree.root hs) ∧ Below w.heap.size w w7) := ⟨r7, R5.out.2.2.trans (o7.below (Nat.le_of_eq G0.out.symm) R5.out.2.2.size)⟩; clear r7 o7 s7))
      exact bodyPost_ret (results_H Tryd.results11 _ _ g0 rfl _ R7.out.1) rfl ⟨rfl, R7.out.2⟩
    · obtain ⟨t, rfl⟩ : ∃ t, j = t + 1 := ⟨j - 1, by omega⟩
      have HF0 : Tree.fold (ps.drop t) = Tree.node (ps.getD t []) (Tree.fold (ps.drop (t + 1))) := Tree.fold_drop ps t (by have := HQ.out; omega)
      obtain ⟨p, hp1, hp2⟩ := run_hindex (HW.out.2.later hr.2.2) t (by have := HQ.out; omega)
      have HF : Hid (Tree.fold (ps.drop t) = Tree.node (ps.getD t []) (Tree.fold (ps.drop (t + 1)))) := HF0
      have HP : Hid ((∀ w', (Instr.indexAt 24 v (.int .i64 (t : Nat))).run Tryd.prog w' = .ok p w') ∧ HAt wr p (ps.getD t [])) := ⟨hp1, hp2⟩
      have HI : Hid (RootTo w wr g (g0 + 1) n v (Tree.fold (ps.drop (t + 1))) ∧ HIs wr g0 noH) := ⟨hr, hb⟩
      clear hr hb hp1 hp2 HF0
      generalize ps.getD t [] = y at HF HP
      generalize Tree.fold (ps.drop (t + 1)) = r at HF HI
      rw [show ((t + 1 : Nat) : Int) - 1 = (t : Int) by omega]
      go_wp2_with fail
      refine wp_region_until (S := fun W => Row W g 53 [.int .i64 (n : Nat), v] ∧ HAt W p y ∧ HIs W (g0 + 1) r) 9 (by kernel_rfl) ?_
      show wpAnyU _ _ _ _ _ _ 10 (Array.replicate 10 false) _ _
      have hS : Row { wr with drawn := wr.drawn + 1 } g 53 [.int .i64 (n : Nat), v] ∧ HAt { wr with drawn := wr.drawn + 1 } p y ∧ HIs { wr with drawn := wr.drawn + 1 } (g0 + 1) r := ⟨HI.out.1.1, HP.out.2, HI.out.1.2.1⟩
      have bd : Below w.heap.size w { wr with drawn := wr.drawn + 1 } := below_append HI.out.1.2.2 (below_drawn wr _)
      refine takeU (i := 0) (some 31) rfl rfl (by kernel_rfl) (by kernel_rfl) (by kernel_rfl) (by kernel_rfl) (by kernel_rfl) (fun _ _ _ h => h) (yMove rfl (.tmp 0) rfl (.pointer (some ⟨g, 0, none⟩)) rfl) hS ?_
      simp only [Act.put, List.setIfInBounds_toArray, List.set_cons_succ, List.set_cons_zero]
      refine takeU (i := 1) (some 32) rfl rfl (by kernel_rfl) (by kernel_rfl) (by kernel_rfl) (by kernel_rfl) (by kernel_rfl) (fun _ _ _ h => h) (yRun rfl _ (fun _ _ => rx_nil (.tmp 31) rfl ⟨g, 0, none⟩ rfl)) hS ?_
      simp only [Act.put, List.setIfInBounds_toArray, List.set_cons_succ, List.set_cons_zero]
      refine takeU (i := 2) (some 33) rfl rfl (by kernel_rfl) (by kernel_rfl) (by kernel_rfl) (by kernel_rfl) (by kernel_rfl) (fun _ _ _ h => h) (yRun rfl _ (fun _ _ => rx_fieldG f53_1 (.tmp 32) rfl g 0 rfl)) hS ?_
      simp only [Act.put, List.setIfInBounds_toArray, List.set_cons_succ, List.set_cons_zero]
      refine takeU (i := 3) (some 34) rfl rfl (by kernel_rfl) (by kernel_rfl) (by kernel_rfl) (by kernel_rfl) (by kernel_rfl) (fun _ _ _ h => h) (yRun rfl _ (fun W hW => rx_load1 one24 (.tmp 33) rfl g (0 + 1) rfl v (hW.1.at 1 v rfl))) hS ?_
      simp only [Act.put, List.setIfInBounds_toArray, List.set_cons_succ, List.set_cons_zero]
      refine takeU (i := 4) (some 35) rfl rfl (by kernel_rfl) (by kernel_rfl) (by kernel_rfl) (by kernel_rfl) (by kernel_rfl) (fun _ _ _ h => h) (yMove rfl (.tmp 5) rfl (.int .i64 (t : Nat)) rfl) hS ?_
      simp only [Act.put, List.setIfInBounds_toArray, List.set_cons_succ, List.set_cons_zero]
      refine takeU (i := 5) (some 36) rfl rfl (by kernel_rfl) (by kernel_rfl) (by kernel_rfl) (by kernel_rfl) (by kernel_rfl) (fun _ _ _ h => h) (yIndex rfl (.tmp 34) (.tmp 35) rfl v p rfl _ rfl HP.out.1) hS ?_
      simp only [Act.put, List.setIfInBounds_toArray, List.set_cons_succ, List.set_cons_zero]
      refine takeU (i := 6) (some 37) rfl rfl (by kernel_rfl) (by kernel_rfl) (by kernel_rfl) (by kernel_rfl) (by kernel_rfl) (fun _ _ _ h => h) (yLoad rfl (.tmp 36) rfl p rfl y (fun _ h => h.2.1)) hS ?_
      simp only [Act.put, List.setIfInBounds_toArray, List.set_cons_succ, List.set_cons_zero]
      refine takeU (i := 7) (some 38) rfl rfl (by kernel_rfl) (by kernel_rfl) (by kernel_rfl) (by kernel_rfl) (by kernel_rfl) (fun _ _ _ h => h) (yLoad rfl (.tmp 4) rfl (.pointer (some ⟨g0 + 1, 0, none⟩)) rfl r (fun _ h => h.2.2.at)) hS ?_
      simp only [Act.put, List.setIfInBounds_toArray, List.set_cons_succ, List.set_cons_zero]
      refine oneU (i := 8) (by kernel_rfl) ?_
      refine opCallA (some 39) rfl rfl rfl 28 _ (run_call en14 [.tmp 37, .tmp 38] _ rfl [hv y, hv r] rfl) ?_
      refine (node_any y r HP.out.2.1 HI.out.1.2.1.1 _ (ht.later bd) (hst.later bd)).mono ?_
      rintro e w2 ⟨rfl, b2⟩
      refine ⟨_, rfl, fun _ => ⟨hS.1.later b2 hS.1.lt, hS.2.1.later b2, hS.2.2.next b2⟩, ?_⟩
      have P2 : Hid (RootTo w w2 g (g0 + 1) n v r ∧ HIs w2 g0 noH) := ⟨⟨hS.1.later b2 hS.1.lt, hS.2.2.next b2, below_append bd b2⟩, HI.out.2.next (below_append (below_drawn wr _) b2)⟩
      clear hS b2 bd
      simp only [Act.put, List.setIfInBounds_toArray, List.set_cons_succ, List.set_cons_zero]
      refine oneU (i := 9) (by kernel_rfl) ?_
      refine opSkip rfl rfl rfl _ (rx_store (.tmp 4) (.tmp 39) rfl (g0 + 1) rfl r (Tree.node y r) (node_isH _ _) rfl P2.out.1.2.1) ?_
      have o3 : Only (g0 + 1) w2 (w2.setRow (g0 + 1) (bcells (Tree.node y r)).toArray) := (Only.refl (g0 + 1) w2).setRow _
      have P3 : Hid (RootTo w (w2.setRow (g0 + 1) (bcells (Tree.node y r)).toArray) g (g0 + 1) n v (Tree.node y r) ∧ HIs (w2.setRow (g0 + 1) (bcells (Tree.node y r)).toArray) g0 noH) := ⟨⟨o3.row (by have := G0.out; omega) P2.out.1.1, his_store (node_isH _ _) P2.out.1.2.1, P2.out.1.2.2.trans (o3.below (by have := G0.out; omega) P2.out.1.2.2.size)⟩, P2.out.2.other o3 (by omega)⟩
      refine ⟨fun h => absurd h (by decide), ?_⟩
      generalize w2.setRow (g0 + 1) (bcells (Tree.node y r)).toArray = w3 at P3 ⊢
      clear o3 P2
      refine wpAnyU_done (by kernel_rfl) ?_ _
      go_wp2_with fail
      exact ⟨⟨t, by omega, by go_num, by rw [HF.out]; exact P3.out.1, P3.out.2⟩, by simp [intOf]⟩

theorem growRoot_any (g : Nat) (v : Value) (hs : List (List Nat)) (w : World) (h : GrowAt w g v hs) (ht : TabIn w) (hst : StartIn w) (hmax : hs.length ≤ 1099511627776) :
    Calls Tryd.prog 11 #[.pointer (some ⟨g, 0, none⟩)] w fun e w' => e = .returned (hv (Tree.root hs)) ∧ Below w.heap.size w w' := by
  by_cases h0 : hs.length = 0
  · exact growRoot_none g v hs w h ht hst h0
  · have hne := Tree.peaks_ne hs h0
    obtain ⟨q, hq⟩ : ∃ q, (Tree.peaks hs).length = q + 1 := ⟨(Tree.peaks hs).length - 1, by have := List.length_pos_iff.2 hne; omega⟩
    exact growRoot_some g v hs hs.length q w h ht hst rfl (by omega) hmax hq
end Go.Proofs.YtfnncccioipjcaaDoor

namespace Go.Proofs.YtfnncccioipjcaaDoor
open Go.RowKit

theorem Only.trans' {g : Nat} {a b c : World} (h : Only g a b) (k : Below a.heap.size b c) : Only g a c :=
  ⟨k.os.trans h.os, k.tape.trans h.tape, k.output.trans h.output, Nat.le_trans h.size k.size, fun i hi hne => (k.block i hi).trans (h.block i hi hne)⟩
theorem Kept.only {g : Nat} {k : Option Nat} {a b c : World} (h : Kept g k a b) (ho : Only g b c) : Kept g k a c :=
  ⟨ho.os.trans h.os, ho.tape.trans h.tape, ho.output.trans h.output, Nat.le_trans h.size ho.size, fun i hi hne hk => (ho.block i (Nat.lt_of_lt_of_le hi h.size) hne).trans (h.block i hi hne hk)⟩
section
variable {w : World} {ops : Array Oper} {rest : List Oper} {o : Oper} {a : Act} {Q : Exit → Act → World → Prop}
theorem wl_two0 {t : Nat} (hs : OneS t) (x y : Operand) (hgd : Region.wanted o (yielded ops a.tmps) = true) (hdst : o.dst = none) (ho : o.op = .store t x y) (g T : Nat) (u u' : Value) (hx : a.eval x = .pointer (some ⟨g, 0, none⟩)) (v : Value) (hy : a.eval y = v) (hv : OneV v) (hr : Row w g T [u, u'])
    (h : ∀ w', Row w' g T [v, u'] → Only g w w' → w'.heap.size = w.heap.size → wpList Tryd.prog ops Q rest a w') : wpList Tryd.prog ops Q (o :: rest) a w :=
  wlSkip hgd hdst _ (rx_store1 hs x y ho g 0 T [u, u'] hx v hy hv hr (by simp)) (h _ (hr.setRow _) ((Only.refl g w).setRow _) (by simp [World.setRow]))
theorem wl_two1 {t : Nat} (hs : OneS t) (x y : Operand) (hgd : Region.wanted o (yielded ops a.tmps) = true) (hdst : o.dst = none) (ho : o.op = .store t x y) (g T : Nat) (u u' : Value) (hx : a.eval x = .pointer (some ⟨g, 1, none⟩)) (v : Value) (hy : a.eval y = v) (hv : OneV v) (hr : Row w g T [u, u'])
    (h : ∀ w', Row w' g T [u, v] → Only g w w' → w'.heap.size = w.heap.size → wpList Tryd.prog ops Q rest a w') : wpList Tryd.prog ops Q (o :: rest) a w :=
  wlSkip hgd hdst _ (rx_store1 hs x y ho g 1 T [u, u'] hx v hy hv hr (by simp)) (h _ (hr.setRow _) ((Only.refl g w).setRow _) (by simp [World.setRow]))
theorem wl_cut (x y : Operand) (hgd : Region.wanted o (yielded ops a.tmps) = true) (ho : o.op = .slice 24 x none (some y) none) (base : Nat) (v : Value) (hs : List (List Nat)) (hx : a.eval x = v) (hin : HOwn w base v hs) (k : Nat) (hy : a.eval y = .int .i64 (k : Nat)) (hk : k < hs.length)
    (h : ∀ v', v'.ownBlock = v.ownBlock → HOwn w base v' (hs.take k) → wpList Tryd.prog ops Q rest (a.put o.dst v') w) : wpList Tryd.prog ops Q (o :: rest) a w := by
  obtain ⟨v', hr, hb, hv'⟩ := run_hcut hin k hk
  exact wl hgd _ _ (rx_sub x none (some y) ho v v' hx (by simpa [hy] using hr)) (h v' hb hv')
end
/-- where the loop stands -/
def AddTo (w W : World) (g g0 : Nat) (v0 : Value) (hs : List (List Nat)) (x : List Nat) (N n : Nat) : Prop :=
  ∃ (j : Nat) (A Bs : List (List Nat)) (v : Value), hs = A ++ Bs ∧ Bs.length + 1 = 2 ^ j ∧ A.length = n * 2 ^ j ∧ Row W g 53 [.int .i64 (N : Nat), v] ∧ HOwn W 2 v (Tree.peaks A) ∧ v.ownBlock = v0.ownBlock ∧ HIs W g0 (Tree.root (Bs ++ [x])) ∧ Only g w W
set_option maxHeartbeats 4000000 in
set_option maxRecDepth 100000 in
theorem add_any (g : Nat) (v0 : Value) (hs : List (List Nat)) (x : List Nat) (w : World) (h : GrowAt w g v0 hs) (hx : IsH x) (ht : TabIn w) (hst : StartIn w) (hg1 : 1 < g) (hmax : hs.length ≤ 1099511627776) :
    Calls Tryd.prog 12 #[.pointer (some ⟨g, 0, none⟩), hv x] w fun e w' => e = .returned noResult ∧ ∃ v', GrowAt w' g v' (hs ++ [x]) ∧ Kept g v0.ownBlock w w' ∧ (v'.ownBlock = v0.ownBlock ∨ ∀ k, v'.ownBlock = some k → w.heap.size ≤ k) := by
  obtain ⟨N, hN⟩ : ∃ N, N = hs.length := ⟨_, rfl⟩
  have HN : Hid (hs.length = N) := hN.symm
  have hN40 : N ≤ 1099511627776 := by omega
  have hglt := h.2.1.lt
  have hal := h.1
  obtain ⟨g0, hg0⟩ : ∃ g0, g0 = w.heap.size := ⟨_, rfl⟩
  have G0 : Hid (g0 = w.heap.size) := hg0
  have HE0 : Hid (v0.ownBlock ≠ some g) := h.2.2.2
  have HD0 : Hid (g ≠ g0 ∧ ∀ b, v0.ownBlock = some b → b ≠ g0) := ⟨by omega, fun b hb => by have := (h.2.2.1.2.lt b hb).2; omega⟩
  have HW : Hid (Row w g 53 [.int .i64 (N : Nat), v0] ∧ HOwn w 2 v0 (Tree.peaks hs)) := ⟨by have := h.2.1; rwa [← hN] at this, h.2.2.1⟩
  clear h
  go_enter Tryd.func12, Tryd.ntmps12
  go_upto_region 0 with fail
  refine wp_region_lit ?_
  refine wl_box (.tmp 1) rfl rfl x hx rfl ?_
  rw [← hg0]
  intro w1 r1 s1 b1
  refine wpList_nil ?_
  have R1 : Hid (AddTo w w1 g g0 v0 hs x N N) := ⟨0, hs, [], v0, (List.append_nil _).symm, rfl, by rw [hN, Nat.pow_zero, Nat.mul_one], HW.out.1.later b1 (by omega), HW.out.2.later b1 (by omega), rfl, by rw [List.nil_append, Tree.root_single]; exact r1, Only.of_below (hg0 ▸ b1)⟩
  have c0 : w1.cell? ⟨g, 0, none⟩ = some (.int .i64 (N : Nat)) := cell_later (hg0 ▸ b1) (HW.out.1.at 0 _ rfl)
  clear r1 s1 b1 hg0 hN hmax
  go_wp2_with fail
  go_loopw [4] (fun i W => ∃ n : Nat, n ≤ N ∧ i = .int .i64 (n : Nat) ∧ AddTo w W g g0 v0 hs x N n) (fun i _ => (intOf i).toNat)
  case atStart => exact ⟨N, Nat.le_refl _, rfl, R1.out⟩
  case round =>
    clear R1 c0 HW
    obtain ⟨n, hn, rfl, j, A, Bs, v, hAB, hBl, hAl, hrow, hown, hblk, hir, hon⟩ := hrel
    have HE : Hid (v.ownBlock = v0.ownBlock ∧ v0.ownBlock ≠ some g) := ⟨hblk, HE0.out⟩
    have HD : Hid (g ≠ g0 ∧ ∀ b, v.ownBlock = some b → b ≠ g0) := ⟨HD0.out.1, fun b hb => HD0.out.2 b (hblk ▸ hb)⟩
    rcases Nat.mod_two_eq_zero_or_one n with hpar | hpar
    · obtain ⟨q, rfl⟩ : ∃ q, n = 2 * q := ⟨n / 2, by omega⟩
      have HZ0 := Tree.add_end A Bs x j q hAl hBl
      rw [← hAB] at HZ0
      have HZ : Hid (Tree.peaks (hs ++ [x]) = Tree.peaks A ++ [Tree.root (Bs ++ [x])]) := HZ0
      have LP : Hid ((Tree.peaks A).length ≤ 41) := Tree.peaks_length 41 A (by have := congrArg List.length hAB; rw [List.length_append, HN.out] at this; omega)
      have HI : Hid (Row wr g 53 [.int .i64 (N : Nat), v] ∧ HOwn wr 2 v (Tree.peaks A) ∧ HIs wr g0 (Tree.root (Bs ++ [x])) ∧ Only g w wr ∧ True) := ⟨hrow, hown, hir, hon, trivial⟩
      clear HZ0 hAB hBl hAl hrow hown hblk hir hon
      generalize Tree.peaks A = ps at HZ LP HI
      generalize Tree.root (Bs ++ [x]) = r at HZ HI
      have hand : bits BinOp.and IntKind.i64 (((2 * q : Nat) : Int)) 1 = 0 := by rw [i64_and1]; omega
      generalize ((2 * q : Nat) : Int) = n' at hand ⊢
      go_wp2_with fail
      refine wp_region_until (S := fun W => Row W g 53 [.int .i64 (N : Nat), v] ∧ HIs W g0 r) 10 (by kernel_rfl) ?_
      show wpAnyU _ _ _ _ _ _ 11 (Array.replicate 11 false) _ _
      have hS : Row { wr with drawn := wr.drawn + 1 } g 53 [.int .i64 (N : Nat), v] ∧ HIs { wr with drawn := wr.drawn + 1 } g0 r := ⟨HI.out.1, HI.out.2.2.1⟩
      refine takeU (i := 0) (some 39) rfl rfl (by kernel_rfl) (by kernel_rfl) (by kernel_rfl) (by kernel_rfl) (by kernel_rfl) (fun _ _ _ h => h) (yMove rfl (.tmp 0) rfl (.pointer (some ⟨g, 0, none⟩)) rfl) hS ?_
      simp only [Act.put, List.setIfInBounds_toArray, List.set_cons_succ, List.set_cons_zero]
      refine takeU (i := 1) (some 40) rfl rfl (by kernel_rfl) (by kernel_rfl) (by kernel_rfl) (by kernel_rfl) (by kernel_rfl) (fun _ _ _ h => h) (yMove rfl (.tmp 0) rfl (.pointer (some ⟨g, 0, none⟩)) rfl) hS ?_
      simp only [Act.put, List.setIfInBounds_toArray, List.set_cons_succ, List.set_cons_zero]
      refine takeU (i := 2) (some 41) rfl rfl (by kernel_rfl) (by kernel_rfl) (by kernel_rfl) (by kernel_rfl) (by kernel_rfl) (fun _ _ _ h => h) (yRun rfl _ (fun _ _ => rx_nil (.tmp 40) rfl ⟨g, 0, none⟩ rfl)) hS ?_
      simp only [Act.put, List.setIfInBounds_toArray, List.set_cons_succ, List.set_cons_zero]
      refine takeU (i := 3) (some 42) rfl rfl (by kernel_rfl) (by kernel_rfl) (by kernel_rfl) (by kernel_rfl) (by kernel_rfl) (fun _ _ _ h => h) (yRun rfl _ (fun _ _ => rx_fieldG f53_1 (.tmp 41) rfl g 0 rfl)) hS ?_
      simp only [Act.put, List.setIfInBounds_toArray, List.set_cons_succ, List.set_cons_zero]
      refine takeU (i := 4) (some 43) rfl rfl (by kernel_rfl) (by kernel_rfl) (by kernel_rfl) (by kernel_rfl) (by kernel_rfl) (fun _ _ _ h => h) (yRun rfl _ (fun W hW => rx_load1 one24 (.tmp 42) rfl g (0 + 1) rfl v (hW.1.at 1 v rfl))) hS ?_
      simp only [Act.put, List.setIfInBounds_toArray, List.set_cons_succ, List.set_cons_zero]
      refine takeU (i := 5) (some 44) rfl rfl (by kernel_rfl) (by kernel_rfl) (by kernel_rfl) (by kernel_rfl) (by kernel_rfl) (fun _ _ _ h => h) (yLoad rfl (.tmp 3) rfl (.pointer (some ⟨g0, 0, none⟩)) rfl r (fun _ h => h.2.at)) hS ?_
      simp only [Act.put, List.setIfInBounds_toArray, List.set_cons_succ, List.set_cons_zero]
      have P1 : Hid (Row { wr with drawn := wr.drawn + 1 } g 53 [.int .i64 (N : Nat), v] ∧ HOwn { wr with drawn := wr.drawn + 1 } 2 v ps ∧ HIs { wr with drawn := wr.drawn + 1 } g0 r ∧ Only g w { wr with drawn := wr.drawn + 1 } ∧ 2 ≤ wr.heap.size) := ⟨hS.1, HI.out.2.1, hS.2, HI.out.2.2.2.1.trans (Only.of_below (below_drawn wr _)), Nat.le_trans (Nat.succ_le_of_lt ht.lt) HI.out.2.2.2.1.size⟩
      clear hS
      generalize hwd : { wr with drawn := wr.drawn + 1 } = wd at P1 ⊢
      have hsd : wd.heap.size = wr.heap.size := by rw [← hwd]
      clear hwd
      refine oneU (i := 6) (by kernel_rfl) ?_
      refine opVal (some 45) rfl rfl rfl _ _ (rx_lit1 (.tmp 44) rfl r P1.out.2.2.1.1 rfl) ?_
      have b4 := below_alloc wd (.cells (bcells [r].flatten).toArray 29)
      have hl4 : HIn (wd.alloc (.cells (bcells [r].flatten).toArray 29)) (.slice (some ⟨wd.heap.size, 0, none⟩) 1 1) [r] := (hlit_own wd wd.heap.size (Nat.le_refl _) [r] (AllH.one P1.out.2.2.1.1) (by simp)).hin
      generalize wd.alloc (.cells (bcells [r].flatten).toArray 29) = w4 at b4 hl4 ⊢
      have P4 : Hid (Row w4 g 53 [.int .i64 (N : Nat), v] ∧ HOwn w4 2 v ps ∧ HIs w4 g0 r ∧ Only g w w4 ∧ 2 ≤ w4.heap.size) := ⟨P1.out.1.later b4 P1.out.1.lt, P1.out.2.1.later b4 (Nat.le_refl _), P1.out.2.2.1.next b4, P1.out.2.2.2.1.trans (Only.of_below b4), by have := b4.size; have := P1.out.2.2.2.2; omega⟩
      refine ⟨fun _ => ⟨P4.out.1, P4.out.2.2.1⟩, ?_⟩
      clear b4 P1 hsd
      simp only [Act.put, List.setIfInBounds_toArray, List.set_cons_succ, List.set_cons_zero]
      refine oneU (i := 7) (by kernel_rfl) ?_
      obtain ⟨v5, w5, hr5, o5, g5, l5⟩ := run_happend2 2 v _ ps [r] P4.out.2.1 hl4 (by simp) (by have := LP.out; simp only [List.length_cons, List.length_nil]; omega) P4.out.2.2.2.2
      refine opVal (some 46) rfl rfl rfl v5 w5 (rx_append (.tmp 43) (.tmp 45) rfl v _ v5 w5 rfl rfl hr5) ?_
      have P5 : Hid (Row w5 g 53 [.int .i64 (N : Nat), v] ∧ HOwn w5 2 v5 (ps ++ [r]) ∧ HIs w5 g0 r ∧ Kept g v0.ownBlock w w5 ∧ (v5.ownBlock = v0.ownBlock ∨ ∀ k, v5.ownBlock = some k → w.heap.size ≤ k) ∧ v5.ownBlock ≠ some g) := by
        refine ⟨?_, o5, ⟨P4.out.2.2.1.1, ?_⟩, ?_, ?_, ?_⟩
        · show w5.heap[g]? = _
          rw [g5.block g P4.out.1.lt (fun e => HE.out.2 (HE.out.1 ▸ e.symm))]
          exact P4.out.1
        · show w5.heap[g0]? = _
          rw [g5.block g0 P4.out.2.2.1.lt (fun e => HD.out.2 g0 e.symm rfl)]
          exact P4.out.2.2.1.2
        · refine ⟨g5.os.trans P4.out.2.2.2.1.os, g5.tape.trans P4.out.2.2.2.1.tape, g5.output.trans P4.out.2.2.2.1.output, Nat.le_trans P4.out.2.2.2.1.size g5.size, fun i hi hig hik => ?_⟩
          rw [g5.block i (Nat.lt_of_lt_of_le hi P4.out.2.2.2.1.size) (fun e => hik (by rw [← HE.out.1]; exact e.symm))]
          exact P4.out.2.2.2.1.block i hi hig
        · rcases l5 with l | l
          · exact Or.inl (l.trans HE.out.1)
          · exact Or.inr fun k hk => Nat.le_trans P4.out.2.2.2.1.size (l k hk)
        · rcases l5 with l | l
          · rw [l]
            exact HE.out.1 ▸ HE.out.2
          · intro e
            have := l g e
            have := P4.out.1.lt
            omega
      refine ⟨fun _ => ⟨P5.out.1, P5.out.2.2.1⟩, ?_⟩
      clear P4 o5 g5 hr5 hl4 l5
      simp only [Act.put, List.setIfInBounds_toArray, List.set_cons_succ, List.set_cons_zero]
      refine oneU (i := 8) (by kernel_rfl) ?_
      refine opVal (some 47) rfl rfl rfl _ w5 (rx_nil (.tmp 39) rfl ⟨g, 0, none⟩ rfl) ?_
      refine ⟨fun _ => ⟨P5.out.1, P5.out.2.2.1⟩, ?_⟩
      simp only [Act.put, List.setIfInBounds_toArray, List.set_cons_succ, List.set_cons_zero]
      refine oneU (i := 9) (by kernel_rfl) ?_
      refine opVal (some 48) rfl rfl rfl _ w5 (rx_fieldG f53_1 (.tmp 47) rfl g 0 rfl) ?_
      refine ⟨fun _ => ⟨P5.out.1, P5.out.2.2.1⟩, ?_⟩
      simp only [Act.put, List.setIfInBounds_toArray, List.set_cons_succ, List.set_cons_zero]
      refine oneU (i := 10) (by kernel_rfl) ?_
      refine opSkip rfl rfl rfl _ (rx_store1 size24 (.tmp 48) (.tmp 46) rfl g (0 + 1) 53 _ rfl v5 rfl P5.out.2.1.one P5.out.1 (by simp)) ?_
      have o6 : Only g w5 (w5.setRow g (splice [.int .i64 (N : Nat), v] (0 + 1) [v5]).toArray) := (Only.refl g w5).setRow _
      have P6 : Hid (Row (w5.setRow g (splice [.int .i64 (N : Nat), v] (0 + 1) [v5]).toArray) g 53 [.int .i64 (N : Nat), v5] ∧ HOwn (w5.setRow g (splice [.int .i64 (N : Nat), v] (0 + 1) [v5]).toArray) 2 v5 (ps ++ [r]) ∧ Kept g v0.ownBlock w (w5.setRow g (splice [.int .i64 (N : Nat), v] (0 + 1) [v5]).toArray)) := ⟨P5.out.1.setRow _, own_kept P5.out.2.1 (fun b hb => o6.block b (P5.out.2.1.2.lt b hb).2 (fun e => P5.out.2.2.2.2.2 (by rw [← e]; exact hb))), P5.out.2.2.2.1.only o6⟩
      have L6 : Hid ((v5.ownBlock = v0.ownBlock ∨ ∀ k, v5.ownBlock = some k → w.heap.size ≤ k) ∧ v5.ownBlock ≠ some g) := P5.out.2.2.2.2
      refine ⟨fun h => absurd h (by decide), ?_⟩
      generalize w5.setRow g (splice [.int .i64 (N : Nat), v] (0 + 1) [v5]).toArray = w6 at P6 ⊢
      clear o6 P5
      refine wpAnyU_done (by kernel_rfl) ?_ _
      have c60 := P6.out.1.at 0 _ rfl
      go_wp2_with (first
        | (refine wl_two0 size3 (.tmp 55) (.tmp 53) rfl rfl rfl g 53 (.int .i64 (N : Nat)) v5 rfl _ rfl ⟨rfl, rfl⟩ P6.out.1 ?_; intro w7 r7 o7 s7; have P7 : Hid (Row w7 g 53 [.int .i64 ((N : Int) + 1), v5] ∧ HOwn w7 2 v5 (ps ++ [r]) ∧ Kept g v0.ownBlock w w7) := ⟨r7, own_kept P6.out.2.1 (fun b hb => o7.block b (P6.out.2.1.2.lt b hb).2 (fun e => L6.out.2 (by rw [← e]; exact hb))), P6.out.2.2.only o7⟩; clear r7 o7 s7 P6))
      go_end0
      refine ⟨rfl, v5, ⟨hal.append (AllH.one hx), ?_, ?_, L6.out.2⟩, P7.out.2.2, L6.out.1⟩
      · have e : ((hs ++ [x]).length : Int) = (N : Int) + 1 := by rw [List.length_append, HN.out]; simp
        rw [e]
        exact P7.out.1
      · rw [HZ.out]
        exact P7.out.2.1
    · obtain ⟨q, rfl⟩ : ∃ q, n = 2 * q + 1 := ⟨n / 2, by omega⟩
      obtain ⟨A', C, hA', hC, hAl', hpk, hrt, hBl'⟩ := Tree.add_step A Bs x j q hAl hBl
      obtain ⟨L, hL⟩ : ∃ L, (Tree.peaks A).length = L + 1 := ⟨(Tree.peaks A').length, by rw [hpk]; simp⟩
      have hL41 : L ≤ 1000000 := by
        have h1 := Tree.peaks_length 41 A (by have := congrArg List.length hAB; rw [List.length_append, HN.out] at this; omega)
        omega
      have hLt : (Tree.peaks A).take L = Tree.peaks A' := by
        have : L = (Tree.peaks A').length := by rw [hpk] at hL; simpa using hL.symm
        rw [hpk, this, List.take_left]
      have hLy : (Tree.peaks A).getD L [] = Tree.root C := by
        have : L = (Tree.peaks A').length := by rw [hpk] at hL; simpa using hL.symm
        rw [hpk, this]
        simp
      obtain ⟨p, hp1, hp2⟩ := run_hindex hown.hin L (by omega)
      rw [hLy] at hp2
      have HP : Hid ((∀ w', (Instr.indexAt 24 v (.int .i64 (L : Nat))).run Tryd.prog w' = .ok p w') ∧ HAt wr p (Tree.root C)) := ⟨hp1, hp2⟩
      have HI : Hid (Row wr g 53 [.int .i64 (N : Nat), v] ∧ HOwn wr 2 v (Tree.peaks A) ∧ HIs wr g0 (Tree.root (Bs ++ [x])) ∧ Only g w wr ∧ True) := ⟨hrow, hown, hir, hon, trivial⟩
      have HL : Hid ((Tree.peaks A).length = L + 1 ∧ (Tree.peaks A).take L = Tree.peaks A') := ⟨hL, hLt⟩
      have HR : Hid (Tree.root ((C ++ Bs) ++ [x]) = Tree.node (Tree.root C) (Tree.root (Bs ++ [x]))) := hrt
      have HQ : Hid (hs = A' ++ (C ++ Bs) ∧ (C ++ Bs).length + 1 = 2 ^ (j + 1) ∧ A'.length = q * 2 ^ (j + 1)) := ⟨by rw [hAB, hA', List.append_assoc], hBl', hAl'⟩
      have c1 := hrow.at 1 _ rfl
      have hin := hown.hin
      clear hpk hL hLt hLy hp1 hp2 hrow hown hir hon hrt hBl' hAl' hA' hC hAB hBl hAl hblk
      generalize Tree.peaks A = ps at HI HL hin
      generalize Tree.root C = y at HP HR
      generalize Tree.root (Bs ++ [x]) = r at HI HR
      have hand : bits BinOp.and IntKind.i64 (((2 * q + 1 : Nat) : Int)) 1 = 1 := by rw [i64_and1]; omega
      obtain ⟨n', hn'⟩ : ∃ n' : Int, n' = ((2 * q + 1 : Nat) : Int) := ⟨_, rfl⟩
      rw [← hn'] at hand ⊢
      have HN' : Hid (n' = 2 * (q : Int) + 1) := by show _ = _; omega
      have hnb : 0 ≤ n' ∧ n' ≤ 1099511627776 := by omega
      clear hn'
      go_wp2_with (first
        | (refine wl_lenN (.tmp 18) rfl rfl v ps rfl hin (L + 1) HL.out.1 ?_))
      refine wp_region_until (S := fun W => Row W g 53 [.int .i64 (N : Nat), v] ∧ HAt W p y ∧ HIs W g0 r) 9 (by kernel_rfl) ?_
      show wpAnyU _ _ _ _ _ _ 10 (Array.replicate 10 false) _ _
      have hS : Row { wr with drawn := wr.drawn + 1 } g 53 [.int .i64 (N : Nat), v] ∧ HAt { wr with drawn := wr.drawn + 1 } p y ∧ HIs { wr with drawn := wr.drawn + 1 } g0 r := ⟨HI.out.1, HP.out.2, HI.out.2.2.1⟩
      have hd : TabIn { wr with drawn := wr.drawn + 1 } ∧ StartIn { wr with drawn := wr.drawn + 1 } := ⟨HI.out.2.2.2.1.tab hg1 ht, HI.out.2.2.2.1.startIn hg1 hst⟩
      refine takeU (i := 0) (some 21) rfl rfl (by kernel_rfl) (by kernel_rfl) (by kernel_rfl) (by kernel_rfl) (by kernel_rfl) (fun _ _ _ h => h) (yMove rfl (.tmp 0) rfl (.pointer (some ⟨g, 0, none⟩)) rfl) hS ?_
      simp only [Act.put, List.setIfInBounds_toArray, List.set_cons_succ, List.set_cons_zero]
      refine takeU (i := 1) (some 22) rfl rfl (by kernel_rfl) (by kernel_rfl) (by kernel_rfl) (by kernel_rfl) (by kernel_rfl) (fun _ _ _ h => h) (yRun rfl _ (fun _ _ => rx_nil (.tmp 21) rfl ⟨g, 0, none⟩ rfl)) hS ?_
      simp only [Act.put, List.setIfInBounds_toArray, List.set_cons_succ, List.set_cons_zero]
      refine takeU (i := 2) (some 23) rfl rfl (by kernel_rfl) (by kernel_rfl) (by kernel_rfl) (by kernel_rfl) (by kernel_rfl) (fun _ _ _ h => h) (yRun rfl _ (fun _ _ => rx_fieldG f53_1 (.tmp 22) rfl g 0 rfl)) hS ?_
      simp only [Act.put, List.setIfInBounds_toArray, List.set_cons_succ, List.set_cons_zero]
      refine takeU (i := 3) (some 24) rfl rfl (by kernel_rfl) (by kernel_rfl) (by kernel_rfl) (by kernel_rfl) (by kernel_rfl) (fun _ _ _ h => h) (yRun rfl _ (fun W hW => rx_load1 one24 (.tmp 23) rfl g (0 + 1) rfl v (hW.1.at 1 v rfl))) hS ?_
      simp only [Act.put, List.setIfInBounds_toArray, List.set_cons_succ, List.set_cons_zero]
      refine takeU (i := 4) (some 25) rfl rfl (by kernel_rfl) (by kernel_rfl) (by kernel_rfl) (by kernel_rfl) (by kernel_rfl) (fun _ _ _ h => h) (yMove rfl (.tmp 5) rfl (.int .i64 (L : Nat)) rfl) hS ?_
      simp only [Act.put, List.setIfInBounds_toArray, List.set_cons_succ, List.set_cons_zero]
      refine takeU (i := 5) (some 26) rfl rfl (by kernel_rfl) (by kernel_rfl) (by kernel_rfl) (by kernel_rfl) (by kernel_rfl) (fun _ _ _ h => h) (yIndex rfl (.tmp 24) (.tmp 25) rfl v p rfl _ rfl HP.out.1) hS ?_
      simp only [Act.put, List.setIfInBounds_toArray, List.set_cons_succ, List.set_cons_zero]
      refine takeU (i := 6) (some 27) rfl rfl (by kernel_rfl) (by kernel_rfl) (by kernel_rfl) (by kernel_rfl) (by kernel_rfl) (fun _ _ _ h => h) (yLoad rfl (.tmp 26) rfl p rfl y (fun _ h => h.2.1)) hS ?_
      simp only [Act.put, List.setIfInBounds_toArray, List.set_cons_succ, List.set_cons_zero]
      refine takeU (i := 7) (some 28) rfl rfl (by kernel_rfl) (by kernel_rfl) (by kernel_rfl) (by kernel_rfl) (by kernel_rfl) (fun _ _ _ h => h) (yLoad rfl (.tmp 3) rfl (.pointer (some ⟨g0, 0, none⟩)) rfl r (fun _ h => h.2.2.at)) hS ?_
      simp only [Act.put, List.setIfInBounds_toArray, List.set_cons_succ, List.set_cons_zero]
      refine oneU (i := 8) (by kernel_rfl) ?_
      refine opCallA (some 29) rfl rfl rfl 28 _ (run_call en14 [.tmp 27, .tmp 28] _ rfl [hv y, hv r] rfl) ?_
      refine (node_any y r HP.out.2.1 HI.out.2.2.1.1 _ hd.1 hd.2).mono ?_
      rintro e w2 ⟨rfl, b2⟩
      refine ⟨_, rfl, fun _ => ⟨hS.1.later b2 hS.1.lt, hS.2.1.later b2, hS.2.2.next b2⟩, ?_⟩
      have b12 : Below wr.heap.size wr w2 := below_append (below_drawn wr _) b2
      have P2 : Hid (Row w2 g 53 [.int .i64 (N : Nat), v] ∧ HOwn w2 2 v ps ∧ HIs w2 g0 r ∧ Only g w w2) := ⟨hS.1.later b2 hS.1.lt, HI.out.2.1.later b12 (Nat.le_refl _), hS.2.2.next b2, HI.out.2.2.2.1.trans (Only.of_below b12)⟩
      clear hS b2 b12 hd
      simp only [Act.put, List.setIfInBounds_toArray, List.set_cons_succ, List.set_cons_zero]
      refine oneU (i := 9) (by kernel_rfl) ?_
      refine opSkip rfl rfl rfl _ (rx_store (.tmp 3) (.tmp 29) rfl g0 rfl r (Tree.node y r) (node_isH _ _) rfl P2.out.2.2.1) ?_
      have o3 : Only g0 w2 (w2.setRow g0 (bcells (Tree.node y r)).toArray) := (Only.refl g0 w2).setRow _
      have P3 : Hid (Row (w2.setRow g0 (bcells (Tree.node y r)).toArray) g 53 [.int .i64 (N : Nat), v] ∧ HOwn (w2.setRow g0 (bcells (Tree.node y r)).toArray) 2 v ps ∧ HIs (w2.setRow g0 (bcells (Tree.node y r)).toArray) g0 (Tree.node y r) ∧ Only g w (w2.setRow g0 (bcells (Tree.node y r)).toArray)) := ⟨o3.row HD.out.1 P2.out.1, own_kept P2.out.2.1 (fun b hb => o3.block b (P2.out.2.1.2.lt b hb).2 (HD.out.2 b hb)), his_store (node_isH _ _) P2.out.2.2.1, P2.out.2.2.2.trans' (o3.below (Nat.le_of_eq G0.out.symm) P2.out.2.2.2.size)⟩
      refine ⟨fun h => absurd h (by decide), ?_⟩
      generalize w2.setRow g0 (bcells (Tree.node y r)).toArray = w3 at P3 ⊢
      clear o3 P2 HP
      refine wpAnyU_done (by kernel_rfl) ?_ _

      have c31 := P3.out.1.at 1 _ rfl
      go_wp2_with (first
        | (refine wl_cut (.tmp 34) (.tmp 35) rfl rfl 2 v ps rfl P3.out.2.1 L rfl (by have := HL.out.1; omega) ?_; intro v4 hb4 o4; rw [HL.out.2] at o4; have P4 : Hid (v4.ownBlock = v.ownBlock ∧ HOwn w3 2 v4 (Tree.peaks A')) := ⟨hb4, o4⟩; clear hb4 o4)
        | (refine wl_two1 size24 (.tmp 38) (.tmp 36) rfl rfl rfl g 53 (.int .i64 (N : Nat)) v rfl v4 rfl P4.out.2.one P3.out.1 ?_; intro w5 r5 o5 s5; have P5 : Hid (AddTo w w5 g g0 v0 hs x N q) := ⟨j + 1, A', C ++ Bs, v4, HQ.out.1, HQ.out.2.1, HQ.out.2.2, r5, own_kept P4.out.2 (fun b hb => o5.block b (P4.out.2.2.lt b hb).2 (fun e => HE.out.2 (by rw [← HE.out.1, ← P4.out.1, ← e]; exact hb))), P4.out.1.trans HE.out.1, by rw [HR.out]; exact P3.out.2.2.1.other o5 (Ne.symm HD.out.1), P3.out.2.2.2.trans o5⟩; clear r5 o5 s5 P3 P4))
      refine ⟨⟨q, by omega, ?_, P5.out⟩, ?_⟩
      · have := HN'.out
        congr 1
        omega
      · have := HN'.out
        simp [intOf]
        omega
end Go.Proofs.YtfnncccioipjcaaDoor

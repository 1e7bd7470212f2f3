/- The walk of (*State).Sum. -/
import Derived.Test.YtjdmpanemdhbbaaDoorEnd
namespace Go.Proofs.YtjdmpanemdhbbaaDoor
open Go.RowKit

section
variable {w : World} {ops : Array Oper} {rest : List Oper} {o : Oper} {a : Act} {Q : Exit → Act → World → Prop}
theorem wpList_nilCheck (x : Operand) (hgd : o.guard = none) (ho : o.op = .nilCheck x) (p : Addr) (hx : a.eval x = .pointer (some p))
    (h : wpList Tryd.prog ops Q rest (a.put o.dst (.pointer (some p))) w) : wpList Tryd.prog ops Q (o :: rest) a w :=
  wpList_value hgd _ w (by simp [execOp, ho, hx]) h
end

theorem splice_all {α : Type} (zs cs : List α) (h : cs.length = zs.length) : splice zs 0 cs = cs := by
  unfold splice
  rw [List.take_zero, List.nil_append, Nat.zero_add, h, List.drop_length, List.append_nil]
theorem zeroState_length : zeroState.length = 73 := by simp [zeroState, zerosU32, zerosU8]

/-- the value as far as k words -/
def outTo (v : Sha.W8) (k : Nat) : List Nat := (v.list.take k).flatMap Sha.wordBytes
theorem outTo_next (v : Sha.W8) (k : Nat) (hk : k < 8) : outTo v (k + 1) = outTo v k ++ Sha.wordBytes (v.list.getD k 0) := by
  unfold outTo
  have h : k < v.list.length := hk
  rw [List.take_succ_eq_append_getElem h, List.flatMap_append]
  simp [h]
theorem outTo_length (v : Sha.W8) (k : Nat) (hk : k ≤ 8) : (outTo v k).length = 4 * k := by
  induction k with
  | zero => simp [outTo]
  | succ k ih =>
    rw [outTo_next v k hk, List.length_append, ih (by omega)]
    simp [Sha.wordBytes]
    omega
theorem outTo_all (v : Sha.W8) : outTo v 8 = Sha.outBytes v := by
  unfold outTo Sha.outBytes
  rw [List.take_of_length_le (Nat.le_of_eq v.list_length)]
theorem sha_length (m : List Nat) : (Sha.sha m).length = 32 := by
  unfold Sha.sha
  rw [← outTo_all, outTo_length _ _ (Nat.le_refl _)]

def OutIn (w W : World) (g2 g4 : Nat) (v : Sha.W8) (k : Nat) : Prop := Row W g4 23 (fillB (outTo v k) (32 - 4 * k)) ∧ Row W g2 23 (zerosU8 32) ∧ Below w.heap.size w W
theorem out_U24 (x : BitVec 32) : Sha.U x / 16777216 % 256 = ((x.toNat / 16777216 % 256 : Nat) : Int) := by unfold Sha.U; omega
theorem out_U16 (x : BitVec 32) : Sha.U x / 65536 % 256 = ((x.toNat / 65536 % 256 : Nat) : Int) := by unfold Sha.U; omega
theorem out_U8 (x : BitVec 32) : Sha.U x / 256 % 256 = ((x.toNat / 256 % 256 : Nat) : Int) := by unfold Sha.U; omega
theorem out_U0 (x : BitVec 32) : Sha.U x % 256 = ((x.toNat % 256 : Nat) : Int) := by unfold Sha.U; omega
theorem OutIn.step {w W : World} {g2 g4 : Nat} {v : Sha.W8} {k : Nat} (h : OutIn w W g2 g4 v k) (hk : k < 8) (h24 : g2 ≠ g4) (hg4 : w.heap.size ≤ g4) (x : BitVec 32) (hx : x = v.list.getD k 0) :
    OutIn w ((((W.setCell ⟨g4, 4 * k, none⟩ (.int .u8 (Sha.U x / 16777216 % 256))).setCell ⟨g4, 4 * k + 1, none⟩ (.int .u8 (Sha.U x / 65536 % 256))).setCell ⟨g4, 4 * k + 2, none⟩ (.int .u8 (Sha.U x / 256 % 256))).setCell ⟨g4, 4 * k + 3, none⟩ (.int .u8 (Sha.U x % 256))) g2 g4 v (k + 1) := by
  refine ⟨?_, (((h.2.1.setCell_other h24 _ _).setCell_other h24 _ _).setCell_other h24 _ _).setCell_other h24 _ _, (((h.2.2.setCell hg4 _).setCell hg4 _).setCell hg4 _).setCell hg4 _⟩
  rw [out_U24, out_U16, out_U8, out_U0, outTo_next v k hk, ← hx]
  have hl := outTo_length v k (by omega)
  have h1 := h.1
  generalize outTo v k = B at *
  rw [show 32 - 4 * k = (32 - 4 * (k + 1)) + 1 + 1 + 1 + 1 by omega] at h1
  have e1 := h1.setCell (4 * k) (.int .u8 ((x.toNat / 16777216 % 256 : Nat) : Int))
  rw [← hl, fillB_set] at e1
  have e2 := e1.setCell ((4 * k) + 1) (.int .u8 ((x.toNat / 65536 % 256 : Nat) : Int))
  rw [show 4 * k + 1 = (B ++ [x.toNat / 16777216 % 256]).length by simp [hl], fillB_set] at e2
  have e3 := e2.setCell ((4 * k) + 2) (.int .u8 ((x.toNat / 256 % 256 : Nat) : Int))
  rw [show 4 * k + 2 = (B ++ [x.toNat / 16777216 % 256] ++ [x.toNat / 65536 % 256]).length by simp [hl], fillB_set] at e3
  have e4 := e3.setCell ((4 * k) + 3) (.int .u8 ((x.toNat % 256 : Nat) : Int))
  rw [show 4 * k + 3 = (B ++ [x.toNat / 16777216 % 256] ++ [x.toNat / 65536 % 256] ++ [x.toNat / 256 % 256]).length by simp [hl], fillB_set] at e4
  simp only [List.length_append, List.length_cons, List.length_nil, hl, List.append_assoc, List.cons_append, List.nil_append, Nat.zero_add] at e4
  exact e4

set_option maxHeartbeats 1000000 in
set_option maxRecDepth 100000 in
theorem stateSum_any (g : Nat) (m : List Nat) (w : World) (hs : StIn w g m) (ht : TabIn w) (hg : 1 < g) (hlen : m.length < 1152921504606846976) :
    Calls Tryd.prog 43 #[.pointer (some ⟨g, 0, none⟩)] w fun e w' => e = .returned (.agg (bcells (Sha.sha m)).toArray) ∧ Below w.heap.size w w' := by
  have hglt := hs.lt
  go_enter Tryd.func43, Tryd.ntmps43
  go_upto_region 0 with fail
  refine wp_region_lit ?_
  refine wpList_alloc' (zerosU8 32) zero25 rfl rfl ?_
  intro w1 r1 s1 b1
  refine wpList_nil ?_
  go_upto_region 1 with fail
  refine wp_region_lit ?_
  refine wpList_move (.tmp 0) rfl rfl _ rfl ?_
  refine wpList_nilCheck (.tmp 7) rfl rfl _ rfl ?_
  obtain ⟨buf, hr, hb64, hbl, hbt⟩ := hs.later b1 hs.lt
  have hl73 : (stCells (Sha.full m) buf m.length).length = 73 := by rw [stCells_length, hb64]
  refine wpList_load agg41 (.tmp 8) rfl rfl _ _ rfl (stCells (Sha.full m) buf m.length) hl73 (fun j u hu => by rw [Nat.zero_add]; exact hr.at j u hu) ?_
  refine wpList_alloc' zeroState zero41 rfl rfl ?_
  intro w2 r2 s2 b2
  refine wpList_store0 agg41 (.tmp 3) (.tmp 9) rfl rfl rfl w1.heap.size 0 70 rfl (stCells (Sha.full m) buf m.length) zeroState rfl hl73 r2 (by rw [hl73, zeroState_length]; decide) (stCells_one _ _ _) ?_
  refine wpList_nil ?_
  rw [splice_all _ _ (by rw [hl73, zeroState_length])]
  have hs3 : StIn (w2.setRow w1.heap.size (stCells (Sha.full m) buf m.length).toArray) w1.heap.size m := ⟨buf, r2.setRow _, hb64, hbl, hbt⟩
  have b3 : Below w.heap.size w (w2.setRow w1.heap.size (stCells (Sha.full m) buf m.length).toArray) := below_setRow (b1.trans (b2.mono (by omega))) (by omega) _
  have r3 : Row (w2.setRow w1.heap.size (stCells (Sha.full m) buf m.length).toArray) w.heap.size 23 (zerosU8 32) := (r1.later b2 (by omega)).setRow_other (by omega) _
  obtain ⟨g3, hg3⟩ : ∃ g3, g3 = w1.heap.size := ⟨_, rfl⟩
  obtain ⟨g2, hg2⟩ : ∃ g2, g2 = w.heap.size := ⟨_, rfl⟩
  rw [← hg3] at hs3 b3 r3 ⊢
  rw [← hg2] at r3 ⊢
  have h23 : g2 < g3 := by omega
  have HG2 : Hid (g2 = w.heap.size) := hg2
  have hlt3 := hs3.lt
  generalize w2.setRow g3 (stCells (Sha.full m) buf m.length).toArray = w3 at *
  clear r1 r2 b1 b2 s1 s2 hr hl73 hbt hbl hb64 hg3 hg2 hs
  go_wp2_with fail
  refine (writeEnd_any g3 m _ hs3 (ht.later b3) (by have := HG2.out; omega) hlen).mono ?_
  rintro e w4 ⟨rfl, hs4, ho4⟩
  have b4 : Below w.heap.size w w4 := b3.trans (ho4.below (by have := HG2.out; omega) b3.size)
  have r4 : Row w4 g2 23 (zerosU8 32) := ho4.row (by omega) r3
  clear hs3 b3 r3 ho4 hlt3
  go_upto_region 3 with fail
  refine wp_region_lit ?_
  refine wpList_alloc' (zerosU8 32) zero25 rfl rfl ?_
  intro w5 r5 s5 b5
  refine wpList_nil ?_
  have hs5 := hs4.later b5 hs4.lt
  have b6 : Below w.heap.size w w5 := b4.trans (b5.mono (b4.size))
  have r6 := r4.later b5 r4.lt
  have hlt4 := r4.lt
  have hlt5 := b4.size
  have hlt6 := hs4.lt
  obtain ⟨g4, hg4⟩ : ∃ g4, g4 = w4.heap.size := ⟨_, rfl⟩
  rw [← hg4] at r5 hlt4 hlt5 hlt6 ⊢
  clear hs4 b4 r4 b5 s5 hg4
  obtain ⟨V, hV⟩ : ∃ V, V = Sha.full (m ++ Sha.pad m.length) := ⟨_, rfl⟩
  obtain ⟨buf5, hr5, _⟩ := hs5
  rw [← hV] at hr5
  have k0 := hr5.at 0 (.int .u32 (Sha.U V.a)) (stCells_word _ _ _ 0 (by decide))
  have k1 := hr5.at 1 (.int .u32 (Sha.U V.b)) (stCells_word _ _ _ 1 (by decide))
  have k2 := hr5.at 2 (.int .u32 (Sha.U V.c)) (stCells_word _ _ _ 2 (by decide))
  have k3 := hr5.at 3 (.int .u32 (Sha.U V.d)) (stCells_word _ _ _ 3 (by decide))
  have k4 := hr5.at 4 (.int .u32 (Sha.U V.e)) (stCells_word _ _ _ 4 (by decide))
  have k5 := hr5.at 5 (.int .u32 (Sha.U V.f)) (stCells_word _ _ _ 5 (by decide))
  have k6 := hr5.at 6 (.int .u32 (Sha.U V.g)) (stCells_word _ _ _ 6 (by decide))
  have k7 := hr5.at 7 (.int .u32 (Sha.U V.h)) (stCells_word _ _ _ 7 (by decide))
  have HV : Hid (V = Sha.full (m ++ Sha.pad m.length)) := hV
  have HO : Hid (OutIn w w5 g2 g4 V 0) := ⟨r5, r6, b6⟩
  have HB : Hid (w.heap.size ≤ g4) := hlt5
  clear hr5 hV r5 r6 b6 hlt5
  go_wp2
  go_loopw [13] (fun i W => ∃ k : Nat, k ≤ 8 ∧ i = .int .i64 k ∧ OutIn w W g2 g4 V k) (fun i _ => 8 - (intOf i).toNat)
  case atStart => exact ⟨0, Nat.zero_le _, rfl, HO.out⟩
  case round =>
    clear HO k0 k1 k2 k3 k4 k5 k6 k7
    obtain ⟨k, hk, rfl, ho⟩ := hrel
    by_cases hlt : k < 8
    · have HO : Hid (OutIn w wr g2 g4 V k) := ho
      have l4 := ho.1
      have hll : (fillB (outTo V k) (32 - 4 * k)).length = 32 := by rw [fillB_length, outTo_length _ _ hk]; omega
      obtain ⟨q0, e0⟩ : ∃ q, wr.cell? ⟨g4, 4 * k, none⟩ = some q := ⟨_, l4.at _ _ (List.getElem?_eq_getElem (by omega))⟩
      obtain ⟨q1, e1⟩ : ∃ q, wr.cell? ⟨g4, 4 * k + 1, none⟩ = some q := ⟨_, l4.at _ _ (List.getElem?_eq_getElem (by omega))⟩
      obtain ⟨q2, e2⟩ : ∃ q, wr.cell? ⟨g4, 4 * k + 2, none⟩ = some q := ⟨_, l4.at _ _ (List.getElem?_eq_getElem (by omega))⟩
      obtain ⟨q3, e3⟩ : ∃ q, wr.cell? ⟨g4, 4 * k + 3, none⟩ = some q := ⟨_, l4.at _ _ (List.getElem?_eq_getElem (by omega))⟩
      have f0 := l4.frozen (4 * k)
      have f1 := l4.frozen (4 * k + 1)
      have f2 := l4.frozen (4 * k + 2)
      have f3 := l4.frozen (4 * k + 3)
      clear ho l4 hll
      go_upto_region 6 with fail
      refine wp_region_lit ?_
      refine wpList_move (.tmp 13) rfl rfl _ rfl ?_
      refine wpList_index8 (.tmp 12) (.tmp 13) rfl rfl (wcells V.list) rfl k hlt rfl _ (wcells_at V.list k hlt) ?_
      obtain ⟨x, hx⟩ : ∃ x, x = V.list.getD k 0 := ⟨_, rfl⟩
      rw [← hx]
      have HX : Hid (x = V.list.getD k 0) := hx
      clear hx
      go_wp2
      exact ⟨⟨k + 1, by omega, by go_num, HO.out.step hlt (by omega) HB.out x HX.out⟩, by simp [intOf]; omega⟩
    · obtain rfl : k = 8 := by omega
      have r2 := ho.2.1
      have r4 : Row wr g4 23 (bcells (Sha.sha m)) := by
        have h := ho.1
        rw [outTo_all, HV.out] at h
        have h' : Row wr g4 23 (bcells (Sha.outBytes (Sha.full (m ++ Sha.pad m.length)))) := by simpa [fillB, zerosU8] using h
        exact h'
      have bl := ho.2.2
      clear ho
      have hl32 : (bcells (Sha.sha m)).length = 32 := by rw [bcells_length, sha_length]
      go_upto_region 9 with fail
      refine wp_region_lit ?_
      refine wpList_load agg25 (.tmp 4) rfl rfl _ _ rfl (bcells (Sha.sha m)) hl32 (fun j u hu => by rw [Nat.zero_add]; exact r4.at j u hu) ?_
      refine wpList_store0 agg25 (.tmp 2) (.tmp 44) rfl rfl rfl g2 0 23 rfl (bcells (Sha.sha m)) (zerosU8 32) rfl hl32 r2 (by rw [hl32]; simp [zerosU8]) (bcells_one _) ?_
      refine wpList_nil ?_
      rw [splice_all _ _ (by rw [hl32]; simp [zerosU8])]
      have hr := r2.setRow (bcells (Sha.sha m))
      have hbl := below_setRow bl (show w.heap.size ≤ g2 by have := HG2.out; omega) (bcells (Sha.sha m)).toArray
      clear r2 bl r4
      go_wp2
      exact bodyPost_ret (results_cell agg25 Tryd.results43 _ _ g2 23 rfl _ hl32 hr) rfl ⟨rfl, hbl⟩
end Go.Proofs.YtjdmpanemdhbbaaDoor

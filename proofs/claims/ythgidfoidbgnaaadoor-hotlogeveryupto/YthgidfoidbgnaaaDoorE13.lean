/- Bytes read as a number; a copy; sizes; two rows held against one another; bytes spoilt. A copy of bytes; two rows held against one another; bytes spoilt; the walks. -/
import Derived.Test.YthgidfoidbgnaaaDoorE12
namespace Go.Proofs.YthgidfoidbgnaaaDoor.Fr
open Go.RowKit

/-! a number -/
theorem u64_step (n c : Nat) (hn : n < 72057594037927936) (hc : c < 256) : bits BinOp.or IntKind.u64 (IntKind.u64.wrap ((n : Int) * 256)) (IntKind.u64.wrap (c : Int)) = ((n * 256 + c : Nat) : Int) := by
 have e1 : IntKind.u64.wrap ((n : Int) * 256) = ((n * 256 : Nat) : Int) := by rw [IntKind.wrap_u64]; omega
 have e2 : IntKind.u64.wrap (c : Int) = (c : Int) := by rw [IntKind.wrap_u64]; omega
 rw [e1, e2, u64_or_nat _ _ (by omega) (by omega)]
 have := Nat.two_pow_add_eq_or_of_lt (i := 8) (b := c) (by omega) n
 rw [show (2 : Nat) ^ 8 = 256 from rfl] at this
 rw [Nat.mul_comm n, this]
theorem val_take_lt (cs : List Nat) (hb : ∀ j : Nat, cs.getD j 0 < 256) (k : Nat) (hk : k ≤ 7) : Frame.val (cs.take k) < 72057594037927936 := by
 have h1 := Frame.val_lt (cs.take k) fun c hc => Frame.mem_lt hb c (List.mem_of_mem_take hc)
 have h2 : (cs.take k).length ≤ 7 := by simp; omega
 have h3 : 256 ^ (cs.take k).length ≤ 256 ^ 7 := Nat.pow_le_pow_right (by decide) h2
 omega
theorem val_take_succ (cs : List Nat) (k : Nat) (h : k < cs.length) : Frame.val (cs.take (k + 1)) = Frame.val (cs.take k) * 256 + cs[k] := by
 rw [List.take_succ_eq_append_getElem h, Frame.val_snoc]

set_option maxHeartbeats 400000 in
theorem value_some (b off cap : Nat) (cs : List Nat) (w : World) (hl : cs.length ≤ 8) (h : BytesIn w b off cs) :
  Calls Tryd.prog 94 #[.slice (some ⟨b, off, none⟩) cs.length cap] w fun e w' => e = .returned (.int .u64 (Frame.val cs : Nat)) ∧ w' = w := by
 obtain ⟨hc, hb⟩ := h
 go_enter Tryd.func94, Tryd.ntmps94
 go_wp2
 go_loop [3, 5, 8] (fun n c i => ∃ k : Nat, k ≤ cs.length ∧ i = .int .i64 k ∧ n = .int .u64 (Frame.val (cs.take k) : Nat)) (fun _ _ i => cs.length - (intOf i).toNat)
 case atStart => exact ⟨0, Nat.zero_le _, rfl, rfl⟩
 case round =>
  obtain ⟨k, hk, rfl, rfl⟩ := hrel
  by_cases hlt : k < cs.length
  ·have hck := hc k hlt
   have HS : Hid (bits BinOp.or IntKind.u64 (IntKind.u64.wrap ((Frame.val (cs.take k) : Nat) * 256)) (IntKind.u64.wrap (cs[k] : Nat)) = ((Frame.val (cs.take (k + 1)) : Nat) : Int)) := by
    have h1 := u64_step (Frame.val (cs.take k)) cs[k] (val_take_lt cs hb k (by omega)) (Frame.mem_lt hb _ (List.getElem_mem hlt))
    rw [← val_take_succ cs k hlt] at h1
    exact h1
   clear hc hb
   go_wp2
   refine ⟨⟨k + 1, by omega, by go_num, by rw [HS.out]⟩, ?_⟩
   simp [intOf]; omega
  ·go_wp2
   go_ret
   exact ⟨by rw [show k = cs.length by omega, List.take_length]; rfl, rfl⟩
set_option maxHeartbeats 400000 in
theorem value_none (p : Option Addr) (cap : Nat) (w : World) :
  Calls Tryd.prog 94 #[.slice p 0 cap] w fun e w' => e = .returned (.int .u64 0) ∧ w' = w := by
 go_enter Tryd.func94, Tryd.ntmps94
 go_wp2
 go_loop [3, 5, 8] (fun n c i => i = .int .i64 0 ∧ n = .int .u64 0) (fun _ _ i => 0)
 case atStart => exact ⟨rfl, rfl⟩
 case round =>
  obtain ⟨rfl, rfl⟩ := hrel
  go_wp2
  go_ret
  exact ⟨rfl, rfl⟩
theorem value_any (v : Value) (cs : List Nat) (w : World) (h : SliceIn w v cs) (hl : cs.length ≤ 8) :
  Calls Tryd.prog 94 #[v] w fun e w' => e = .returned (.int .u64 (Frame.val cs : Nat)) ∧ w = w' := by
 obtain ⟨p, cap, rfl, hl', h⟩ := h
 rcases h with rfl | ⟨b, off, rfl, h⟩
 ·exact (value_none p cap w).mono fun e w' h => ⟨h.1, h.2.symm⟩
 ·exact (value_some b off cap cs w hl h).mono fun e w' h => ⟨h.1, h.2.symm⟩

/-! a size -/
theorem sizeHolds_yes (s : Int) (w : World) (h1 : 1 ≤ s) (h2 : s ≤ 8) : Calls Tryd.prog 92 #[.int .i64 s] w fun e w' => e = .returned (.bool true) ∧ w = w' := by
 go_enter Tryd.func92, Tryd.ntmps92
 go_wp2
 go_ret
 exact ⟨rfl, rfl⟩
section
variable {w : World} {ops : Array Oper} {rest : List Oper} {o : Oper} {a : Act} {Q : Exit → Act → World → Prop}
/-- make([]byte, n) -/
theorem wpList_makeN (l c : Operand) (hgd : o.guard = none) (ho : o.op = .makeSlice 28 l c) (base n : Nat) (L C : Int) (hl : a.eval l = .int .i64 L) (hc : a.eval c = .int .i64 C) (hL : L = (n : Int)) (hC : C = (n : Int)) (hn : n ≤ 281474976710656) (hb : base ≤ w.heap.size)
  (h : ∀ v' w', BOwn w' base v' (List.replicate n 0) → Below w.heap.size w w' → wpList Tryd.prog ops Q rest (a.put o.dst v') w') : wpList Tryd.prog ops Q (o :: rest) a w := by
 obtain ⟨i, hi, hz0, hz1, hz2⟩ := info_parts info5
 refine wpList_make_full w hgd l c 28 ho base 5 i (.int .u8 0) 1 Tryd.underlying28 hi hz0 hz1 .i64 .i64 L C n hl hc hL hC (by rw [hz2]; omega) (by unfold maxLen; omega) hb ?_
 intro w' hown hg
 refine h _ w' ?_ ((Below.refl w.heap.size w).grown hg (Nat.le_refl _) fun k hk => by cases hk)
 unfold BOwn
 have e : bcells (List.replicate n 0) = (madeCells (Value.int IntKind.u8 0).cells (n * 1)).toList := by
  apply List.ext_getElem
  ·rw [bcells_length]
   simp [madeCells, Value.cells]
  ·intro j h1 h2
   simp [bcells, madeCells, Value.cells, Nat.mod_one]
 rw [e, List.length_replicate]
 exact hown
/-- the whole of a row of the call's own written over -/
theorem wpList_copyFull (d s : Operand) (hgd : o.guard = none) (ho : o.op = .call { callee := .builtin .copy, args := #[d, s], argTypes := #[28, 28] })
  (base : Nat) (v vx : Value) (zs cs : List Nat) (hd : a.eval d = v) (hown : BOwn w base v zs) (hs : a.eval s = vx) (hin : SliceIn w vx cs) (hlen : zs.length = cs.length)
  (h : ∀ w' r, BOwn w' base v cs → w.grownBy w' v.ownBlock → wpList Tryd.prog ops Q rest (a.put o.dst r) w') : wpList Tryd.prog ops Q (o :: rest) a w := by
 obtain ⟨p, cap, rfl, hl, hin⟩ := hin
 by_cases h0 : cs = []
 ·subst h0
  obtain rfl : zs = [] := List.length_eq_zero_iff.1 hlen
  have hg0 : w.grownBy w v.ownBlock := World.grownBy.refl w _
  rcases hown.2 with ⟨rfl, _⟩ | ⟨g, cap', cur, rfl, _⟩
  ·exact wpList_copy_nothing hgd d s 28 28 ho 5 Tryd.underlying28 size5 none p 0 0 _ cap hd hs rfl (h w _ hown hg0)
  ·exact wpList_copy_nothing hgd d s 28 28 ho 5 Tryd.underlying28 size5 _ p _ _ _ cap hd hs rfl (h w _ hown hg0)
 ·rcases hin with rfl | ⟨b, off, rfl, hc, _⟩
  ·exact absurd rfl h0
  have hpos : 0 < cs.length := by cases cs <;> simp_all
  rcases hown.2 with ⟨rfl, hz⟩ | ⟨g, cap', cur, rfl, hbg, hg, hcap, hmax, hsz, htake⟩
  ·omega
  refine wpList_copy_own hgd d s 28 28 ho 5 Tryd.underlying28 size5 g 0 zs.length cap' ⟨b, off, none⟩ cs.length cap hd hs cur 5 hg (bcells cs) (by rw [bcells_length, hlen]; exact (Nat.min_self _).symm) (fun j u hu => ?_) (by rw [bcells_length]; omega) (bcells_one cs) ?_
  ·have hj : j < cs.length := by
    have := (List.getElem?_eq_some_iff.1 hu).1
    rwa [bcells_length] at this
   rw [add_none, hc j hj, ← hu, bcells_at cs j hj]
  ·refine h _ _ ⟨by rw [bcells_length]; omega, Or.inr ⟨g, cap', _, by rw [hlen], hbg, setRow_heap w g _ _ 5 (0, 0) hg, by omega, hmax, ?_, ?_⟩⟩ ⟨rfl, rfl, rfl, by simp, fun k _ hk => setRow_other w g k _ (fun e => hk (by rw [e]; rfl))⟩
   ·simp [bcells_length]
    omega
   ·simp [bcells_length]
end
section
variable {w : World} {ops : Array Oper} {rest : List Oper} {o : Oper} {a : Act} {Q : Exit → Act → World → Prop}
end
end Go.Proofs.YthgidfoidbgnaaaDoor.Fr

namespace Go.Proofs.YthgidfoidbgnaaaDoor.Fr
open Go.RowKit

set_option maxHeartbeats 400000 in
theorem told_any (v : Value) (cs : List Nat) (w : World) (h : SliceIn w v cs) (hsz : cs.length ≤ 281474976710656) :
  Calls Tryd.prog 93 #[v] w fun e w' => ∃ v', e = .returned v' ∧ BOwn w' w.heap.size v' cs ∧ Below w.heap.size w w' := by
 go_enter Tryd.func93, Tryd.ntmps93
 go_wp2_with (first
  | (refine wpList_len (.tmp 4) rfl rfl v cs rfl h ?_)
  | (refine wpList_makeN (.tmp 5) (.tmp 5) rfl rfl w.heap.size cs.length _ _ rfl rfl rfl rfl hsz (Nat.le_refl _) ?_; intro v1 w1 o1 b1; have O1 : Hid (BOwn w1 w.heap.size v1 (List.replicate cs.length 0)) := o1; have B1 : Hid (Below w.heap.size w w1) := b1; clear o1 b1)
  | (refine wpList_copyFull (.tmp 7) (.tmp 8) rfl rfl w.heap.size v1 v (List.replicate cs.length 0) cs rfl O1.out rfl (h.later B1.out) (by simp) ?_; intro w2 r o2 g2; have O2 : Hid (BOwn w2 w.heap.size v1 cs) := o2; have B2 : Hid (Below w.heap.size w w2) := B1.out.trans (O1.out.below g2 B1.out.size); clear o2 g2))
 go_ret
 exact ⟨_, rfl, O2.out, B2.out⟩

end Go.Proofs.YthgidfoidbgnaaaDoor.Fr

/- The check sums over any slice of bytes; bytes written and read as numbers. -/
import Derived.Test.YthgidfoidbgnaaaDoorE11
namespace Go.Proofs.YthgidfoidbgnaaaDoor.Fr
open Go.RowKit

theorem aS {α : Type} (l : List α) (i : Nat) (a : α) : l.toArray.setIfInBounds i a = (l.set i a).toArray := List.setIfInBounds_toArray ..
theorem aC {α : Type} (x : α) (l : List α) (n : Nat) (a : α) : (x :: l).set (n + 1) a = x :: l.set n a := List.set_cons_succ ..
theorem aZ {α : Type} (x : α) (l : List α) (a : α) : (x :: l).set 0 a = a :: l := List.set_cons_zero ..
set_option maxHeartbeats 400000 in
theorem more_none (s : BitVec 32) (p : Option Addr) (cap : Nat) (w : World) :
  Calls Tryd.prog 91 #[.int .u32 (Crc.U s), .slice p 0 cap] w fun e w' => e = .returned (.int .u32 (Crc.U s)) ∧ w' = w := by
 go_enter Tryd.func91, Tryd.ntmps91
 go_wp2
 go_loop [5, 7, 12] (fun r c i => i = .int .i64 0 ∧ r = .int .u32 (bits .xor .u32 IntKind.u32.max (Crc.U s))) (fun _ _ i => 0)
 case atStart => exact ⟨rfl, rfl⟩
 case round =>
  obtain ⟨rfl, rfl⟩ := hrel
  go_wp2
  go_ret
  exact ⟨by rw [Crc.U_not, Crc.U_not, BitVec.not_not]; rfl, rfl⟩

theorem U_crc (cs : List Nat) : Crc.U (Crc.more 0#32 cs) = (Frame.crc cs : Int) := rfl
theorem more_any0 (v : Value) (cs : List Nat) (w : World) (h : SliceIn w v cs) (ht : TabIn w) :
  Calls Tryd.prog 91 #[.int .u32 0, v] w fun e w' => e = .returned (.int .u32 (Frame.crc cs : Nat)) ∧ w = w' := by
 rw [show (0 : Int) = Crc.U 0#32 by decide, ← U_crc]
 obtain ⟨p, cap, rfl, hl, h⟩ := h
 rcases h with rfl | ⟨b, off, rfl, h⟩
 ·rw [Crc.more_nil]
  exact (more_none 0#32 p cap w).mono fun e w' h => ⟨h.1, h.2.symm⟩
 ·exact (more_some 0#32 b off cap cs w hl.2 h ht).mono fun e w' h => ⟨h.1, h.2.symm⟩
/-- crc.Sum, the document's own Sum -/
theorem sum_any (v : Value) (cs : List Nat) (w : World) (h : SliceIn w v cs) (ht : TabIn w) :
  Calls Tryd.prog 75 #[v] w fun e w' => e = .returned (.int .u32 (Frame.crc cs : Nat)) ∧ w = w' := by
 go_enter Tryd.func75, Tryd.ntmps75
 go_wp2_with fail
 refine (more_any0 v cs _ h ht).mono ?_
 rintro e w' ⟨rfl, rfl⟩
 go_wp2
 go_ret
 exact ⟨rfl, rfl⟩
/-! lay -/
theorem append_snoc_be (done : List Nat) (s n size : Nat) (h : done ++ Frame.be (s + 1) n = Frame.be size n) : (done ++ [n / 256 ^ s % 256]) ++ Frame.be s n = Frame.be size n := by
 rw [← h, Frame.be_succ, List.append_assoc]
 rfl

theorem byte_at (n t : Nat) : (n : Int) / 2 ^ (8 * t) % 256 = ((n / 256 ^ t % 256 : Nat) : Int) := by
 have e : (256 : Nat) ^ t = 2 ^ (8 * t) := by rw [Nat.pow_mul]
 rw [e, Int.natCast_emod, Int.natCast_ediv, Int.natCast_pow]
 rfl

set_option maxHeartbeats 400000 in
theorem lay_any (v : Value) (cs : List Nat) (n size base : Nat) (w : World) (h : BOwn w base v cs) (hbase : base ≤ w.heap.size) (hs : size ≤ 8) (hsz : cs.length + size ≤ 140737488355328) :
  Calls Tryd.prog 74 #[v, .int .u64 (n : Nat), .int .i64 (size : Nat)] w fun e w' => ∃ v', e = .returned v' ∧ BOwn w' base v' (cs ++ Frame.be size n) ∧ Below base w w' := by
 have HO : Hid (BOwn w base v cs) := h
 have HB : Hid (base ≤ w.heap.size) := hbase
 clear h hbase
 go_enter Tryd.func74, Tryd.ntmps74
 go_wp2
 go_loopw [0, 7] (fun x i W => ∃ s : Nat, ∃ done : List Nat, s ≤ size ∧ i = .int .i64 ((s : Int) - 1) ∧ BOwn W base x (cs ++ done) ∧ done ++ Frame.be s n = Frame.be size n ∧ Below base w W) (fun _ i _ => (intOf i + 1).toNat)
 case atStart => exact ⟨size, [], Nat.le_refl _, rfl, by rw [List.append_nil]; exact HO.out, rfl, Below.refl _ _⟩
 case round =>
  obtain ⟨s, done, hss, rfl, hx, hd, hbl⟩ := hrel
  have HX : Hid (BOwn wr base u0 (cs ++ done)) := hx
  have HD : Hid (done ++ Frame.be s n = Frame.be size n) := hd
  have HBL : Hid (Below base w wr) := hbl
  clear hx hd hbl
  by_cases h0 : s = 0
  ·subst h0
   have HE : Hid (cs ++ done = cs ++ Frame.be size n) := by
    have := HD.out
    rw [Frame.be, List.append_nil] at this
    show _ = _
    rw [this]
   go_wp2
   go_ret
   exact ⟨u0, rfl, by rw [← HE.out]; exact HX.out, HBL.out⟩
  ·obtain ⟨t, rfl⟩ : ∃ t, s = t + 1 := ⟨s - 1, by omega⟩
   have HL : Hid (done.length + 1 ≤ size) := by
    have := congrArg List.length HD.out
    rw [List.length_append, Frame.be_length, Frame.be_length] at this
    show _ ≤ _
    omega
   rw [show ((t + 1 : Nat) : Int) - 1 = (t : Int) by omega]
   go_wp2_with (first
    | (refine wpList_lit1 (.tmp 19) rfl rfl (n / 256 ^ t % 256) (Nat.mod_lt _ (by decide)) _ rfl (byte_at n t) ?_; intro v1 w1 s1 b1; have B1 : Hid (Below wr.heap.size wr w1) := b1; clear b1)
    | (refine wpList_append (.tmp 14) (.tmp 20) rfl rfl base u0 v1 (cs ++ done) [n / 256 ^ t % 256] rfl (HX.out.later B1.out (Nat.le_refl _)) rfl s1 (by have := HL.out; rw [List.length_append]; simp; omega) (Nat.le_trans HB.out (Nat.le_trans HBL.out.size B1.out.size)) ?_; intro v2 w2 o2 b2; have O2 : Hid (BOwn w2 base v2 (cs ++ (done ++ [n / 256 ^ t % 256]))) := (by rw [← List.append_assoc]; exact o2); have B2 : Hid (Below base w w2) := HBL.out.trans ((B1.out.mono (Nat.le_trans HB.out HBL.out.size)).trans b2); clear o2 b2 s1 B1))
   refine ⟨⟨t, done ++ [n / 256 ^ t % 256], by omega, by go_num, O2.out, append_snoc_be done t n size HD.out, B2.out⟩, ?_⟩
   simp [intOf]
end Go.Proofs.YthgidfoidbgnaaaDoor.Fr

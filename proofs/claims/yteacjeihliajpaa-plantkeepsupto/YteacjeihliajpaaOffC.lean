/- The calls of the law PlantOff. -/
import Derived.Test.YteacjeihliajpaaOff
namespace Go.Proofs.Yteacjeihliajpaa
open Go.RowKit Go.Maps

section
variable {w W : World} {B : Nat} {c : Nat → Colour} {g q : Nat} {m mq : Pl} {F d : Nat}
theorem st_fuse (hs : St w B W c g m) (n : Int) (h0 : -9223372036854775808 ≤ n) (h1 : n ≤ 9223372036854775807) : Calls Try.prog 23 #[ptr g, .int .i64 n] W fun e w' => e = .returned noResult ∧ ∃ c', St w B w' c' g (m.fuseTo n) :=
  (hs.1.fuse n h0 h1).mono fun e w' ⟨he, hn⟩ => by
    obtain ⟨c', h, _, _⟩ := hs.next hn
    exact ⟨he, c', h⟩
theorem st_steps (hs : St w B W c g m) (ho : OffIs m F d) : Calls Try.prog 34 #[ptr g] W fun e w' => e = .returned (.int .i64 (d : Int)) ∧ W = w' :=
  hs.1.steps.mono fun e w' ⟨he, hw⟩ => ⟨by rw [he, ho.steps], hw.symm⟩
theorem st_last (hs : St w B W c g (m.fuseTo 0)) (ho : OffIs m F d) (hF : F < 12) : Calls Try.prog 21 #[ptr g, .int .i64 0] W fun e w' => e = .returned (.int .i64 2) ∧ ∃ c' m', St w B w' c' g m' ∧ Dead m' d := by
  have hle := ho.le
  have hst : (m.fuseTo 0).steps = d := by rw [← ho.steps]; unfold Pl.fuseTo; split <;> rfl
  refine (hs.1.flush (by omega) 0).mono fun e w' ⟨he, hn⟩ => ?_
  obtain ⟨c', h, _, _⟩ := hs.next hn
  obtain ⟨h1, h2⟩ := ho.last
  exact ⟨by rw [he, h1], c', _, h, h2⟩
theorem dead_on (h : Two w B W c g q m mq) (hd : Dead m d) : Calls Try.prog 35 #[ptr g] W fun e w' => e = .returned (.bool false) ∧ W = w' :=
  h.1.isOn.mono fun e w' ⟨he, hw⟩ => ⟨by rw [he, hd.off], hw.symm⟩
theorem dead_steps (h : Two w B W c g q m mq) (hd : Dead m d) : Calls Try.prog 34 #[ptr g] W fun e w' => e = .returned (.int .i64 (d : Int)) ∧ W = w' :=
  h.1.steps.mono fun e w' ⟨he, hw⟩ => ⟨by rw [he, hd.steps], hw.symm⟩
theorem dead_read (h : Two w B W c g q m mq) (hd : Dead m d) (hd12 : d < 12) : Calls Try.prog 20 #[ptr g, .int .i64 0, .int .i64 0] W fun e w' => e = .returned (.tuple #[.slice none 0 0, .int .i64 2]) ∧ Two w B w' c g q m mq := by
  have hst := hd.steps
  refine (h.1.readN (by omega) 0 0 (by rw [hd.off]; simp)).mono fun e w' ⟨he, n, hw⟩ => ?_
  rw [hd.off] at he
  subst hw
  exact ⟨he, h.drewN n⟩
theorem dead_write (h : Two w B W c g q m mq) (hd : Dead m d) (hd12 : d < 12) (b : Nat) (hb : Row W b 5 (bcells (ones 9))) : Calls Try.prog 16 #[ptr g, .int .i64 0, .int .i64 0, .slice (some ⟨b, 0, none⟩) 64 64] W fun e w' => e = .returned (.int .i64 2) ∧ ∃ c', Two w B w' c' g q m mq := by
  have hst := hd.steps
  have hv : SliceIn W (.slice (some ⟨b, 0, none⟩) 64 64) (ones 9) := Out.slice (c := fun _ => (1, 0)) ⟨hb, by simp⟩ (ones_sec 9 (by decide))
  have e0 : m.write 0 0 (ones 9) = (2, m) := by unfold Pl.write; rw [if_pos hd.off]
  refine (h.1.write (by omega) 0 0 _ _ hv).mono fun e w' ⟨he, hn⟩ => ?_
  rw [e0] at he hn
  exact ⟨he, h.first hn⟩
theorem dead_append (h : Two w B W c g q m mq) (hd : Dead m d) (hd12 : d < 12) (b : Nat) (hb : Row W b 5 (bcells (ones 9))) : Calls Try.prog 18 #[ptr g, .int .i64 1, .slice (some ⟨b, 0, none⟩) 64 64] W fun e w' => e = .returned (.tuple #[.int .i64 0, .int .i64 2]) ∧ ∃ c', Two w B w' c' g q m mq := by
  have hst := hd.steps
  have hv : SliceIn W (.slice (some ⟨b, 0, none⟩) 64 64) (ones 9) := Out.slice (c := fun _ => (1, 0)) ⟨hb, by simp⟩ (ones_sec 9 (by decide))
  have e0 : m.append 1 (ones 9) = (0, 2, m) := by unfold Pl.append; rw [if_pos hd.off]
  refine (h.1.append (by omega) 1 _ _ hv).mono fun e w' ⟨he, hn⟩ => ?_
  rw [e0] at he hn
  exact ⟨he, h.first hn⟩
theorem dead_flush (h : Two w B W c g q m mq) (hd : Dead m d) (hd12 : d < 12) : Calls Try.prog 21 #[ptr g, .int .i64 1] W fun e w' => e = .returned (.int .i64 2) ∧ ∃ c', Two w B w' c' g q m mq := by
  have hst := hd.steps
  have e0 : m.flush 1 = (2, m) := by unfold Pl.flush; rw [if_pos hd.off]
  refine (h.1.flush (by omega) 1).mono fun e w' ⟨he, hn⟩ => ?_
  rw [e0] at he hn
  exact ⟨he, h.first hn⟩
theorem dead_fuse (h : Two w B W c g q m mq) (hd : Dead m d) : Calls Try.prog 23 #[ptr g, .int .i64 3] W fun e w' => e = .returned noResult ∧ ∃ c', Two w B w' c' g q m mq := by
  have e0 : m.fuseTo 3 = m := by unfold Pl.fuseTo; rw [if_neg (by rw [hd.off]; decide)]
  refine (h.1.fuse 3 (by decide) (by decide)).mono fun e w' ⟨he, hn⟩ => ?_
  rw [e0] at hn
  exact ⟨he, h.first hn⟩
theorem two_len (h : Two w B W c g q m mq) (hn : m.n = 2) (hst : m.steps < 12) (N : Nat) (hN : N = m.len 1) : Calls Try.prog 36 #[ptr g, .int .i64 1] W fun e w' => e = .returned (.tuple #[.int .i64 (N : Int), .int .i64 0]) ∧ Two w B w' c g q m mq := by
  have hh : m.has 1 := by unfold Pl.has; rw [hn]; decide
  refine (h.1.len (by omega) 1).mono fun e w' ⟨he, n, hw⟩ => ?_
  rw [if_pos hh, if_pos hh, show ((1 : Int)).toNat = 1 from rfl, ← hN] at he
  subst hw
  exact ⟨he, h.drewN n⟩
theorem two_bootP (h : Two w B W c g q m mq) (hst : m.steps < 12) {W1 : World} (hb : Below W.heap.size W W1) (hr : Row W1 W.heap.size 3 [.int .i64 1]) : Calls Try.prog 25 #[ptr g, .slice (some ⟨W.heap.size, 0, none⟩) 1 1] W1 fun e w' => e = .returned noResult ∧ ∃ c', Two w B w' c' g q (m.boot [1]) mq := by
  have h1 := h.below hb
  refine (h1.1.boot (by omega) _ [1] (keepIn_one hr 0 (h.1.2.2 _ (Nat.le_refl _)))).mono fun e w' ⟨he, hn⟩ => ⟨he, h1.first hn⟩
theorem two_bootQ (h : Two w B W c g q m mq) (hst : mq.steps < 12) {W1 : World} (hb : Below W.heap.size W W1) (hr : Row W1 W.heap.size 3 [.int .i64 1]) : Calls Try.prog 25 #[ptr q, .slice (some ⟨W.heap.size, 0, none⟩) 1 1] W1 fun e w' => e = .returned noResult ∧ ∃ c', Two w B w' c' g q m (mq.boot [1]) := by
  have h1 := h.below hb
  refine (h1.2.1.boot (by omega) _ [1] (keepIn_one hr 2 (h.2.1.2.2 _ (Nat.le_refl _)))).mono fun e w' ⟨he, hn⟩ => ⟨he, h1.second hn⟩
/-- both plants, booted -/
def Up (m : Pl) : Prop := m.WF ∧ m.on = true ∧ m.n = 2 ∧ m.len 0 = 8 ∧ m.steps < 12
theorem two_readP (h : Two w B W c g q m m) (hu : Up m) (j : Nat) (hj : j < 8) : Calls Try.prog 20 #[ptr g, .int .i64 0, .int .i64 (j : Int)] W fun e w' => ∃ b, e = .returned (.tuple #[.slice (some ⟨b, 0, none⟩) 64 64, .int .i64 0]) ∧ Row w' b 5 (bcells (m.rd 0 j)) ∧ Two w B w' c g q m m :=
  (h.1.read (by have := hu.2.2.2.2; omega) hu.2.1 0 j (by rw [hu.2.2.1]; decide) (by rw [hu.2.2.2.1]; exact hj)).mono fun e w' ⟨b, he, _, hr, hb⟩ => ⟨b, he, hr, h.below hb⟩
theorem two_readQ (h : Two w B W c g q m m) (hu : Up m) (j : Nat) (hj : j < 8) (b0 : Nat) (s0 : List Nat) (hr0 : Row W b0 5 (bcells s0)) : Calls Try.prog 20 #[ptr q, .int .i64 0, .int .i64 (j : Int)] W fun e w' => ∃ b, e = .returned (.tuple #[.slice (some ⟨b, 0, none⟩) 64 64, .int .i64 0]) ∧ Row w' b 5 (bcells (m.rd 0 j)) ∧ Row w' b0 5 (bcells s0) ∧ Two w B w' c g q m m :=
  (h.2.1.read (by have := hu.2.2.2.2; omega) hu.2.1 0 j (by rw [hu.2.2.1]; decide) (by rw [hu.2.2.2.1]; exact hj)).mono fun e w' ⟨b, he, _, hr, hb⟩ => ⟨b, he, hr, hr0.later hb hr0.lt, h.below hb⟩
theorem two_same (hu : Up m) (j b b0 : Nat) (h0 : Row W b0 5 (bcells (m.rd 0 j))) (h1 : Row W b 5 (bcells (m.rd 0 j))) : Calls Try.prog 33 #[.slice (some ⟨b0, 0, none⟩) 64 64, .slice (some ⟨b, 0, none⟩) 64 64] W fun e w' => e = .returned (.bool true) ∧ W = w' := by
  have hs : Sec (m.rd 0 j) := Pl.rd_sec hu.1 0 j
  have v0 : SliceIn W (.slice (some ⟨b0, 0, none⟩) 64 64) (m.rd 0 j) := Out.slice (c := fun _ => (1, 0)) ⟨h0, by simp⟩ hs
  have v1 : SliceIn W (.slice (some ⟨b, 0, none⟩) 64 64) (m.rd 0 j) := Out.slice (c := fun _ => (1, 0)) ⟨h1, by simp⟩ hs
  exact (same_any W _ _ _ _ v0 v1).mono fun e w' ⟨he, hw⟩ => ⟨by rw [he]; simp, hw.symm⟩
theorem two_on (h : Two w B W c g q m m) (hu : Up m) : Calls Try.prog 35 #[ptr g] W fun e w' => e = .returned (.bool true) ∧ W = w' :=
  h.1.isOn.mono fun e w' ⟨he, hw⟩ => ⟨by rw [he, hu.2.1], hw.symm⟩
theorem Dead.up (hd : Dead m d) (hd12 : d < 12) : Up (m.boot [1]) ∧ (m.boot [1]).len 1 = m.len 1 := by
  obtain ⟨h1, h2, h3, h4, h5, h6⟩ := hd.boot
  exact ⟨⟨h1, h2, h3, h5, by omega⟩, h4⟩
end
theorem en25 : EntersF 25 := Go.Proofs.enters_of Try.func25 (by kernel_rfl) rfl
theorem en32 : EntersF 32 := Go.Proofs.enters_of Try.func32 (by kernel_rfl) rfl
theorem en16 : EntersF 16 := Go.Proofs.enters_of Try.func16 (by kernel_rfl) rfl
theorem one5 : OneT 5 := fun w g o v h => by simp [loadVar, isAgg, run_underlying Try.underlying5, h]
theorem run_quo2 (w : World) (n : Nat) (hn : n < 256) : (binOp .quo 3 (.int .i64 (n : Int)) (.int .i64 2)).run Try.prog w = .ok (.int .i64 ((n / 2 : Nat) : Int)) w := by
  simp [binOp, Op.intDiv, IntKind.wrap, IntKind.signed, IntKind.bits]
  omega
theorem run_rem8 (w : World) (n : Nat) : (binOp .rem 3 (.int .i64 (n : Int)) (.int .i64 8)).run Try.prog w = .ok (.int .i64 ((n % 8 : Nat) : Int)) w := by
  simp [binOp, Op.intDiv]
  exact Int.tmod_eq_emod_of_nonneg (by omega)
section
variable {ops : Array Oper} {a : Act}
theorem yVal {o : Oper} (hgd : o.guard = none) (v : Value) (h : ∀ w, (execOp a.eval o).run Try.prog w = .ok (.value v) w) : Yields Try.prog ops o v a := Or.inl ⟨by simp [Region.wanted, hgd], h⟩
theorem yConv {o : Oper} (hgd : o.guard = none) (x : Operand) (ho : o.op = .convert 5 3 x) (n : Nat) (hn : n < 256) (hx : a.eval x = .int .u8 (n : Int)) : Yields Try.prog ops o (.int .i64 (n : Int)) a :=
  yVal hgd _ fun w => by
    simp [execOp, ho, hx, convert, run_underlying Try.underlying5, run_underlying Try.underlying3, Conv.intToInt, IntKind.wrap, IntKind.signed, IntKind.bits]
    omega
theorem yQuo {o : Oper} (hgd : o.guard = none) (x : Operand) (ho : o.op = .binOp .quo 3 x (.const (.int .i64 2)) 3) (n : Nat) (hn : n < 256) (hx : a.eval x = .int .i64 (n : Int)) : Yields Try.prog ops o (.int .i64 ((n / 2 : Nat) : Int)) a :=
  yVal hgd _ fun w => by
    have hy : a.eval (.const (.int .i64 2)) = .int .i64 2 := rfl
    simp only [execOp, ho, hx, hy, eqGuard_quo, Sem.run_bind, Sem.run_pure, Result.andThen_ok, run_quo2 w n hn]
theorem yRem {o : Oper} (hgd : o.guard = none) (x : Operand) (ho : o.op = .binOp .rem 3 x (.const (.int .i64 8)) 3) (n : Nat) (hx : a.eval x = .int .i64 (n : Int)) : Yields Try.prog ops o (.int .i64 ((n % 8 : Nat) : Int)) a :=
  yVal hgd _ fun w => by
    have hy : a.eval (.const (.int .i64 8)) = .int .i64 8 := rfl
    simp only [execOp, ho, hx, hy, eqGuard_rem, Sem.run_bind, Sem.run_pure, Result.andThen_ok, run_rem8 w n]
end
end Go.Proofs.Yteacjeihliajpaa

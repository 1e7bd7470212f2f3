/- Bits that are turned side by side: what they do to the register; a register that is none of zeros never comes to zeros. -/
import Derived.Test.YtcpnlccajcpjmaaDoorZ08
namespace Go.Proofs.YtcpnlccajcpjmaaDoor.Fr.Crc

theorem step_zero : step 0#32 = 0#32 := by decide
theorem step_inj0 (a : BitVec 32) (h : step a = 0#32) : a = 0#32 := by
  unfold step at h
  cases h0 : a.getLsbD 0
  · rw [h0] at h
    simp only [Bool.false_eq_true, if_false] at h
    apply BitVec.eq_of_getLsbD_eq
    intro i hi
    cases i with
    | zero => rw [h0]; simp
    | succ j =>
      have := congrArg (fun x => x.getLsbD j) h
      simp only [BitVec.getLsbD_ushiftRight] at this
      rw [show 1 + j = j + 1 from Nat.add_comm 1 j] at this
      rw [this]
      simp
  · rw [h0] at h
    simp only [if_true] at h
    have := congrArg (fun x => x.getLsbD 31) h
    simp only [BitVec.getLsbD_xor, BitVec.getLsbD_ushiftRight] at this
    rw [BitVec.getLsbD_of_ge a (1 + 31) (by omega)] at this
    exact absurd this (by decide)
theorem steps_inj0 (n : Nat) : ∀ a, steps n a = 0#32 → a = 0#32 := by
  induction n with
  | zero => intro a h; exact h
  | succ n ih => intro a h; exact step_inj0 a (ih _ h)
theorem steps_zero (n : Nat) : steps n 0#32 = 0#32 := by
  induction n with
  | zero => rfl
  | succ n ih => simp only [steps]; rw [step_zero, ih]

theorem run_xor (cs : List Nat) : ∀ a b : BitVec 32, run (a ^^^ b) cs = run a cs ^^^ steps (8 * cs.length) b := by
  induction cs with
  | nil => intro a b; rfl
  | cons c cs ih =>
    intro a b
    rw [run_cons, run_cons]
    have e : byteStep (a ^^^ b) c = byteStep a c ^^^ steps 8 b := by
      unfold byteStep
      rw [← steps_xor, BitVec.xor_assoc, BitVec.xor_assoc, BitVec.xor_comm b]
    rw [e, ih, ← steps_add, List.length_cons, show 8 + 8 * cs.length = 8 * (cs.length + 1) by omega]

theorem ofNat_xor (a b : Nat) : BitVec.ofNat 32 (a ^^^ b) = BitVec.ofNat 32 a ^^^ BitVec.ofNat 32 b := by
  apply BitVec.eq_of_getLsbD_eq
  intro i hi
  simp [BitVec.getLsbD_ofNat]

/-- one byte is turned by x -/
theorem run_set (cs : List Nat) : ∀ (r : BitVec 32) (p : Nat) (x : Nat), p < cs.length →
    run r (cs.set p (cs.getD p 0 ^^^ x)) = run r cs ^^^ steps (8 * (cs.length - p)) (BitVec.ofNat 32 x) := by
  induction cs with
  | nil => intro r p x h; simp at h
  | cons c cs ih =>
    intro r p x h
    cases p with
    | zero =>
      simp only [List.set_cons_zero, List.getD_cons_zero, run_cons]
      have e : byteStep r (c ^^^ x) = byteStep r c ^^^ steps 8 (BitVec.ofNat 32 x) := by
        unfold byteStep
        rw [ofNat_xor, ← BitVec.xor_assoc, steps_xor]
      rw [e, run_xor, ← steps_add, List.length_cons, show 8 + 8 * cs.length = 8 * (cs.length + 1 - 0) by omega]
    | succ p =>
      simp only [List.set_cons_succ, List.getD_cons_succ, run_cons]
      rw [ih _ p x (by simpa using h), List.length_cons, show cs.length - p = cs.length + 1 - (p + 1) by omega]

theorem steps_shl (m : Nat) (h : m < 32) : steps m (1#32 <<< m) = 1#32 := by
  have : ∀ k : Fin 32, steps k.val (1#32 <<< k.val) = 1#32 := by decide +kernel
  exact this ⟨m, h⟩
theorem shl_ofNat (m : Nat) (h : m < 32) : BitVec.ofNat 32 (2 ^ m) = 1#32 <<< m := by
  have : ∀ k : Fin 32, BitVec.ofNat 32 (2 ^ k.val) = 1#32 <<< k.val := by decide +kernel
  exact this ⟨m, h⟩
/-- a bit m places up, n shifts -/
theorem steps_bit (n m : Nat) (h : m < 32) (hn : m ≤ n) : steps n (1#32 <<< m) = steps (n - m) 1#32 := by
  rw [show n = m + (n - m) by omega, steps_add, steps_shl m h, show m + (n - m) - m = n - m by omega]

/-! ### the bits of a number, turned from a place on -/
/-- is the bit i of the number turned? (a place behind the last bit has none) -/
def turns (len at_ : Nat) (x : BitVec 32) (i : Nat) : Bool := decide (at_ + i < 8 * len) && x.getLsbD i
/-- the bytes behind i bits -/
def flipTo (at_ : Nat) (x : BitVec 32) (cs : List Nat) : Nat → List Nat
  | 0 => cs
  | i + 1 => if turns cs.length at_ x i then (flipTo at_ x cs i).set ((at_ + i) / 8) ((flipTo at_ x cs i).getD ((at_ + i) / 8) 0 ^^^ 2 ^ ((at_ + i) % 8)) else flipTo at_ x cs i
/-- was one turned yet? -/
def turnedTo (len at_ : Nat) (x : BitVec 32) : Nat → Bool
  | 0 => false
  | i + 1 => if turns len at_ x i then true else turnedTo len at_ x i
/-- those that were turned -/
def mask (len at_ : Nat) (x : BitVec 32) : Nat → BitVec 32
  | 0 => 0#32
  | i + 1 => if turns len at_ x i then mask len at_ x i ^^^ 1#32 <<< i else mask len at_ x i

theorem flipTo_length (at_ : Nat) (x : BitVec 32) (cs : List Nat) (i : Nat) : (flipTo at_ x cs i).length = cs.length := by
  induction i with
  | zero => rfl
  | succ i ih => simp only [flipTo]; split <;> simp [ih]

theorem flipTo_lt (at_ : Nat) (x : BitVec 32) (cs : List Nat) (h : ∀ j : Nat, cs.getD j 0 < 256) (i : Nat) : ∀ j : Nat, (flipTo at_ x cs i).getD j 0 < 256 := by
  induction i with
  | zero => exact h
  | succ i ih =>
    intro j
    simp only [flipTo]
    split
    · by_cases hj : j < (flipTo at_ x cs i).length
      · have h1 := ih j
        by_cases hp : (at_ + i) / 8 = j
        · have hx : (flipTo at_ x cs i).getD ((at_ + i) / 8) 0 ^^^ 2 ^ ((at_ + i) % 8) < 2 ^ 8 :=
            Nat.xor_lt_two_pow (ih _) (Nat.pow_lt_pow_right (by decide) (Nat.mod_lt _ (by decide)))
          rw [List.getD_eq_getElem?_getD, hp, List.getElem?_set_self hj, ← hp]
          exact hx
        · rw [List.getD_eq_getElem?_getD, List.getElem?_set_ne hp, ← List.getD_eq_getElem?_getD]
          exact h1
      · rw [List.getD_eq_getElem?_getD, List.getElem?_eq_none (by simpa using hj)]
        decide
    · exact ih j

theorem run_flipTo (at_ : Nat) (x : BitVec 32) (cs : List Nat) (r : BitVec 32) (i : Nat) (hi : i ≤ 32) :
    run r (flipTo at_ x cs i) = run r cs ^^^ steps (8 * cs.length - at_) (mask cs.length at_ x i) := by
  induction i with
  | zero => simp [flipTo, mask, steps_zero]
  | succ i ih =>
    simp only [flipTo, mask]
    split
    · rename_i ht
      have hlt : at_ + i < 8 * cs.length := by
        unfold turns at ht
        simp only [Bool.and_eq_true, decide_eq_true_eq] at ht
        exact ht.1
      have hp : (at_ + i) / 8 < (flipTo at_ x cs i).length := by rw [flipTo_length]; omega
      rw [run_set _ r _ _ hp, ih (by omega), flipTo_length, steps_xor, shl_ofNat _ (by omega)]
      rw [steps_bit (8 * (cs.length - (at_ + i) / 8)) ((at_ + i) % 8) (by omega) (by omega)]
      rw [steps_bit (8 * cs.length - at_) i (by omega) (by omega)]
      rw [show 8 * (cs.length - (at_ + i) / 8) - (at_ + i) % 8 = 8 * cs.length - at_ - i by omega, BitVec.xor_assoc]
    · exact ih (by omega)

theorem mask_bit (len at_ : Nat) (x : BitVec 32) (i : Nat) (hi : i ≤ 32) (j : Nat) (hj : j < 32) : (mask len at_ x i).getLsbD j = (decide (j < i) && turns len at_ x j) := by
  induction i with
  | zero => simp [mask]
  | succ i ih =>
    have hone : (1#32 <<< i).getLsbD j = decide (j = i) := by
      have : ∀ a b : Fin 32, (1#32 <<< a.val).getLsbD b.val = decide (b.val = a.val) := by decide +kernel
      exact this ⟨i, by omega⟩ ⟨j, hj⟩
    simp only [mask]
    split
    · rename_i ht
      rw [BitVec.getLsbD_xor, ih (by omega), hone]
      by_cases h : j = i
      · subst h
        simp [ht]
      · by_cases h2 : j < i
        · simp [h2, h, Nat.lt_succ_of_lt h2]
        · have h3 : ¬ j < i + 1 := by omega
          simp [h2, h, h3]
    · rename_i ht
      rw [ih (by omega)]
      by_cases h : j = i
      · subst h
        simp [ht]
      · by_cases h2 : j < i
        · simp [h2, Nat.lt_succ_of_lt h2]
        · have h3 : ¬ j < i + 1 := by omega
          simp [h2, h3]

theorem turnedTo_iff (len at_ : Nat) (x : BitVec 32) (i : Nat) : turnedTo len at_ x i = true ↔ ∃ j, j < i ∧ turns len at_ x j = true := by
  induction i with
  | zero => simp [turnedTo]
  | succ i ih =>
    simp only [turnedTo]
    split
    · rename_i ht
      exact ⟨fun _ => ⟨i, by omega, ht⟩, fun _ => rfl⟩
    · rename_i ht
      rw [ih]
      constructor
      · rintro ⟨j, h1, h2⟩; exact ⟨j, by omega, h2⟩
      · rintro ⟨j, h1, h2⟩
        refine ⟨j, ?_, h2⟩
        by_cases h : j = i
        · subst h; exact absurd h2 ht
        · omega

/-- WHAT IS TURNED IS SEEN -/
theorem tells (at_ : Nat) (x : BitVec 32) (cs : List Nat) (s : BitVec 32) : (more s cs != more s (flipTo at_ x cs 32)) = turnedTo cs.length at_ x 32 := by
  have hrun := run_flipTo at_ x cs (~~~ s) 32 (Nat.le_refl _)
  rw [Bool.eq_iff_iff, bne_iff_ne, turnedTo_iff]
  unfold more
  rw [hrun]
  constructor
  · intro hne
    apply Classical.byContradiction
    intro hno
    apply hne
    have hz : mask cs.length at_ x 32 = 0#32 := by
      apply BitVec.eq_of_getLsbD_eq
      intro j hj
      rw [mask_bit _ _ _ 32 (Nat.le_refl _) j hj]
      cases ht : turns cs.length at_ x j
      · simp
      · exact absurd ⟨j, hj, ht⟩ hno
    rw [hz, steps_zero, BitVec.xor_zero]
  · rintro ⟨j, hj, ht⟩ heq
    have h1 := congrArg (fun y => ~~~ y) heq
    simp only [BitVec.not_not] at h1
    have h2 : steps (8 * cs.length - at_) (mask cs.length at_ x 32) = 0#32 := by
      have h3 := congrArg (fun y => run (~~~ s) cs ^^^ y) h1
      rw [BitVec.xor_self, ← BitVec.xor_assoc, BitVec.xor_self, BitVec.zero_xor] at h3
      exact h3.symm
    have h4 := steps_inj0 _ _ h2
    have h5 := mask_bit cs.length at_ x 32 (Nat.le_refl _) j hj
    rw [h4, ht] at h5
    simp [hj] at h5

end Go.Proofs.YtcpnlccajcpjmaaDoor.Fr.Crc

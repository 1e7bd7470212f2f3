/- The greatest power of two below a number: tree.split, and the document's half. -/
import Derived.Test.YtjdmpanemdhbbaaDoorBits
import Derived.Test.YtjdmpanemdhbbaaDoorTLaws
namespace Go.Proofs.YtjdmpanemdhbbaaDoor
open Go.RowKit

theorem pow_lt_62 (K : Nat) (h : K ≤ 61) : 2 ^ K ≤ 2305843009213693952 := Nat.pow_le_pow_right (n := 2) (by decide) h
set_option maxHeartbeats 400000 in
theorem split_any (n : Nat) (w : World) (h : 2 ≤ n) (hn : n ≤ 4611686018427387904) :
    Calls Tryd.prog 31 #[.int .i64 (n : Nat)] w fun e w' => e = .returned (.int .i64 (Tree.half n : Nat)) ∧ w = w' := by
  obtain ⟨K, hK⟩ : ∃ K, K = Nat.log2 (n - 1) := ⟨_, rfl⟩
  have h61 : K ≤ 61 := by
    have := (Nat.log2_lt (n := n - 1) (k := 62) (by omega)).2 (by omega)
    omega
  have HB : Hid (Lib.bitLen (n - 1) = K + 1) := by
    rw [hK]
    exact bitLen_log2 (n - 1 + 1) (n - 1) (by omega) (by omega) (by omega)
  have HP : Hid (Tree.half n = 2 ^ K) := by rw [hK]; exact rfl
  clear hK
  go_enter Tryd.func31, Tryd.ntmps31
  go_wp2_with (first
    | (go_at_call 40; refine (len_any ((n : Int) - 1) w (by omega) (by omega)).mono ?_; rintro e w' ⟨rfl, rfl⟩; rw [show ((n : Int) - 1).toNat = n - 1 by omega, HB.out, show ((K + 1 : Nat) : Int) = (K : Int) + 1 by omega]))
  go_ret
  refine ⟨?_, rfl⟩
  have e : (2 : Int) ^ K = ((2 ^ K : Nat) : Int) := by rw [Int.natCast_pow]; rfl
  have h2 := pow_lt_62 K h61
  have e2 : wrap64 ((2 : Int) ^ K) = (Tree.half n : Nat) := by
    rw [e, HP.out]
    generalize (2 : Nat) ^ K = P at h2 ⊢
    unfold wrap64
    omega
  exact congrArg (fun z => Ending.returned (.int .i64 z)) e2

/-- a power of two -/
def IsPow (p : Nat) : Prop := ∃ e, p = 2 ^ e
theorem IsPow.one : IsPow 1 := ⟨0, rfl⟩
theorem IsPow.twice {p : Nat} (h : IsPow p) : IsPow (2 * p) := by
  obtain ⟨e, rfl⟩ := h
  exact ⟨e + 1, by rw [Nat.pow_succ]; omega⟩
theorem IsPow.pos {p : Nat} (h : IsPow p) : 0 < p := by
  obtain ⟨e, rfl⟩ := h
  exact Nat.pow_pos (by decide)
theorem IsPow.half {p n : Nat} (h : IsPow p) (h1 : p < n) (h2 : n ≤ 2 * p) : Tree.half n = p := by
  obtain ⟨e, rfl⟩ := h
  exact Tree.half_is e n h1 h2
set_option maxHeartbeats 400000 in
theorem half_any (n : Nat) (w : World) (h : 2 ≤ n) (hn : n ≤ 4611686018427387904) :
    Calls Tryd.prog 35 #[.int .i64 (n : Nat)] w fun e w' => e = .returned (.int .i64 (Tree.half n : Nat)) ∧ w = w' := by
  go_enter Tryd.func35, Tryd.ntmps35
  go_wp2
  go_loop [3] (fun k => ∃ p : Nat, k = .int .i64 (p : Nat) ∧ IsPow p ∧ p < n) (fun k => n - (intOf k).toNat)
  case atStart => exact ⟨1, rfl, IsPow.one, by omega⟩
  case round =>
    obtain ⟨p, rfl, hp, hlt⟩ := hrel
    have HP : Hid (IsPow p) := hp
    have hpos := hp.pos
    clear hp
    by_cases hgo : 2 * p < n
    · have hgo' : 2 * (p : Int) < (n : Int) := by omega
      go_wp2
      exact ⟨⟨2 * p, by go_num, HP.out.twice, by omega⟩, by simp [intOf]; omega⟩
    · have hgo' : ¬ 2 * (p : Int) < (n : Int) := by omega
      have HE : Hid (Tree.half n = p) := HP.out.half hlt (by omega)
      go_wp2
      go_ret
      exact ⟨by rw [HE.out]; rfl, rfl⟩
end Go.Proofs.YtjdmpanemdhbbaaDoor

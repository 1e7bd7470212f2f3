/- The way up: verify's split, parted and closure; the document's below and up. -/
import Derived.Test.YtjdmpanemdhbbaaDoorInclB
import Derived.Test.YtjdmpanemdhbbaaDoorVMath2
namespace Go.Proofs.YtjdmpanemdhbbaaDoor
open Go.RowKit

theorem pow_lt_63 (K : Nat) (h : K ≤ 62) : 2 ^ K ≤ 4611686018427387904 := Nat.pow_le_pow_right (n := 2) (by decide) h
set_option maxHeartbeats 400000 in
theorem vsplit_any (n : Nat) (w : World) (h : 2 ≤ n) (hn : n ≤ 9223372036854775807) :
    Calls Tryd.prog 25 #[.int .i64 (n : Nat)] w fun e w' => e = .returned (.int .i64 (Tree.half n : Nat)) ∧ w = w' := by
  obtain ⟨K, hK⟩ : ∃ K, K = Nat.log2 (n - 1) := ⟨_, rfl⟩
  have h61 : K ≤ 62 := by
    have := (Nat.log2_lt (n := n - 1) (k := 63) (by omega)).2 (by omega)
    omega
  have HB : Hid (Lib.bitLen (n - 1) = K + 1) := by
    rw [hK]
    exact bitLen_log2 (n - 1 + 1) (n - 1) (by omega) (by omega) (by omega)
  have HP : Hid (Tree.half n = 2 ^ K) := by rw [hK]; exact rfl
  clear hK
  go_enter Tryd.func25, Tryd.ntmps25
  go_wp2_with (first
    | (go_at_call 40; refine (len_any ((n : Int) - 1) w (by omega) (by omega)).mono ?_; rintro e w' ⟨rfl, rfl⟩; rw [show ((n : Int) - 1).toNat = n - 1 by omega, HB.out, show ((K + 1 : Nat) : Int) = (K : Int) + 1 by omega]))
  go_ret
  refine ⟨?_, rfl⟩
  have e : (2 : Int) ^ K = ((2 ^ K : Nat) : Int) := by rw [Int.natCast_pow]; rfl
  have h2 := pow_lt_63 K h61
  have e2 : wrap64 ((2 : Int) ^ K) = (Tree.half n : Nat) := by
    rw [e, HP.out]
    generalize (2 : Nat) ^ K = P at h2 ⊢
    unfold wrap64
    omega
  exact congrArg (fun z => Ending.returned (.int .i64 z)) e2

set_option maxHeartbeats 400000 in
theorem below41 (n : Nat) (w : World) (h : 2 ≤ n) (hn : n ≤ 9223372036854775807) :
    Calls Tryd.prog 41 #[.int .i64 (n : Nat)] w fun e w' => e = .returned (.int .i64 (Tree.half n : Nat)) ∧ w = w' := by
  go_enter Tryd.func41, Tryd.ntmps41
  go_wp2
  go_loop [3] (fun k => ∃ p : Nat, k = .int .i64 (p : Nat) ∧ IsPow p ∧ p < n) (fun k => n - (intOf k).toNat)
  case atStart => exact ⟨1, rfl, IsPow.one, by omega⟩
  case round =>
    obtain ⟨p, rfl, hp, hlt⟩ := hrel
    have HP : Hid (IsPow p) := hp
    have hpos := hp.pos
    clear hp
    by_cases hgo : 2 * p < n
    · have hgo' : (p : Int) < (n : Int) - (p : Int) := by omega
      go_wp2
      exact ⟨⟨2 * p, by go_num, HP.out.twice, by omega⟩, by simp [intOf]; omega⟩
    · have hgo' : ¬ (p : Int) < (n : Int) - (p : Int) := by omega
      have HE : Hid (Tree.half n = p) := HP.out.half hlt (by omega)
      go_wp2
      go_ret
      exact ⟨by rw [HE.out]; rfl, rfl⟩
set_option maxHeartbeats 400000 in
theorem below37 (n : Nat) (w : World) (h : 2 ≤ n) (hn : n ≤ 9223372036854775807) :
    Calls Tryd.prog 37 #[.int .i64 (n : Nat)] w fun e w' => e = .returned (.int .i64 (Tree.half n : Nat)) ∧ w = w' := by
  go_enter Tryd.func37, Tryd.ntmps37
  go_wp2
  go_loop [3] (fun k => ∃ p : Nat, k = .int .i64 (p : Nat) ∧ IsPow p ∧ p < n) (fun k => n - (intOf k).toNat)
  case atStart => exact ⟨1, rfl, IsPow.one, by omega⟩
  case round =>
    obtain ⟨p, rfl, hp, hlt⟩ := hrel
    have HP : Hid (IsPow p) := hp
    have hpos := hp.pos
    clear hp
    by_cases hgo : 2 * p < n
    · have hgo' : (p : Int) < (n : Int) - (p : Int) := by omega
      go_wp2
      exact ⟨⟨2 * p, by go_num, HP.out.twice, by omega⟩, by simp [intOf]; omega⟩
    · have hgo' : ¬ (p : Int) < (n : Int) - (p : Int) := by omega
      have HE : Hid (Tree.half n = p) := HP.out.half hlt (by omega)
      go_wp2
      go_ret
      exact ⟨by rw [HE.out]; rfl, rfl⟩

/-- what a function hands back out of a block and a slot -/
theorem results_HB {fn : Func} {p q : Tmp} (h : fn.results = #[.cell p 23, .tmp q]) (tmps : Array Value) (w : World) (g : Nat) (hp : tmps.getD p undef = .pointer (some ⟨g, 0, none⟩)) (h' : List Nat) (hr : HIs w g h') (v : Value) (hq : tmps.getD q undef = v) : (results fn tmps).run Tryd.prog w = .ok (.tuple #[hv h', v]) w := by
  have hl := run_loadVar agg25 w g 0 (bcells h') hr.len (fun j v hv => by rw [Nat.zero_add]; exact hr.2.at j v hv)
  have hp' : tmps[p]?.getD undef = .pointer (some ⟨g, 0, none⟩) := by simpa using hp
  have hq' : tmps[q]?.getD undef = v := by simpa using hq
  simp [results, h, hp', hq', asAddr, hl, hv]
theorem last_isH {hs : List (List Nat)} (h : AllH hs) (h0 : hs.length ≠ 0) : IsH (Tree.lastOf hs) := h.at _ (by omega)
theorem others_all {hs : List (List Nat)} (h : AllH hs) : AllH (Tree.othersOf hs) := h.take _

end Go.Proofs.YtjdmpanemdhbbaaDoor

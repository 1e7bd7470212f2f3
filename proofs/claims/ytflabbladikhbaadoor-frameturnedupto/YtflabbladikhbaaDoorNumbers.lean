/- The law FrameNumbers, walked out of its callees' contracts. -/
import Derived.Test.YtflabbladikhbaaDoorPacks
namespace Go.Proofs.YtflabbladikhbaaDoor
open Go.RowKit

namespace Frame
def inB (size : Int) : Bool := decide (1 ≤ size ∧ size ≤ 8)
def numOf (cs : List Nat) (n : Nat) (size : Int) : List Nat := if inB size then cs ++ be size.toNat n else cs
def okT (cs : List Nat) (size : Int) : Bool := inB size && decide (size.toNat ≤ cs.length)
def tVal (cs : List Nat) (size : Int) : Nat := if okT cs size then val (cs.take size.toNat) else 0
def tRest (cs : List Nat) (size : Int) : List Nat := if okT cs size then cs.drop size.toNat else []
def tErr (cs : List Nat) (size : Int) : Nat := if inB size then (if okT cs size then 0 else 40) else 1
theorem numOf_lt (cs : List Nat) (n : Nat) (size : Int) (h : ∀ c ∈ cs, c < 256) : ∀ c ∈ numOf cs n size, c < 256 := by
  intro c hc
  unfold numOf at hc
  split at hc
  · rcases List.mem_append.1 hc with hc | hc
    · exact h c hc
    · exact be_lt _ _ c hc
  · exact h c hc
theorem numOf_length (cs : List Nat) (n : Nat) (size : Int) : (numOf cs n size).length ≤ cs.length + 8 := by
  unfold numOf
  split
  · rename_i h
    have := of_decide_eq_true h
    rw [List.length_append, be_length]
    omega
  · omega
theorem tRest_lt (cs : List Nat) (size : Int) (h : ∀ c ∈ cs, c < 256) : ∀ c ∈ tRest cs size, c < 256 := by
  intro c hc
  unfold tRest at hc
  split at hc
  · exact h c (List.mem_of_mem_drop hc)
  · simp at hc
theorem tRest_length (cs : List Nat) (size : Int) : (tRest cs size).length ≤ cs.length := by
  unfold tRest
  split
  · simp
  · simp
end Frame

theorem number_any (v : Value) (cs : List Nat) (n : Nat) (size : Int) (w : World) (h : SliceIn w v cs) (hsz : cs.length + 8 ≤ 140737488355328) :
    Calls Tryd.prog 16 #[v, .int .u64 (n : Nat), .int .i64 size] w fun e w' => ∃ v', e = .returned v' ∧ BOwn w' w.heap.size v' (Frame.numOf cs n size) ∧ Below w.heap.size w w' := by
  by_cases hs : 1 ≤ size ∧ size ≤ 8
  · have hi : Frame.inB size = true := decide_eq_true hs
    have hr := number_yes v cs n size.toNat w h (by omega) (by omega) (by omega)
    rw [Int.toNat_of_nonneg (by omega)] at hr
    unfold Frame.numOf
    rw [hi]
    exact hr
  · have hi : Frame.inB size = false := decide_eq_false hs
    unfold Frame.numOf
    rw [hi]
    exact number_no v cs n size w h (by omega) (by omega)
theorem refNumber_any (v : Value) (cs : List Nat) (n : Nat) (size : Int) (w : World) (h : SliceIn w v cs) (hsz : cs.length + 8 ≤ 140737488355328) :
    Calls Tryd.prog 19 #[v, .int .u64 (n : Nat), .int .i64 size] w fun e w' => ∃ v', e = .returned v' ∧ BOwn w' w.heap.size v' (Frame.numOf cs n size) ∧ Below w.heap.size w w' := by
  by_cases hs : 1 ≤ size ∧ size ≤ 8
  · have hi : Frame.inB size = true := decide_eq_true hs
    have hr := refNumber_yes v cs n size.toNat w h (by omega) (by omega) (by omega)
    rw [Int.toNat_of_nonneg (by omega)] at hr
    unfold Frame.numOf
    rw [hi]
    exact hr
  · have hi : Frame.inB size = false := decide_eq_false hs
    unfold Frame.numOf
    rw [hi]
    exact refNumber_no v cs n size w h (by omega) (by omega)
theorem take_any (v : Value) (cs : List Nat) (size : Int) (w : World) (h : SliceIn w v cs) (hsz : cs.length ≤ 140737488355328) :
    Calls Tryd.prog 17 #[v, .int .i64 size] w fun e w' => ∃ v', e = .returned (.tuple #[.int .u64 (Frame.tVal cs size : Nat), v', .int .i64 (Frame.tErr cs size : Nat)]) ∧ BOwn w' w.heap.size v' (Frame.tRest cs size) ∧ Below w.heap.size w w' := by
  by_cases hs : 1 ≤ size ∧ size ≤ 8
  · have hi : Frame.inB size = true := decide_eq_true hs
    by_cases hl : size.toNat ≤ cs.length
    · have ho : Frame.okT cs size = true := by unfold Frame.okT; rw [hi, decide_eq_true hl]; rfl
      have hr := take_yes v cs size.toNat w h (by omega) (by omega) hl (by omega)
      rw [Int.toNat_of_nonneg (by omega)] at hr
      unfold Frame.tVal Frame.tErr Frame.tRest
      rw [ho, hi]
      exact hr
    · have ho : Frame.okT cs size = false := by unfold Frame.okT; rw [hi, decide_eq_false hl]; rfl
      have hr := take_short v cs size.toNat w h (by omega) (by omega) (by omega)
      rw [Int.toNat_of_nonneg (by omega)] at hr
      unfold Frame.tVal Frame.tErr Frame.tRest
      rw [ho, hi]
      exact hr.mono fun e w' h => ⟨_, h.1, BOwn.nil _ _, h.2 ▸ Below.refl _ _⟩
  · have hi : Frame.inB size = false := decide_eq_false hs
    have ho : Frame.okT cs size = false := by unfold Frame.okT; rw [hi]; rfl
    unfold Frame.tVal Frame.tErr Frame.tRest
    rw [ho, hi]
    exact (take_arg v size w (by omega)).mono fun e w' h => ⟨_, h.1, BOwn.nil _ _, h.2 ▸ Below.refl _ _⟩
theorem refTake_any (v : Value) (cs : List Nat) (size : Int) (w : World) (h : SliceIn w v cs) (hsz : cs.length ≤ 140737488355328) :
    Calls Tryd.prog 18 #[v, .int .i64 size] w fun e w' => ∃ v', e = .returned (.tuple #[.int .u64 (Frame.tVal cs size : Nat), v', .int .i64 (Frame.tErr cs size : Nat)]) ∧ BOwn w' w.heap.size v' (Frame.tRest cs size) ∧ Below w.heap.size w w' := by
  by_cases hs : 1 ≤ size ∧ size ≤ 8
  · have hi : Frame.inB size = true := decide_eq_true hs
    by_cases hl : size.toNat ≤ cs.length
    · have ho : Frame.okT cs size = true := by unfold Frame.okT; rw [hi, decide_eq_true hl]; rfl
      have hr := refTake_yes v cs size.toNat w h (by omega) (by omega) hl (by omega)
      rw [Int.toNat_of_nonneg (by omega)] at hr
      unfold Frame.tVal Frame.tErr Frame.tRest
      rw [ho, hi]
      exact hr
    · have ho : Frame.okT cs size = false := by unfold Frame.okT; rw [hi, decide_eq_false hl]; rfl
      have hr := refTake_short v cs size.toNat w h (by omega) (by omega) (by omega)
      rw [Int.toNat_of_nonneg (by omega)] at hr
      unfold Frame.tVal Frame.tErr Frame.tRest
      rw [ho, hi]
      exact hr.mono fun e w' h => ⟨_, h.1, BOwn.nil _ _, h.2 ▸ Below.refl _ _⟩
  · have hi : Frame.inB size = false := decide_eq_false hs
    have ho : Frame.okT cs size = false := by unfold Frame.okT; rw [hi]; rfl
    unfold Frame.tVal Frame.tErr Frame.tRest
    rw [ho, hi]
    exact (refTake_arg v size w (by omega)).mono fun e w' h => ⟨_, h.1, BOwn.nil _ _, h.2 ▸ Below.refl _ _⟩

set_option maxHeartbeats 2000000 in
theorem frameNumbers_any (v : Value) (cs : List Nat) (n : Nat) (size : Int) (w : World) (h : SliceIn w v cs) (ht : TabIn w) (hsz : cs.length + 4096 ≤ 140737488355328) :
    Calls Tryd.prog 5 #[v, .int .u64 (n : Nat), .int .i64 size] w fun e w' => e = .returned (.bool true) ∧ Below w.heap.size w w' := by
  have HP : Hid ((∀ c ∈ Frame.numOf cs n size, c < 256) ∧ (∀ c ∈ Frame.tRest cs size, c < 256)) := ⟨Frame.numOf_lt cs n size h.mem, Frame.tRest_lt cs size h.mem⟩
  have HL : Hid ((Frame.numOf cs n size).length + 1 ≤ 140737488355328 ∧ (Frame.tRest cs size).length + 1 ≤ 140737488355328) := ⟨by have := Frame.numOf_length cs n size; omega, by have := Frame.tRest_length cs size; omega⟩
  have HN : Hid (∀ vv W, SliceIn W vv cs → Calls Tryd.prog 16 #[vv, .int .u64 (n : Nat), .int .i64 size] W fun e w' => ∃ v', e = .returned v' ∧ BOwn w' W.heap.size v' (Frame.numOf cs n size) ∧ Below W.heap.size W w') := fun vv W hh => number_any vv cs n size W hh (by omega)
  have HNr : Hid (∀ vv W, SliceIn W vv cs → Calls Tryd.prog 19 #[vv, .int .u64 (n : Nat), .int .i64 size] W fun e w' => ∃ v', e = .returned v' ∧ BOwn w' W.heap.size v' (Frame.numOf cs n size) ∧ Below W.heap.size W w') := fun vv W hh => refNumber_any vv cs n size W hh (by omega)
  have HT : Hid (∀ vv W, SliceIn W vv cs → Calls Tryd.prog 17 #[vv, .int .i64 size] W fun e w' => ∃ v', e = .returned (.tuple #[.int .u64 (Frame.tVal cs size : Nat), v', .int .i64 (Frame.tErr cs size : Nat)]) ∧ BOwn w' W.heap.size v' (Frame.tRest cs size) ∧ Below W.heap.size W w') := fun vv W hh => take_any vv cs size W hh (by omega)
  have HTr : Hid (∀ vv W, SliceIn W vv cs → Calls Tryd.prog 18 #[vv, .int .i64 size] W fun e w' => ∃ v', e = .returned (.tuple #[.int .u64 (Frame.tVal cs size : Nat), v', .int .i64 (Frame.tErr cs size : Nat)]) ∧ BOwn w' W.heap.size v' (Frame.tRest cs size) ∧ Below W.heap.size W w') := fun vv W hh => refTake_any vv cs size W hh (by omega)
  generalize Frame.numOf cs n size = nl at HP HL HN HNr
  generalize Frame.tRest cs size = rl at HP HL HT HTr
  generalize Frame.tVal cs size = tv at HT HTr
  generalize Frame.tErr cs size = te at HT HTr
  go_enter Tryd.func5, Tryd.ntmps5
  go_wp2_with fail
  refine (shown_any w ht).mono ?_
  rintro e w1 ⟨rfl, b1⟩
  have B1 : Hid (Below w.heap.size w w1) := b1
  clear b1
  go_wp2_with (first
    | (refine wpList_lit0 rfl rfl w1.heap.size (Nat.le_refl _) ?_; intro v2 w2 o2 b2; have O2 : Hid (BOwn w2 w1.heap.size v2 []) := o2; have B2 : Hid (Below w1.heap.size w1 w2) := b2; clear o2 b2)
    | (refine wpList_append (.tmp 19) (.tmp 20) rfl rfl w1.heap.size v2 v [] cs rfl O2.out rfl (h.later (below_append B1.out B2.out)) (by simp; omega) B2.out.size ?_; intro v3 w3 o3 b3; have O3 : Hid (BOwn w3 w1.heap.size v3 cs) := o3; have B3 : Hid (Below w1.heap.size w1 w3) := B2.out.trans b3; clear o3 b3 O2 B2)
    | (refine wpList_lit1 (.const (.int .u8 77)) rfl rfl 77 (by decide) _ rfl rfl ?_; intro v4 w4 s4 b4; have S4 : Hid (SliceIn w4 v4 [77]) := s4; have B4 : Hid (Below w3.heap.size w3 w4) := b4; clear s4 b4)
    | (refine wpList_append (.tmp 21) (.tmp 22) rfl rfl w1.heap.size v3 v4 cs [77] rfl (O3.out.later B4.out (Nat.le_refl _)) rfl S4.out (by simp; omega) (Nat.le_trans B3.out.size B4.out.size) ?_; intro vo w5 o5 b5; have SO : Hid (SliceIn w5 vo (cs ++ [77])) := (o5.slice (fun c hc => (by rcases List.mem_append.1 hc with hc | hc; exact h.mem c hc; rw [List.mem_singleton.1 hc]; decide))); have B5 : Hid (Below w.heap.size w w5) := below_append B1.out ((B3.out.trans (B4.out.mono B3.out.size)).trans b5); clear o5 b5 O3 B3 S4 B4)
    | (refine wpList_len (.tmp 25) rfl rfl v cs rfl h ?_)
    | (refine wpList_sub (.tmp 24) none (some (.tmp 26)) none rfl rfl vo (cs ++ [77]) rfl SO.out 0 cs.length ⟨Or.inl ⟨rfl, rfl⟩, Or.inr ⟨_, rfl, rfl, Or.inl rfl⟩, Nat.zero_le _, by simp⟩ ?_; intro vs s6; rw [take_own] at s6; have S6 : Hid (SliceIn w5 vs cs) := s6; clear s6))
  refine (HN.out vs w5 S6.out).mono ?_
  rintro e w6 ⟨vx, rfl, ox, b6⟩
  have OX : Hid (BOwn w6 w5.heap.size vx nl) := ox
  have B6 : Hid (Below w5.heap.size w5 w6) := b6
  clear ox b6 S6
  go_wp2_with (first
    | (refine wpList_len (.tmp 33) rfl rfl v cs rfl h ?_)
    | (refine wpList_sub (.tmp 32) none (some (.tmp 34)) none rfl rfl vo (cs ++ [77]) rfl (SO.out.later B6.out) 0 cs.length ⟨Or.inl ⟨rfl, rfl⟩, Or.inr ⟨_, rfl, rfl, Or.inl rfl⟩, Nat.zero_le _, by simp⟩ ?_; intro vu s7; rw [take_own] at s7; have S7 : Hid (SliceIn w6 vu cs) := s7; clear s7))
  refine (HT.out vu w6 S7.out).mono ?_
  rintro e w7 ⟨vr, rfl, or, b7⟩
  have OR : Hid (BOwn w7 w6.heap.size vr rl) := or
  have OX7 : Hid (BOwn w7 w5.heap.size vx nl) := OX.out.later b7 (Nat.le_refl _)
  have AP : Hid (vr.ownBlock = none ∨ vr.ownBlock ≠ vx.ownBlock) := OX.out.apart' or (Nat.le_refl _)
  have B7 : Hid (Below w5.heap.size w5 w7) := below_append B6.out b7
  have B67 : Hid (w6.heap.size ≤ w7.heap.size ∧ w5.heap.size ≤ w6.heap.size) := ⟨b7.size, B6.out.size⟩
  clear or b7 S7 OX B6
  go_wp2_with fail
  refine (HTr.out v w7 (h.later (below_append B5.out B7.out))).mono ?_
  rintro e w8 ⟨vz, rfl, oz, b8⟩
  have SZ : Hid (SliceIn w8 vz rl) := oz.slice HP.out.2
  have OR8 : Hid (BOwn w8 w6.heap.size vr rl) := OR.out.later b8 (Nat.le_refl _)
  have OX8 : Hid (BOwn w8 w5.heap.size vx nl) := OX7.out.later b8 (Nat.le_refl _)
  have B8 : Hid (Below w5.heap.size w5 w8) := below_append B7.out b8
  clear oz b8 OR OX7 B7
  go_wp2_with fail
  refine (HNr.out v w8 (h.later (below_append B5.out B8.out))).mono ?_
  rintro e w9 ⟨vy, rfl, oy, b9⟩
  have SY : Hid (SliceIn w9 vy nl) := oy.slice HP.out.1
  have SZ9 : Hid (SliceIn w9 vz rl) := SZ.out.later b9
  have OR9 : Hid (BOwn w9 w6.heap.size vr rl) := OR8.out.later b9 (Nat.le_refl _)
  have OX9 : Hid (BOwn w9 w5.heap.size vx nl) := OX8.out.later b9 (Nat.le_refl _)
  have B9 : Hid (Below w5.heap.size w5 w9) := below_append B8.out b9
  clear oy b9 SZ OR8 OX8 B8
  go_wp2_with (first
    | (go_at_call_of 12 vx; refine (sameEx vx vy nl w9 (OX9.out.slice HP.out.1) SY.out).mono ?_; rintro e w' ⟨rfl, rfl⟩)
    | (go_at_call_of 12 vr; refine (sameEx vr vz rl w9 (OR9.out.slice HP.out.2) SZ9.out).mono ?_; rintro e w' ⟨rfl, rfl⟩))
  refine (spoil_any vx nl w5.heap.size w9 OX9.out HP.out.1 B9.out.size HL.out.1).mono ?_
  rintro e w10 ⟨rfl, g10⟩
  have B10 : Hid (Below w5.heap.size w5 w10) := B9.out.trans (OX9.out.below g10 B9.out.size)
  have OR10 : Hid (BOwn w10 w5.heap.size vr rl) := BOwn.weaken (World.ownsRow.kept OR9.out g10 AP.out) B67.out.2
  clear g10 OX9 OR9 B9 SY SZ9
  go_wp2_with fail
  refine (spoil_any vr rl w5.heap.size w10 OR10.out HP.out.2 B10.out.size HL.out.2).mono ?_
  rintro e w11 ⟨rfl, g11⟩
  have B11 : Hid (Below w5.heap.size w5 w11) := B10.out.trans (OR10.out.below g11 B10.out.size)
  clear g11 OR10 B10
  go_wp2_with (first
    | (refine wpList_len (.tmp 78) rfl rfl v cs rfl h ?_)
    | (refine wpList_sub (.tmp 77) none (some (.tmp 79)) none rfl rfl vo (cs ++ [77]) rfl (SO.out.later B11.out) 0 cs.length ⟨Or.inl ⟨rfl, rfl⟩, Or.inr ⟨_, rfl, rfl, Or.inl rfl⟩, Nat.zero_le _, by simp⟩ ?_; intro vt s12; rw [take_own] at s12; have S12 : Hid (SliceIn w11 vt cs) := s12; clear s12)
    | (go_at_call_of 12 vt; refine (sameEx vt v cs w11 S12.out (h.later (below_append B5.out B11.out))).mono ?_; rintro e w' ⟨rfl, rfl⟩)
    | (refine wpList_len (.tmp 86) rfl rfl v cs rfl h ?_)
    | (refine wpList_index (.tmp 85) (.tmp 87) rfl rfl vo (cs ++ [77]) rfl (SO.out.later B11.out) cs.length (by simp) _ rfl rfl ?_; intro b j _ _ hc; rw [own_at] at hc))
  go_ret
  exact ⟨rfl, below_append B5.out B11.out⟩
end Go.Proofs.YtflabbladikhbaaDoor

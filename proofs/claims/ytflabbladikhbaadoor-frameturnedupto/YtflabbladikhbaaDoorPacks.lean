/- The law FramePacks, walked out of its callees' contracts. -/
import Derived.Test.YtflabbladikhbaaDoorShown
namespace Go.Proofs.YtflabbladikhbaaDoor
open Go.RowKit

theorem take_own (cs : List Nat) (c : Nat) : ((cs ++ [c]).take cs.length).drop 0 = cs := by simp
theorem own_at (cs : List Nat) (c : Nat) : (cs ++ [c]).getD cs.length 0 = c := by simp

set_option maxHeartbeats 2000000 in
theorem framePacks_any (kind : Nat) (hk : kind < 256) (v : Value) (cs : List Nat) (w : World) (h : SliceIn w v cs) (ht : TabIn w) (hsz : cs.length + 4096 ≤ 140737488355328) :
    Calls Tryd.prog 3 #[.int .u8 (kind : Nat), v] w fun e w' => e = .returned (.bool true) ∧ Below w.heap.size w w' := by
  go_enter Tryd.func3, Tryd.ntmps3
  go_wp2_with fail
  refine (shown_any w ht).mono ?_
  rintro e w1 ⟨rfl, b1⟩
  have B1 : Hid (Below w.heap.size w w1) := b1
  clear b1
  go_wp2_with (first
    | (refine wpList_lit0 rfl rfl w1.heap.size (Nat.le_refl _) ?_; intro v2 w2 o2 b2; have O2 : Hid (BOwn w2 w1.heap.size v2 []) := o2; have B2 : Hid (Below w1.heap.size w1 w2) := b2; clear o2 b2)
    | (refine wpList_append (.tmp 12) (.tmp 13) rfl rfl w1.heap.size v2 v [] cs rfl O2.out rfl (h.later (below_append B1.out B2.out)) (by simp; omega) B2.out.size ?_; intro v3 w3 o3 b3; have O3 : Hid (BOwn w3 w1.heap.size v3 cs) := o3; have B3 : Hid (Below w1.heap.size w1 w3) := B2.out.trans b3; clear o3 b3 O2 B2)
    | (refine wpList_lit1 (.const (.int .u8 77)) rfl rfl 77 (by decide) _ rfl rfl ?_; intro v4 w4 s4 b4; have S4 : Hid (SliceIn w4 v4 [77]) := s4; have B4 : Hid (Below w3.heap.size w3 w4) := b4; clear s4 b4)
    | (refine wpList_append (.tmp 14) (.tmp 15) rfl rfl w1.heap.size v3 v4 cs [77] rfl (O3.out.later B4.out (Nat.le_refl _)) rfl S4.out (by simp; omega) (Nat.le_trans B3.out.size B4.out.size) ?_; intro vo w5 o5 b5; have SO : Hid (SliceIn w5 vo (cs ++ [77])) := (o5.slice (fun c hc => (by rcases List.mem_append.1 hc with hc | hc; exact h.mem c hc; rw [List.mem_singleton.1 hc]; decide))); have B5 : Hid (Below w.heap.size w w5) := below_append B1.out ((B3.out.trans (B4.out.mono B3.out.size)).trans b5); clear o5 b5 O3 B3 S4 B4)
    | (refine wpList_len (.tmp 19) rfl rfl v cs rfl h ?_)
    | (refine wpList_sub (.tmp 18) none (some (.tmp 20)) none rfl rfl vo (cs ++ [77]) rfl SO.out 0 cs.length ⟨Or.inl ⟨rfl, rfl⟩, Or.inr ⟨_, rfl, rfl, Or.inl rfl⟩, Nat.zero_le _, by simp⟩ ?_; intro vs s6; rw [take_own] at s6; have S6 : Hid (SliceIn w5 vs cs) := s6; clear s6))
  refine (pack_any kind hk vs cs w5 S6.out (ht.later B5.out) (by omega)).mono ?_
  rintro e w6 ⟨vx, rfl, o6, b6⟩
  have O6 : Hid (BOwn w6 w5.heap.size vx (Frame.pack kind cs)) := o6
  have B6 : Hid (Below w5.heap.size w5 w6) := b6
  clear o6 b6 S6
  go_wp2_with fail
  refine (refPack_any kind hk v cs w6 (h.later (below_append B5.out B6.out)) (by omega)).mono ?_
  rintro e w7 ⟨vw, rfl, o7, b7⟩
  have O7 : Hid (BOwn w7 w6.heap.size vw (Frame.pack kind cs)) := o7
  have X7 : Hid (BOwn w7 w5.heap.size vx (Frame.pack kind cs)) := O6.out.later b7 (Nat.le_refl _)
  have AP : Hid (vw.ownBlock = none ∨ vw.ownBlock ≠ vx.ownBlock) := O6.out.apart' o7 (Nat.le_refl _)
  have B7 : Hid (Below w5.heap.size w5 w7) := below_append B6.out b7
  have PL : Hid (∀ c ∈ Frame.pack kind cs, c < 256) := Frame.pack_lt kind cs hk h.mem
  have PN : Hid ((Frame.pack kind cs).length + 1 ≤ 140737488355328) := by show _ ≤ _; rw [Frame.pack_length]; omega
  clear o7 b7 O6 B6
  go_wp2_with (go_at_call 12; refine (sameEx vx vw (Frame.pack kind cs) w7 (X7.out.slice PL.out) (O7.out.slice PL.out)).mono ?_; rintro e w' ⟨rfl, rfl⟩)
  refine (spoil_any vx (Frame.pack kind cs) w5.heap.size w7 X7.out PL.out B7.out.size PN.out).mono ?_
  rintro e w8 ⟨rfl, g8⟩
  have B8 : Hid (Below w5.heap.size w5 w8) := B7.out.trans (X7.out.below g8 B7.out.size)
  have SW : Hid (SliceIn w8 vw (Frame.pack kind cs)) := BOwn.slice (w := w8) (base := w6.heap.size) (World.ownsRow.kept O7.out g8 AP.out) PL.out
  clear g8 X7 O7 AP B7
  go_wp2_with (first
    | (refine wpList_len (.tmp 35) rfl rfl v cs rfl h ?_)
    | (refine wpList_sub (.tmp 34) none (some (.tmp 36)) none rfl rfl vo (cs ++ [77]) rfl (SO.out.later B8.out) 0 cs.length ⟨Or.inl ⟨rfl, rfl⟩, Or.inr ⟨_, rfl, rfl, Or.inl rfl⟩, Nat.zero_le _, by simp⟩ ?_; intro vt s9; rw [take_own] at s9; have S9 : Hid (SliceIn w8 vt cs) := s9; clear s9)
    | (go_at_call_of 12 vt; refine (sameEx vt v cs w8 S9.out (h.later (below_append B5.out B8.out))).mono ?_; rintro e w' ⟨rfl, rfl⟩)
    | (refine wpList_len (.tmp 43) rfl rfl v cs rfl h ?_)
    | (refine wpList_index (.tmp 42) (.tmp 44) rfl rfl vo (cs ++ [77]) rfl (SO.out.later B8.out) cs.length (by simp) _ rfl rfl ?_; intro b j _ _ hc; rw [own_at] at hc)
    | (go_at_call 10; refine (pack_any kind hk v cs w8 (h.later (below_append B5.out B8.out)) (ht.later (below_append B5.out B8.out)) (by omega)).mono ?_; rintro e w9 ⟨vy, rfl, o9, b9⟩; have SY : Hid (SliceIn w9 vy (Frame.pack kind cs)) := o9.slice PL.out; have B9 : Hid (Below w8.heap.size w8 w9) := b9; clear o9 b9)
    | (go_at_call_of 12 vy; refine (sameEx vy vw (Frame.pack kind cs) w9 SY.out (SW.out.later B9.out)).mono ?_; rintro e w' ⟨rfl, rfl⟩))
  go_ret
  exact ⟨rfl, below_append (below_append B5.out B8.out) B9.out⟩
end Go.Proofs.YtflabbladikhbaaDoor

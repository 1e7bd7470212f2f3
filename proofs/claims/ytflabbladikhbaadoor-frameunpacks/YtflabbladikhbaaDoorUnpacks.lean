/- The law FrameUnpacks, walked out of its callees' contracts. -/
import Derived.Test.YtflabbladikhbaaDoorPacks
namespace Go.Proofs.YtflabbladikhbaaDoor
open Go.RowKit

set_option maxHeartbeats 2000000 in
theorem frameUnpacks_any (v : Value) (cs : List Nat) (w : World) (h : SliceIn w v cs) (ht : TabIn w) (hsz : cs.length + 4096 ≤ 140737488355328) :
    Calls Tryd.prog 4 #[v] w fun e w' => e = .returned (.bool true) ∧ Below w.heap.size w w' := by
  have HP : Hid ((∀ c ∈ Frame.payOf cs, c < 256) ∧ (∀ c ∈ Frame.restOf cs, c < 256)) := ⟨fun c hc => h.mem c (Frame.payOf_mem cs c hc), fun c hc => h.mem c (Frame.restOf_mem cs c hc)⟩
  have HL : Hid ((Frame.payOf cs).length + 1 ≤ 140737488355328 ∧ (Frame.restOf cs).length + 1 ≤ 140737488355328) := ⟨by have := Frame.payOf_length cs; omega, by have := Frame.restOf_length cs; omega⟩
  go_enter Tryd.func4, Tryd.ntmps4
  go_wp2_with fail
  refine (shown_any w ht).mono ?_
  rintro e w1 ⟨rfl, b1⟩
  have B1 : Hid (Below w.heap.size w w1) := b1
  clear b1
  go_wp2_with (first
    | (refine wpList_lit0 rfl rfl w1.heap.size (Nat.le_refl _) ?_; intro v2 w2 o2 b2; have O2 : Hid (BOwn w2 w1.heap.size v2 []) := o2; have B2 : Hid (Below w1.heap.size w1 w2) := b2; clear o2 b2)
    | (refine wpList_append (.tmp 16) (.tmp 17) rfl rfl w1.heap.size v2 v [] cs rfl O2.out rfl (h.later (below_append B1.out B2.out)) (by simp; omega) B2.out.size ?_; intro v3 w3 o3 b3; have O3 : Hid (BOwn w3 w1.heap.size v3 cs) := o3; have B3 : Hid (Below w1.heap.size w1 w3) := B2.out.trans b3; clear o3 b3 O2 B2)
    | (refine wpList_lit1 (.const (.int .u8 77)) rfl rfl 77 (by decide) _ rfl rfl ?_; intro v4 w4 s4 b4; have S4 : Hid (SliceIn w4 v4 [77]) := s4; have B4 : Hid (Below w3.heap.size w3 w4) := b4; clear s4 b4)
    | (refine wpList_append (.tmp 18) (.tmp 19) rfl rfl w1.heap.size v3 v4 cs [77] rfl (O3.out.later B4.out (Nat.le_refl _)) rfl S4.out (by simp; omega) (Nat.le_trans B3.out.size B4.out.size) ?_; intro vo w5 o5 b5; have SO : Hid (SliceIn w5 vo (cs ++ [77])) := (o5.slice (fun c hc => (by rcases List.mem_append.1 hc with hc | hc; exact h.mem c hc; rw [List.mem_singleton.1 hc]; decide))); have B5 : Hid (Below w.heap.size w w5) := below_append B1.out ((B3.out.trans (B4.out.mono B3.out.size)).trans b5); clear o5 b5 O3 B3 S4 B4)
    | (refine wpList_len (.tmp 23) rfl rfl v cs rfl h ?_)
    | (refine wpList_sub (.tmp 22) none (some (.tmp 24)) none rfl rfl vo (cs ++ [77]) rfl SO.out 0 cs.length ⟨Or.inl ⟨rfl, rfl⟩, Or.inr ⟨_, rfl, rfl, Or.inl rfl⟩, Nat.zero_le _, by simp⟩ ?_; intro vs s6; rw [take_own] at s6; have S6 : Hid (SliceIn w5 vs cs) := s6; clear s6))
  have HU := unpack_any vs cs w5 S6.out (ht.later B5.out) (by omega)
  have HR : ∀ w6, Below w.heap.size w w6 → _ := fun w6 b => refUnpack_any v cs w6 (h.later b) (by omega)
  generalize Frame.kindOf cs = kd at HU HR
  generalize Frame.errOf cs = er at HU HR
  generalize Frame.payOf cs = pl at HU HR HP HL
  generalize Frame.restOf cs = rl at HU HR HP HL
  refine HU.mono ?_
  rintro e w6 ⟨vp, vr, rfl, op, or, ap, b6⟩
  have OP : Hid (BOwn w6 w5.heap.size vp pl) := op
  have OR : Hid (BOwn w6 w5.heap.size vr rl) := or
  have AP : Hid (vr.ownBlock = none ∨ vr.ownBlock ≠ vp.ownBlock) := ap
  have B6 : Hid (Below w5.heap.size w5 w6) := b6
  have HR6 : Hid (Calls Tryd.prog 15 #[v] w6 fun e w' => ∃ vp vr, e = .returned (.tuple #[.int .u8 (kd : Nat), vp, vr, .int .i64 (er : Nat)]) ∧ BOwn w' w6.heap.size vp pl ∧ BOwn w' w6.heap.size vr rl ∧ Below w6.heap.size w6 w') := HR w6 (below_append B5.out b6)
  clear op or ap b6 HR HU S6
  go_wp2_with fail
  refine HR6.out.mono ?_
  rintro e w7 ⟨vq, vz, rfl, oq, oz, b7⟩
  have SQ : Hid (SliceIn w7 vq pl ∧ SliceIn w7 vz rl) := ⟨oq.slice HP.out.1, oz.slice HP.out.2⟩
  have OP7 : Hid (BOwn w7 w5.heap.size vp pl) := OP.out.later b7 (Nat.le_refl _)
  have OR7 : Hid (BOwn w7 w5.heap.size vr rl) := OR.out.later b7 (Nat.le_refl _)
  have B7 : Hid (Below w5.heap.size w5 w7) := below_append B6.out b7
  clear oq oz b7 HR6 OP OR B6
  go_wp2_with (first
    | (go_at_call_of 12 vp; refine (sameEx vp vq pl w7 (OP7.out.slice HP.out.1) SQ.out.1).mono ?_; rintro e w' ⟨rfl, rfl⟩)
    | (go_at_call_of 12 vr; refine (sameEx vr vz rl w7 (OR7.out.slice HP.out.2) SQ.out.2).mono ?_; rintro e w' ⟨rfl, rfl⟩))
  refine (spoil_any vp pl w5.heap.size w7 OP7.out HP.out.1 B7.out.size HL.out.1).mono ?_
  rintro e w8 ⟨rfl, g8⟩
  have B8 : Hid (Below w5.heap.size w5 w8) := B7.out.trans (OP7.out.below g8 B7.out.size)
  have OR8 : Hid (BOwn w8 w5.heap.size vr rl) := World.ownsRow.kept OR7.out g8 AP.out
  clear g8 OP7 OR7 B7 SQ
  go_wp2_with fail
  refine (spoil_any vr rl w5.heap.size w8 OR8.out HP.out.2 B8.out.size HL.out.2).mono ?_
  rintro e w9 ⟨rfl, g9⟩
  have B9 : Hid (Below w5.heap.size w5 w9) := B8.out.trans (OR8.out.below g9 B8.out.size)
  clear g9 OR8 B8
  go_wp2_with (first
    | (refine wpList_len (.tmp 65) rfl rfl v cs rfl h ?_)
    | (refine wpList_sub (.tmp 64) none (some (.tmp 66)) none rfl rfl vo (cs ++ [77]) rfl (SO.out.later B9.out) 0 cs.length ⟨Or.inl ⟨rfl, rfl⟩, Or.inr ⟨_, rfl, rfl, Or.inl rfl⟩, Nat.zero_le _, by simp⟩ ?_; intro vt s9; rw [take_own] at s9; have S9 : Hid (SliceIn w9 vt cs) := s9; clear s9)
    | (go_at_call_of 12 vt; refine (sameEx vt v cs w9 S9.out (h.later (below_append B5.out B9.out))).mono ?_; rintro e w' ⟨rfl, rfl⟩)
    | (refine wpList_len (.tmp 73) rfl rfl v cs rfl h ?_)
    | (refine wpList_index (.tmp 72) (.tmp 74) rfl rfl vo (cs ++ [77]) rfl (SO.out.later B9.out) cs.length (by simp) _ rfl rfl ?_; intro b j _ _ hc; rw [own_at] at hc))
  go_ret
  exact ⟨rfl, below_append B5.out B9.out⟩
end Go.Proofs.YtflabbladikhbaaDoor

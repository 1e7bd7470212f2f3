/- The law FrameSums, walked out of its callees' contracts. -/
import Derived.Test.YtflabbladikhbabDoorShown
namespace Go.Proofs.YtflabbladikhbabDoor
open Go.RowKit

theorem pack_cuts (kind : Nat) (cs : List Nat) : (Frame.pack kind cs).take (cs.length + 5) = Frame.body kind cs ∧ (Frame.pack kind cs).drop (cs.length + 5) = Frame.be 4 (Frame.crc (Frame.body kind cs)) ∧ (Frame.pack kind cs).take 4 = Frame.be 4 cs.length ∧ (Frame.pack kind cs).getD 4 0 = kind ∧ ((Frame.pack kind cs).take (cs.length + 5)).drop 5 = cs := by
  have hb := Frame.body_length kind cs
  have h1 : (Frame.pack kind cs).take (cs.length + 5) = Frame.body kind cs := by
    unfold Frame.pack
    rw [List.take_append_of_le_length (by omega), List.take_of_length_le (by omega)]
  refine ⟨h1, ?_, ?_, ?_, ?_⟩
  · unfold Frame.pack
    rw [List.drop_append, List.drop_of_length_le (by omega), hb, Nat.sub_self, List.nil_append, List.drop_zero]
  · unfold Frame.pack Frame.body
    rw [List.append_assoc, List.take_append_of_le_length (by rw [Frame.be_length]; exact Nat.le_refl _), List.take_of_length_le (by rw [Frame.be_length]; exact Nat.le_refl _)]
  · unfold Frame.pack Frame.body
    rw [List.append_assoc, List.getD_eq_getElem?_getD, List.getElem?_append_right (by rw [Frame.be_length]; exact Nat.le_refl _), Frame.be_length]
    rfl
  · rw [h1]
    unfold Frame.body
    rw [List.drop_append, List.drop_of_length_le (by rw [Frame.be_length]; omega), Frame.be_length]
    rfl
theorem takeSum (v : Value) (s : Nat) (hs : s < 4294967296) (w : World) (h : SliceIn w v (Frame.be 4 s)) :
    Calls Tryd.prog 7 #[v, .int .i64 4] w fun e w' => ∃ v', e = .returned (.tuple #[.int .u64 (s : Nat), v', .int .i64 0]) ∧ SliceIn w' v' [] ∧ Below w.heap.size w w' := by
  have hr := take_yes v (Frame.be 4 s) 4 w h (by decide) (by decide) (by rw [Frame.be_length]; exact Nat.le_refl _) (by rw [Frame.be_length]; decide)
  rw [List.take_of_length_le (by rw [Frame.be_length]; exact Nat.le_refl _), List.drop_of_length_le (by rw [Frame.be_length]; exact Nat.le_refl _), Frame.val_be, Nat.mod_eq_of_lt (by omega)] at hr
  exact hr.mono fun e w' ⟨v', e1, e2, e3⟩ => ⟨v', e1, e2.slice (by simp), e3⟩
theorem takeLen (v : Value) (P : List Nat) (n : Nat) (hn : n < 4294967296) (hP : P.take 4 = Frame.be 4 n) (hl : 4 ≤ P.length) (hsz : P.length ≤ 281474976710656) (w : World) (h : SliceIn w v P) :
    Calls Tryd.prog 7 #[v, .int .i64 4] w fun e w' => ∃ v', e = .returned (.tuple #[.int .u64 (n : Nat), v', .int .i64 0]) ∧ Below w.heap.size w w' := by
  have hr := take_yes v P 4 w h (by decide) (by decide) hl hsz
  rw [hP, Frame.val_be, Nat.mod_eq_of_lt (by omega)] at hr
  exact hr.mono fun e w' ⟨v', e1, e2, e3⟩ => ⟨v', e1, e3⟩

set_option maxHeartbeats 2000000 in
theorem frameSums_any (kind : Nat) (hk : kind < 256) (v : Value) (cs : List Nat) (w : World) (h : SliceIn w v cs) (ht : TabIn w) (hsz : cs.length ≤ 1048576) :
    Calls Tryd.prog 3 #[.int .u8 (kind : Nat), v] w fun e w' => e = .returned (.bool true) ∧ Below w.heap.size w w' := by
  have HPL : Hid (((Frame.pack kind cs).length : Int) = (cs.length : Int) + 9) := by show _ = _; rw [Frame.pack_length]; omega
  have HPN : Hid ((Frame.pack kind cs).length = cs.length + 9) := Frame.pack_length kind cs
  have HPM : Hid (∀ c ∈ Frame.pack kind cs, c < 256) := Frame.pack_lt kind cs hk h.mem
  have HPC := pack_cuts kind cs
  have HC : Hid (_ ∧ _) := HPC
  have hcl := Frame.crc_lt (Frame.body kind cs)
  have HCr : Hid (∀ v' W, SliceIn W v' (Frame.body kind cs) → TabIn W → Calls Tryd.prog 8 #[v'] W fun e w' => e = .returned (.int .u32 (Frame.crc (Frame.body kind cs) : Nat)) ∧ W = w') := fun v' W h1 h2 => sum_any v' _ W h1 h2
  have HPk : Hid (∀ v' W, SliceIn W v' cs → TabIn W → Calls Tryd.prog 6 #[.int .u8 (kind : Nat), v'] W fun e w' => ∃ v'', e = .returned v'' ∧ BOwn w' W.heap.size v'' (Frame.pack kind cs) ∧ Below W.heap.size W w') := fun v' W h1 h2 => pack_any kind hk v' cs W h1 h2 (by omega)
  clear HPC
  generalize Frame.crc (Frame.body kind cs) = sm at *
  generalize Frame.body kind cs = bd at *
  generalize Frame.pack kind cs = P at *
  go_enter Tryd.func3, Tryd.ntmps3
  go_wp2_with fail
  refine (shown_any w ht).mono ?_
  rintro e w1 ⟨rfl, b1⟩
  have B1 : Hid (Below w.heap.size w w1) := b1
  clear b1
  go_wp2_with fail
  refine (HPk.out v w1 (h.later B1.out) (ht.later B1.out)).mono ?_
  rintro e w2 ⟨vx, rfl, ox, b2⟩
  have hx0 := ox.slice HPM.out
  have B2 : Hid (Below w.heap.size w w2) := below_append B1.out b2
  clear ox b2 B1
  go_wp2_with (first
    | (refine wpList_len (.tmp 20) rfl rfl vx P rfl hx0 ?_; rw [HPL.out])
    | (refine wpList_len (.tmp 22) rfl rfl v cs rfl h ?_)
    | (refine wpList_len (.tmp 26) rfl rfl vx P rfl hx0 ?_; rw [HPL.out])
    | (refine wpList_sub (.tmp 30) (some (.tmp 31)) none none rfl rfl vx P rfl hx0 (cs.length + 5) P.length ⟨Or.inr ⟨_, rfl, by omega⟩, Or.inl ⟨rfl, rfl, rfl⟩, by rw [HPN.out]; omega, Nat.le_refl _⟩ ?_; intro v3 s3; rw [take_all_drop, HC.out.2.1] at s3; have S3 : Hid (SliceIn w2 v3 (Frame.be 4 sm)) := s3; clear s3))
  refine (takeSum v3 sm hcl w2 S3.out).mono ?_
  rintro e w4 ⟨v4, rfl, s4, b4⟩
  have B4 : Hid (Below w2.heap.size w2 w4) := b4
  clear b4 S3
  go_wp2_with fail
  refine (takeLen vx P cs.length (by omega) HC.out.2.2.1 (by rw [HPN.out]; omega) (by rw [HPN.out]; omega) w4 (hx0.later B4.out)).mono ?_
  rintro e w5 ⟨v5, rfl, b5⟩
  have B5 : Hid (Below w2.heap.size w2 w5) := below_append B4.out b5
  have BW : Hid (Below w.heap.size w w5) := below_append B2.out B5.out
  have hx5 := hx0.later B5.out
  clear b5 B4 B2 B5 hx0
  go_wp2_with (first
    | (refine wpList_len (.tmp 53) rfl rfl v4 [] rfl s4 ?_)
    | (refine wpList_sub (.tmp 60) none (some (.tmp 61)) none rfl rfl vx P rfl hx5 0 (cs.length + 5) ⟨Or.inl ⟨rfl, rfl⟩, Or.inr ⟨_, rfl, by omega, Or.inl rfl⟩, Nat.zero_le _, by rw [HPN.out]; omega⟩ ?_; intro v6 s6; have S6 : Hid (SliceIn w5 v6 bd) := (by have s6' := s6; rw [HC.out.1] at s6'; exact s6'); clear s6)
    | (go_at_call 8; refine (HCr.out v6 w5 S6.out (ht.later BW.out)).mono ?_; rintro e w' ⟨rfl, rfl⟩)
    | (refine wpList_len (.tmp 68) rfl rfl v cs rfl h ?_)
    | (refine wpList_index (.tmp 74) (.const (.int .i64 4)) rfl rfl vx P rfl hx5 4 (by rw [HPN.out]; omega) _ rfl rfl ?_; intro b j _ _ hc; rw [HC.out.2.2.2.1] at hc)
    | (refine wpList_sub (.tmp 81) (some (.const (.int .i64 5))) (some (.tmp 82)) none rfl rfl vx P rfl hx5 5 (cs.length + 5) ⟨Or.inr ⟨_, rfl, rfl⟩, Or.inr ⟨_, rfl, by omega, Or.inl rfl⟩, by omega, by rw [HPN.out]; omega⟩ ?_; intro v7 s7; rw [HC.out.2.2.2.2] at s7; have S7 : Hid (SliceIn w5 v7 cs) := s7; clear s7)
    | (go_at_call_of 9 v7; refine (sameEx v7 v cs w5 S7.out (h.later BW.out)).mono ?_; rintro e w' ⟨rfl, rfl⟩))
  go_ret
  exact ⟨rfl, BW.out⟩
end Go.Proofs.YtflabbladikhbabDoor

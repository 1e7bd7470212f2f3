/- Frames written, the program's and the document's; numbers written. -/
import Derived.Test.YtflabbladikhbaaDoorTold
namespace Go.Proofs.YtflabbladikhbaaDoor
open Go.RowKit

theorem below_append {a b c : World} (h : Below a.heap.size a b) (k : Below b.heap.size b c) : Below a.heap.size a c := h.trans (k.mono h.size)

set_option maxHeartbeats 400000 in
theorem pack_any (kind : Nat) (hk : kind < 256) (v : Value) (cs : List Nat) (w : World) (h : SliceIn w v cs) (ht : TabIn w) (hsz : cs.length + 9 ≤ 140737488355328) :
    Calls Tryd.prog 10 #[.int .u8 (kind : Nat), v] w fun e w' => ∃ v', e = .returned v' ∧ BOwn w' w.heap.size v' (Frame.pack kind cs) ∧ Below w.heap.size w w' := by
  go_enter Tryd.func10, Tryd.ntmps10
  go_wp2_with (first
    | (refine wpList_len (.tmp 6) rfl rfl v cs rfl h ?_)
    | (refine wpList_make0 (.const (.int .i64 0)) (.tmp 9) rfl rfl w.heap.size (cs.length + 9) _ rfl rfl (by omega) (by omega) (Nat.le_refl _) ?_; intro v1 w1 o1 b1; have O1 : Hid (BOwn w1 w.heap.size v1 []) := o1; have B1 : Hid (Below w.heap.size w w1) := b1; clear o1 b1)
    | (refine wpList_len (.tmp 12) rfl rfl v cs rfl h ?_)
    | (go_at_call 20; refine (lay_any v1 [] cs.length 4 w.heap.size w1 O1.out B1.out.size (by decide) (by simp)).mono ?_; rintro e w2 ⟨v2, rfl, o2, b2⟩; have O2 : Hid (BOwn w2 w.heap.size v2 ([] ++ Frame.be 4 cs.length)) := o2; have B2 : Hid (Below w.heap.size w w2) := B1.out.trans b2; clear o2 b2 O1 B1)
    | (refine wpList_lit1 (.tmp 17) rfl rfl kind hk _ rfl rfl ?_; intro v3 w3 s3 b3; have S3 : Hid (SliceIn w3 v3 [kind]) := s3; have B3 : Hid (Below w2.heap.size w2 w3) := b3; clear s3 b3)
    | (refine wpList_append (.tmp 16) (.tmp 18) rfl rfl w.heap.size v2 v3 ([] ++ Frame.be 4 cs.length) [kind] rfl (O2.out.later B3.out (Nat.le_refl _)) rfl S3.out (by simp [Frame.be_length]) (below_append B2.out B3.out).size ?_; intro v4 w4 o4 b4; have O4 : Hid (BOwn w4 w.heap.size v4 (([] ++ Frame.be 4 cs.length) ++ [kind])) := o4; have B4 : Hid (Below w.heap.size w w4) := (below_append B2.out B3.out).trans b4; clear o4 b4 B3 O2 B2 S3)
    | (refine wpList_append (.tmp 20) (.tmp 21) rfl rfl w.heap.size v4 v (([] ++ Frame.be 4 cs.length) ++ [kind]) cs rfl O4.out rfl (h.later B4.out) (by simp [Frame.be_length]; omega) B4.out.size ?_; intro v5 w5 o5 b5; have O5 : Hid (BOwn w5 w.heap.size v5 (Frame.body kind cs)) := (by have e : ([] ++ Frame.be 4 cs.length) ++ [kind] ++ cs = Frame.body kind cs := (by simp [Frame.body]); rw [← e]; exact o5); have B5 : Hid (Below w.heap.size w w5) := B4.out.trans b5; clear o5 b5 O4 B4)
    | (go_at_call 21; refine (sum_any v5 (Frame.body kind cs) w5 (O5.out.slice (Frame.body_lt kind cs hk h.mem)) (ht.later B5.out)).mono ?_; rintro e w6 ⟨rfl, rfl⟩; have HC : Hid (Frame.pack kind cs = Frame.body kind cs ++ Frame.be 4 (Frame.crc (Frame.body kind cs))) := rfl; have hcl := Frame.crc_lt (Frame.body kind cs); generalize Frame.crc (Frame.body kind cs) = sm at HC hcl ⊢)
    | (go_at_call 20; refine (lay_any v5 (Frame.body kind cs) sm 4 w.heap.size w5 O5.out B5.out.size (by decide) (by rw [Frame.body_length]; omega)).mono ?_; rintro e w7 ⟨v7, rfl, o7, b7⟩; have O7 : Hid (BOwn w7 w.heap.size v7 (Frame.pack kind cs)) := (by rw [HC.out]; exact o7); have B7 : Hid (Below w.heap.size w w7) := B5.out.trans b7; clear o7 b7 O5 B5))
  go_ret
  exact ⟨_, rfl, O7.out, B7.out⟩

set_option maxHeartbeats 400000 in
theorem number_yes (v : Value) (cs : List Nat) (n size : Nat) (w : World) (h : SliceIn w v cs) (h1 : 1 ≤ size) (h8 : size ≤ 8) (hsz : cs.length + size ≤ 140737488355328) :
    Calls Tryd.prog 16 #[v, .int .u64 (n : Nat), .int .i64 (size : Nat)] w fun e w' => ∃ v', e = .returned v' ∧ BOwn w' w.heap.size v' (cs ++ Frame.be size n) ∧ Below w.heap.size w w' := by
  go_enter Tryd.func16, Tryd.ntmps16
  go_wp2_with (first
    | (go_at_call 25; refine (sizeHolds_yes _ _ (by omega) (by omega)).mono ?_; rintro e w' ⟨rfl, rfl⟩)
    | (refine wpList_len (.tmp 12) rfl rfl v cs rfl h ?_)
    | (refine wpList_make0 (.const (.int .i64 0)) (.tmp 15) rfl rfl w.heap.size (cs.length + size) _ rfl rfl (by omega) (by omega) (Nat.le_refl _) ?_; intro v1 w1 o1 b1; have O1 : Hid (BOwn w1 w.heap.size v1 []) := o1; have B1 : Hid (Below w.heap.size w w1) := b1; clear o1 b1)
    | (refine wpList_append (.tmp 16) (.tmp 17) rfl rfl w.heap.size v1 v [] cs rfl O1.out rfl (h.later B1.out) (by simp; omega) B1.out.size ?_; intro v2 w2 o2 b2; have O2 : Hid (BOwn w2 w.heap.size v2 cs) := o2; have B2 : Hid (Below w.heap.size w w2) := B1.out.trans b2; clear o2 b2 O1 B1)
    | (go_at_call 20; refine (lay_any v2 cs n size w.heap.size w2 O2.out B2.out.size h8 hsz).mono ?_; rintro e w3 ⟨v3, rfl, o3, b3⟩; have O3 : Hid (BOwn w3 w.heap.size v3 (cs ++ Frame.be size n)) := o3; have B3 : Hid (Below w.heap.size w w3) := B2.out.trans b3; clear o3 b3 O2 B2))
  go_ret
  exact ⟨_, rfl, O3.out, B3.out⟩
set_option maxHeartbeats 400000 in
theorem number_no (v : Value) (cs : List Nat) (n : Nat) (size : Int) (w : World) (h : SliceIn w v cs) (hs : size < 1 ∨ 8 < size) (hsz : cs.length ≤ 140737488355328) :
    Calls Tryd.prog 16 #[v, .int .u64 (n : Nat), .int .i64 size] w fun e w' => ∃ v', e = .returned v' ∧ BOwn w' w.heap.size v' cs ∧ Below w.heap.size w w' := by
  have HS : Hid (size < 1 ∨ 8 < size) := hs
  clear hs
  go_enter Tryd.func16, Tryd.ntmps16
  go_wp2_with (first
    | (go_at_call 25; refine (sizeHolds_no _ _ HS.out).mono ?_; rintro e w' ⟨rfl, rfl⟩)
    | (go_at_call 24; refine (told_any v cs w h (by omega)).mono ?_; rintro e w1 ⟨v1, rfl, o1, b1⟩; have O1 : Hid (BOwn w1 w.heap.size v1 cs ∧ Below w.heap.size w w1) := ⟨o1, b1⟩; clear o1 b1))
  go_ret
  exact ⟨_, rfl, O1.out.1, O1.out.2⟩

/-! the document's own -/
set_option maxHeartbeats 400000 in
theorem refNumber_yes (v : Value) (cs : List Nat) (n size : Nat) (w : World) (h : SliceIn w v cs) (h1 : 1 ≤ size) (h8 : size ≤ 8) (hsz : cs.length + size ≤ 140737488355328) :
    Calls Tryd.prog 19 #[v, .int .u64 (n : Nat), .int .i64 (size : Nat)] w fun e w' => ∃ v', e = .returned v' ∧ BOwn w' w.heap.size v' (cs ++ Frame.be size n) ∧ Below w.heap.size w w' := by
  go_enter Tryd.func19, Tryd.ntmps19
  go_wp2_with (first
    | (refine wpList_lit0 rfl rfl w.heap.size (Nat.le_refl _) ?_; intro v1 w1 o1 b1; have O1 : Hid (BOwn w1 w.heap.size v1 []) := o1; have B1 : Hid (Below w.heap.size w w1) := b1; clear o1 b1)
    | (refine wpList_append (.tmp 9) (.tmp 10) rfl rfl w.heap.size v1 v [] cs rfl O1.out rfl (h.later B1.out) (by simp; omega) B1.out.size ?_; intro v2 w2 o2 b2; have O2 : Hid (BOwn w2 w.heap.size v2 cs) := o2; have B2 : Hid (Below w.heap.size w w2) := B1.out.trans b2; clear o2 b2 O1 B1))
  go_loopw [7, 8] (fun x i W => ∃ s : Nat, ∃ done : List Nat, s ≤ size ∧ i = .int .i64 ((s : Int) - 1) ∧ BOwn W w.heap.size x (cs ++ done) ∧ done ++ Frame.be s n = Frame.be size n ∧ Below w.heap.size w W) (fun _ i _ => (intOf i + 1).toNat)
  case atStart => exact ⟨size, [], Nat.le_refl _, rfl, by rw [List.append_nil]; exact O2.out, rfl, B2.out⟩
  case round =>
    obtain ⟨s, done, hss, rfl, hx, hd, hbl⟩ := hrel
    have HX : Hid (BOwn wr w.heap.size u7 (cs ++ done)) := hx
    have HD : Hid (done ++ Frame.be s n = Frame.be size n) := hd
    have HBL : Hid (Below w.heap.size w wr) := hbl
    clear hx hd hbl
    by_cases h0 : s = 0
    · subst h0
      have HE : Hid (cs ++ done = cs ++ Frame.be size n) := by
        have := HD.out
        rw [Frame.be, List.append_nil] at this
        show _ = _
        rw [this]
      go_wp2
      go_ret
      exact ⟨u7, rfl, by rw [← HE.out]; exact HX.out, HBL.out⟩
    · obtain ⟨t, rfl⟩ : ∃ t, s = t + 1 := ⟨s - 1, by omega⟩
      have HL : Hid (done.length + 1 ≤ size) := by
        have := congrArg List.length HD.out
        rw [List.length_append, Frame.be_length, Frame.be_length] at this
        show _ ≤ _
        omega
      rw [show ((t + 1 : Nat) : Int) - 1 = (t : Int) by omega]
      go_wp2_with (first
        | (refine wpList_lit1 (.tmp 30) rfl rfl (n / 256 ^ t % 256) (Nat.mod_lt _ (by decide)) _ rfl (byte_at n t) ?_; intro v3 w3 s3 b3; have B3 : Hid (Below wr.heap.size wr w3) := b3; clear b3)
        | (refine wpList_append (.tmp 25) (.tmp 31) rfl rfl w.heap.size u7 v3 (cs ++ done) [n / 256 ^ t % 256] rfl (HX.out.later B3.out (Nat.le_refl _)) rfl s3 (by have := HL.out; rw [List.length_append]; simp; omega) (Nat.le_trans HBL.out.size B3.out.size) ?_; intro v4 w4 o4 b4; have O4 : Hid (BOwn w4 w.heap.size v4 (cs ++ (done ++ [n / 256 ^ t % 256]))) := (by rw [← List.append_assoc]; exact o4); have B4 : Hid (Below w.heap.size w w4) := (below_append HBL.out B3.out).trans b4; clear o4 b4 s3 B3))
      refine ⟨⟨t, done ++ [n / 256 ^ t % 256], by omega, by go_num, O4.out, append_snoc_be done t n size HD.out, B4.out⟩, ?_⟩
      simp [intOf]
set_option maxHeartbeats 400000 in
theorem refNumber_no (v : Value) (cs : List Nat) (n : Nat) (size : Int) (w : World) (h : SliceIn w v cs) (hs : size < 1 ∨ 8 < size) (hsz : cs.length ≤ 140737488355328) :
    Calls Tryd.prog 19 #[v, .int .u64 (n : Nat), .int .i64 size] w fun e w' => ∃ v', e = .returned v' ∧ BOwn w' w.heap.size v' cs ∧ Below w.heap.size w w' := by
  rcases hs with hs | hs
  · go_enter Tryd.func19, Tryd.ntmps19
    go_wp2_with (first
      | (refine wpList_lit0 rfl rfl w.heap.size (Nat.le_refl _) ?_; intro v1 w1 o1 b1; have O1 : Hid (BOwn w1 w.heap.size v1 []) := o1; have B1 : Hid (Below w.heap.size w w1) := b1; clear o1 b1)
      | (refine wpList_append (.tmp 9) (.tmp 10) rfl rfl w.heap.size v1 v [] cs rfl O1.out rfl (h.later B1.out) (by simp; omega) B1.out.size ?_; intro v2 w2 o2 b2; have O2 : Hid (BOwn w2 w.heap.size v2 cs) := o2; have B2 : Hid (Below w.heap.size w w2) := B1.out.trans b2; clear o2 b2 O1 B1))
    go_ret
    exact ⟨_, rfl, O2.out, B2.out⟩
  · have hn : ¬ size < 1 := by omega
    go_enter Tryd.func19, Tryd.ntmps19
    go_wp2_with (first
      | (refine wpList_lit0 rfl rfl w.heap.size (Nat.le_refl _) ?_; intro v1 w1 o1 b1; have O1 : Hid (BOwn w1 w.heap.size v1 []) := o1; have B1 : Hid (Below w.heap.size w w1) := b1; clear o1 b1)
      | (refine wpList_append (.tmp 9) (.tmp 10) rfl rfl w.heap.size v1 v [] cs rfl O1.out rfl (h.later B1.out) (by simp; omega) B1.out.size ?_; intro v2 w2 o2 b2; have O2 : Hid (BOwn w2 w.heap.size v2 cs) := o2; have B2 : Hid (Below w.heap.size w w2) := B1.out.trans b2; clear o2 b2 O1 B1))
    go_ret
    exact ⟨_, rfl, O2.out, B2.out⟩
set_option maxHeartbeats 400000 in
theorem refPack_any (kind : Nat) (hk : kind < 256) (v : Value) (cs : List Nat) (w : World) (h : SliceIn w v cs) (hsz : cs.length + 9 ≤ 140737488355328) :
    Calls Tryd.prog 11 #[.int .u8 (kind : Nat), v] w fun e w' => ∃ v', e = .returned v' ∧ BOwn w' w.heap.size v' (Frame.pack kind cs) ∧ Below w.heap.size w w' := by
  go_enter Tryd.func11, Tryd.ntmps11
  go_wp2_with (first
    | (refine wpList_len (.tmp 6) rfl rfl v cs rfl h ?_)
    | (go_at_call_of 19 (Value.slice none 0 0); refine (refNumber_yes (.slice none 0 0) [] cs.length 4 w (SliceIn.nil w) (by decide) (by decide) (by simp)).mono ?_; rintro e w2 ⟨v2, rfl, o2, b2⟩; have O2 : Hid (BOwn w2 w.heap.size v2 ([] ++ Frame.be 4 cs.length)) := o2; have B2 : Hid (Below w.heap.size w w2) := b2; clear o2 b2)
    | (refine wpList_lit1 (.tmp 11) rfl rfl kind hk _ rfl rfl ?_; intro v3 w3 s3 b3; have S3 : Hid (SliceIn w3 v3 [kind]) := s3; have B3 : Hid (Below w2.heap.size w2 w3) := b3; clear s3 b3)
    | (refine wpList_append (.tmp 10) (.tmp 12) rfl rfl w.heap.size v2 v3 ([] ++ Frame.be 4 cs.length) [kind] rfl (O2.out.later B3.out (Nat.le_refl _)) rfl S3.out (by simp [Frame.be_length]) (below_append B2.out B3.out).size ?_; intro v4 w4 o4 b4; have O4 : Hid (BOwn w4 w.heap.size v4 (([] ++ Frame.be 4 cs.length) ++ [kind])) := o4; have B4 : Hid (Below w.heap.size w w4) := (below_append B2.out B3.out).trans b4; clear o4 b4 B3 O2 B2 S3)
    | (refine wpList_append (.tmp 14) (.tmp 15) rfl rfl w.heap.size v4 v (([] ++ Frame.be 4 cs.length) ++ [kind]) cs rfl O4.out rfl (h.later B4.out) (by simp [Frame.be_length]; omega) B4.out.size ?_; intro v5 w5 o5 b5; have O5 : Hid (BOwn w5 w.heap.size v5 (Frame.body kind cs)) := (by have e : ([] ++ Frame.be 4 cs.length) ++ [kind] ++ cs = Frame.body kind cs := (by simp [Frame.body]); rw [← e]; exact o5); have B5 : Hid (Below w.heap.size w w5) := B4.out.trans b5; clear o5 b5 O4 B4)
    | (go_at_call 22; refine (refsum_any v5 (Frame.body kind cs) w5 (O5.out.slice (Frame.body_lt kind cs hk h.mem))).mono ?_; rintro e w6 ⟨rfl, rfl⟩; have HC : Hid (Frame.pack kind cs = Frame.body kind cs ++ Frame.be 4 (Frame.crc (Frame.body kind cs))) := rfl; have hcl := Frame.crc_lt (Frame.body kind cs); generalize Frame.crc (Frame.body kind cs) = sm at HC hcl ⊢)
    | (go_at_call 19; refine (refNumber_yes v5 (Frame.body kind cs) sm 4 w5 (O5.out.slice (Frame.body_lt kind cs hk h.mem)) (by decide) (by decide) (by rw [Frame.body_length]; omega)).mono ?_; rintro e w7 ⟨v7, rfl, o7, b7⟩; have O7 : Hid (BOwn w7 w.heap.size v7 (Frame.pack kind cs)) := (by rw [HC.out]; exact BOwn.weaken o7 B5.out.size); have B7 : Hid (Below w.heap.size w w7) := below_append B5.out b7; clear o7 b7 O5 B5))
  go_ret
  exact ⟨_, rfl, O7.out, B7.out⟩
end Go.Proofs.YtflabbladikhbaaDoor

/- The law FrameCounts, walked out of its callees' contracts. -/
import Derived.Test.YtflabbladikhbaaDoorNumbers
namespace Go.Proofs.YtflabbladikhbaaDoor
open Go.RowKit

/-! numbers there and back -/
theorem take_be (s n : Nat) (bs : List Nat) : (Frame.be s n ++ bs).take s = Frame.be s n ∧ (Frame.be s n ++ bs).drop s = bs := by
  have := Frame.be_length s n
  constructor
  · rw [List.take_append_of_le_length (by omega), List.take_of_length_le (by omega)]
  · rw [List.drop_append, List.drop_of_length_le (by omega), this, Nat.sub_self, List.nil_append, List.drop_zero]
theorem takeBack (v : Value) (s n : Nat) (bs : List Nat) (w : World) (h : SliceIn w v (Frame.be s n ++ bs)) (h1 : 1 ≤ s) (h8 : s ≤ 8) (hsz : (Frame.be s n ++ bs).length ≤ 281474976710656) (m : Nat) (hm : n % 256 ^ s = m) :
    Calls Tryd.prog 17 #[v, .int .i64 (s : Nat)] w fun e w' => ∃ v', e = .returned (.tuple #[.int .u64 (m : Nat), v', .int .i64 0]) ∧ SliceIn w' v' bs ∧ Below w.heap.size w w' := by
  have hr := take_yes v (Frame.be s n ++ bs) s w h h1 h8 (by rw [List.length_append, Frame.be_length]; omega) hsz
  rw [(take_be s n bs).1, (take_be s n bs).2, Frame.val_be, hm] at hr
  refine hr.mono fun e w' ⟨v', e1, e2, e3⟩ => ⟨v', e1, e2.slice fun c hc => h.mem c (List.mem_append_right _ hc), e3⟩
set_option maxHeartbeats 2000000 in
theorem counts1 (n : Nat) (vb : Value) (bs : List Nat) (w : World) (hh : SliceIn w vb bs) (ht : TabIn w) (hn : n < 18446744073709551616) (hsz : bs.length + 4096 ≤ 140737488355328) (m : Nat) (hm : n % 256 = m) (hmz : (n : Int) % 256 = (m : Int)) :
    Calls Tryd.prog 7 #[.int .u64 (n : Nat), .int .i64 1, vb] w fun e w' => e = .returned (.bool true) ∧ Below w.heap.size w w' := by
  have HBL : Hid ((Frame.be 1 n).length = 1) := Frame.be_length 1 n
  have HBN : Hid ((Frame.be 1 n).length + bs.length ≤ 140737488355328) := by show _ ≤ _; rw [Frame.be_length]; omega
  have HBM : Hid (∀ c ∈ Frame.be 1 n, c < 256) := Frame.be_lt 1 n
  have HM : Hid (n % 256 = m) := hm
  clear hm
  go_enter Tryd.func7, Tryd.ntmps7
  go_wp2_with fail
  refine (shown_any w ht).mono ?_
  rintro e w1 ⟨rfl, b1⟩
  have B1 : Hid (Below w.heap.size w w1) := b1
  clear b1
  go_wp2_with fail
  refine (number_yes (.slice none 0 0) [] n 1 w1 (SliceIn.nil w1) (by decide) (by decide) (by simp)).mono ?_
  rintro e w2 ⟨vx, rfl, ox, b2⟩
  have SX : Hid (SliceIn w2 vx (Frame.be 1 n)) := BOwn.slice (base := w1.heap.size) ox HBM.out
  have B2 : Hid (Below w.heap.size w w2) := below_append B1.out b2
  clear ox b2 B1
  have HT : Hid (∀ v W, SliceIn W v (Frame.be 1 n ++ bs) → Calls Tryd.prog 17 #[v, .int .i64 1] W fun e w' => ∃ v', e = .returned (.tuple #[.int .u64 (m : Nat), v', .int .i64 0]) ∧ SliceIn w' v' bs ∧ Below W.heap.size W w') := fun v W hv => takeBack v 1 n bs W hv (by decide) (by decide) (by have := HBN.out; rw [List.length_append]; omega) m (by rw [← HM.out])
  generalize Frame.be 1 n = bl at *
  go_wp2_with (first
    | (refine wpList_lit0 rfl rfl w2.heap.size (Nat.le_refl _) ?_; intro v3 w3 o3 b3; have O3 : Hid (BOwn w3 w2.heap.size v3 []) := o3; have B3 : Hid (Below w2.heap.size w2 w3) := b3; clear o3 b3)
    | (refine wpList_append (.tmp 32) (.tmp 33) rfl rfl w2.heap.size v3 vx [] bl rfl O3.out rfl (SX.out.later B3.out) (by have := HBN.out; simp; omega) B3.out.size ?_; intro v4 w4 o4 b4; have O4 : Hid (BOwn w4 w2.heap.size v4 bl) := o4; have B4 : Hid (Below w2.heap.size w2 w4) := B3.out.trans b4; clear o4 b4 O3 B3)
    | (refine wpList_append (.tmp 34) (.tmp 35) rfl rfl w2.heap.size v4 vb bl bs rfl O4.out rfl (hh.later (below_append B2.out B4.out)) HBN.out B4.out.size ?_; intro v5 w5 o5 b5; have S5 : Hid (SliceIn w5 v5 (bl ++ bs)) := (o5.slice (fun c hc => (by rcases List.mem_append.1 hc with hc | hc; exact HBM.out c hc; exact hh.mem c hc))); have B5 : Hid (Below w.heap.size w w5) := below_append B2.out (B4.out.trans b5); clear o5 b5 O4 B4))
  refine (HT.out v5 w5 S5.out).mono ?_
  rintro e w6 ⟨v6, rfl, s6, b6⟩
  have S6 : Hid (SliceIn w6 v6 bs) := s6
  have B6 : Hid (Below w.heap.size w w6) := below_append B5.out b6
  have LX : ∃ w0, SliceIn w0 vx bl := ⟨w2, SX.out⟩
  obtain ⟨w0, hx0⟩ := LX
  clear s6 b6 S5 B5 SX B2
  go_wp2_with (first
    | (refine wpList_len (.tmp 52) rfl rfl vx bl rfl hx0 ?_; rw [HBL.out])
    | (go_at_call_of 12 v6; refine (sameEx v6 vb bs w6 S6.out (hh.later B6.out)).mono ?_; rintro e w' ⟨rfl, rfl⟩))
  go_ret
  exact ⟨rfl, B6.out⟩
set_option maxHeartbeats 2000000 in
theorem counts2 (n : Nat) (vb : Value) (bs : List Nat) (w : World) (hh : SliceIn w vb bs) (ht : TabIn w) (hn : n < 18446744073709551616) (hsz : bs.length + 4096 ≤ 140737488355328) (m : Nat) (hm : n % 65536 = m) (hmz : (n : Int) % 65536 = (m : Int)) :
    Calls Tryd.prog 7 #[.int .u64 (n : Nat), .int .i64 2, vb] w fun e w' => e = .returned (.bool true) ∧ Below w.heap.size w w' := by
  have HBL : Hid ((Frame.be 2 n).length = 2) := Frame.be_length 2 n
  have HBN : Hid ((Frame.be 2 n).length + bs.length ≤ 140737488355328) := by show _ ≤ _; rw [Frame.be_length]; omega
  have HBM : Hid (∀ c ∈ Frame.be 2 n, c < 256) := Frame.be_lt 2 n
  have HM : Hid (n % 65536 = m) := hm
  clear hm
  go_enter Tryd.func7, Tryd.ntmps7
  go_wp2_with fail
  refine (shown_any w ht).mono ?_
  rintro e w1 ⟨rfl, b1⟩
  have B1 : Hid (Below w.heap.size w w1) := b1
  clear b1
  go_wp2_with fail
  refine (number_yes (.slice none 0 0) [] n 2 w1 (SliceIn.nil w1) (by decide) (by decide) (by simp)).mono ?_
  rintro e w2 ⟨vx, rfl, ox, b2⟩
  have SX : Hid (SliceIn w2 vx (Frame.be 2 n)) := BOwn.slice (base := w1.heap.size) ox HBM.out
  have B2 : Hid (Below w.heap.size w w2) := below_append B1.out b2
  clear ox b2 B1
  have HT : Hid (∀ v W, SliceIn W v (Frame.be 2 n ++ bs) → Calls Tryd.prog 17 #[v, .int .i64 2] W fun e w' => ∃ v', e = .returned (.tuple #[.int .u64 (m : Nat), v', .int .i64 0]) ∧ SliceIn w' v' bs ∧ Below W.heap.size W w') := fun v W hv => takeBack v 2 n bs W hv (by decide) (by decide) (by have := HBN.out; rw [List.length_append]; omega) m (by rw [← HM.out])
  generalize Frame.be 2 n = bl at *
  go_wp2_with (first
    | (refine wpList_lit0 rfl rfl w2.heap.size (Nat.le_refl _) ?_; intro v3 w3 o3 b3; have O3 : Hid (BOwn w3 w2.heap.size v3 []) := o3; have B3 : Hid (Below w2.heap.size w2 w3) := b3; clear o3 b3)
    | (refine wpList_append (.tmp 32) (.tmp 33) rfl rfl w2.heap.size v3 vx [] bl rfl O3.out rfl (SX.out.later B3.out) (by have := HBN.out; simp; omega) B3.out.size ?_; intro v4 w4 o4 b4; have O4 : Hid (BOwn w4 w2.heap.size v4 bl) := o4; have B4 : Hid (Below w2.heap.size w2 w4) := B3.out.trans b4; clear o4 b4 O3 B3)
    | (refine wpList_append (.tmp 34) (.tmp 35) rfl rfl w2.heap.size v4 vb bl bs rfl O4.out rfl (hh.later (below_append B2.out B4.out)) HBN.out B4.out.size ?_; intro v5 w5 o5 b5; have S5 : Hid (SliceIn w5 v5 (bl ++ bs)) := (o5.slice (fun c hc => (by rcases List.mem_append.1 hc with hc | hc; exact HBM.out c hc; exact hh.mem c hc))); have B5 : Hid (Below w.heap.size w w5) := below_append B2.out (B4.out.trans b5); clear o5 b5 O4 B4))
  refine (HT.out v5 w5 S5.out).mono ?_
  rintro e w6 ⟨v6, rfl, s6, b6⟩
  have S6 : Hid (SliceIn w6 v6 bs) := s6
  have B6 : Hid (Below w.heap.size w w6) := below_append B5.out b6
  have LX : ∃ w0, SliceIn w0 vx bl := ⟨w2, SX.out⟩
  obtain ⟨w0, hx0⟩ := LX
  clear s6 b6 S5 B5 SX B2
  go_wp2_with (first
    | (refine wpList_len (.tmp 52) rfl rfl vx bl rfl hx0 ?_; rw [HBL.out])
    | (go_at_call_of 12 v6; refine (sameEx v6 vb bs w6 S6.out (hh.later B6.out)).mono ?_; rintro e w' ⟨rfl, rfl⟩))
  go_ret
  exact ⟨rfl, B6.out⟩
set_option maxHeartbeats 2000000 in
theorem counts3 (n : Nat) (vb : Value) (bs : List Nat) (w : World) (hh : SliceIn w vb bs) (ht : TabIn w) (hn : n < 18446744073709551616) (hsz : bs.length + 4096 ≤ 140737488355328) (m : Nat) (hm : n % 16777216 = m) (hmz : (n : Int) % 16777216 = (m : Int)) :
    Calls Tryd.prog 7 #[.int .u64 (n : Nat), .int .i64 3, vb] w fun e w' => e = .returned (.bool true) ∧ Below w.heap.size w w' := by
  have HBL : Hid ((Frame.be 3 n).length = 3) := Frame.be_length 3 n
  have HBN : Hid ((Frame.be 3 n).length + bs.length ≤ 140737488355328) := by show _ ≤ _; rw [Frame.be_length]; omega
  have HBM : Hid (∀ c ∈ Frame.be 3 n, c < 256) := Frame.be_lt 3 n
  have HM : Hid (n % 16777216 = m) := hm
  clear hm
  go_enter Tryd.func7, Tryd.ntmps7
  go_wp2_with fail
  refine (shown_any w ht).mono ?_
  rintro e w1 ⟨rfl, b1⟩
  have B1 : Hid (Below w.heap.size w w1) := b1
  clear b1
  go_wp2_with fail
  refine (number_yes (.slice none 0 0) [] n 3 w1 (SliceIn.nil w1) (by decide) (by decide) (by simp)).mono ?_
  rintro e w2 ⟨vx, rfl, ox, b2⟩
  have SX : Hid (SliceIn w2 vx (Frame.be 3 n)) := BOwn.slice (base := w1.heap.size) ox HBM.out
  have B2 : Hid (Below w.heap.size w w2) := below_append B1.out b2
  clear ox b2 B1
  have HT : Hid (∀ v W, SliceIn W v (Frame.be 3 n ++ bs) → Calls Tryd.prog 17 #[v, .int .i64 3] W fun e w' => ∃ v', e = .returned (.tuple #[.int .u64 (m : Nat), v', .int .i64 0]) ∧ SliceIn w' v' bs ∧ Below W.heap.size W w') := fun v W hv => takeBack v 3 n bs W hv (by decide) (by decide) (by have := HBN.out; rw [List.length_append]; omega) m (by rw [← HM.out])
  generalize Frame.be 3 n = bl at *
  go_wp2_with (first
    | (refine wpList_lit0 rfl rfl w2.heap.size (Nat.le_refl _) ?_; intro v3 w3 o3 b3; have O3 : Hid (BOwn w3 w2.heap.size v3 []) := o3; have B3 : Hid (Below w2.heap.size w2 w3) := b3; clear o3 b3)
    | (refine wpList_append (.tmp 32) (.tmp 33) rfl rfl w2.heap.size v3 vx [] bl rfl O3.out rfl (SX.out.later B3.out) (by have := HBN.out; simp; omega) B3.out.size ?_; intro v4 w4 o4 b4; have O4 : Hid (BOwn w4 w2.heap.size v4 bl) := o4; have B4 : Hid (Below w2.heap.size w2 w4) := B3.out.trans b4; clear o4 b4 O3 B3)
    | (refine wpList_append (.tmp 34) (.tmp 35) rfl rfl w2.heap.size v4 vb bl bs rfl O4.out rfl (hh.later (below_append B2.out B4.out)) HBN.out B4.out.size ?_; intro v5 w5 o5 b5; have S5 : Hid (SliceIn w5 v5 (bl ++ bs)) := (o5.slice (fun c hc => (by rcases List.mem_append.1 hc with hc | hc; exact HBM.out c hc; exact hh.mem c hc))); have B5 : Hid (Below w.heap.size w w5) := below_append B2.out (B4.out.trans b5); clear o5 b5 O4 B4))
  refine (HT.out v5 w5 S5.out).mono ?_
  rintro e w6 ⟨v6, rfl, s6, b6⟩
  have S6 : Hid (SliceIn w6 v6 bs) := s6
  have B6 : Hid (Below w.heap.size w w6) := below_append B5.out b6
  have LX : ∃ w0, SliceIn w0 vx bl := ⟨w2, SX.out⟩
  obtain ⟨w0, hx0⟩ := LX
  clear s6 b6 S5 B5 SX B2
  go_wp2_with (first
    | (refine wpList_len (.tmp 52) rfl rfl vx bl rfl hx0 ?_; rw [HBL.out])
    | (go_at_call_of 12 v6; refine (sameEx v6 vb bs w6 S6.out (hh.later B6.out)).mono ?_; rintro e w' ⟨rfl, rfl⟩))
  go_ret
  exact ⟨rfl, B6.out⟩
set_option maxHeartbeats 2000000 in
theorem counts4 (n : Nat) (vb : Value) (bs : List Nat) (w : World) (hh : SliceIn w vb bs) (ht : TabIn w) (hn : n < 18446744073709551616) (hsz : bs.length + 4096 ≤ 140737488355328) (m : Nat) (hm : n % 4294967296 = m) (hmz : (n : Int) % 4294967296 = (m : Int)) :
    Calls Tryd.prog 7 #[.int .u64 (n : Nat), .int .i64 4, vb] w fun e w' => e = .returned (.bool true) ∧ Below w.heap.size w w' := by
  have HBL : Hid ((Frame.be 4 n).length = 4) := Frame.be_length 4 n
  have HBN : Hid ((Frame.be 4 n).length + bs.length ≤ 140737488355328) := by show _ ≤ _; rw [Frame.be_length]; omega
  have HBM : Hid (∀ c ∈ Frame.be 4 n, c < 256) := Frame.be_lt 4 n
  have HM : Hid (n % 4294967296 = m) := hm
  clear hm
  go_enter Tryd.func7, Tryd.ntmps7
  go_wp2_with fail
  refine (shown_any w ht).mono ?_
  rintro e w1 ⟨rfl, b1⟩
  have B1 : Hid (Below w.heap.size w w1) := b1
  clear b1
  go_wp2_with fail
  refine (number_yes (.slice none 0 0) [] n 4 w1 (SliceIn.nil w1) (by decide) (by decide) (by simp)).mono ?_
  rintro e w2 ⟨vx, rfl, ox, b2⟩
  have SX : Hid (SliceIn w2 vx (Frame.be 4 n)) := BOwn.slice (base := w1.heap.size) ox HBM.out
  have B2 : Hid (Below w.heap.size w w2) := below_append B1.out b2
  clear ox b2 B1
  have HT : Hid (∀ v W, SliceIn W v (Frame.be 4 n ++ bs) → Calls Tryd.prog 17 #[v, .int .i64 4] W fun e w' => ∃ v', e = .returned (.tuple #[.int .u64 (m : Nat), v', .int .i64 0]) ∧ SliceIn w' v' bs ∧ Below W.heap.size W w') := fun v W hv => takeBack v 4 n bs W hv (by decide) (by decide) (by have := HBN.out; rw [List.length_append]; omega) m (by rw [← HM.out])
  generalize Frame.be 4 n = bl at *
  go_wp2_with (first
    | (refine wpList_lit0 rfl rfl w2.heap.size (Nat.le_refl _) ?_; intro v3 w3 o3 b3; have O3 : Hid (BOwn w3 w2.heap.size v3 []) := o3; have B3 : Hid (Below w2.heap.size w2 w3) := b3; clear o3 b3)
    | (refine wpList_append (.tmp 32) (.tmp 33) rfl rfl w2.heap.size v3 vx [] bl rfl O3.out rfl (SX.out.later B3.out) (by have := HBN.out; simp; omega) B3.out.size ?_; intro v4 w4 o4 b4; have O4 : Hid (BOwn w4 w2.heap.size v4 bl) := o4; have B4 : Hid (Below w2.heap.size w2 w4) := B3.out.trans b4; clear o4 b4 O3 B3)
    | (refine wpList_append (.tmp 34) (.tmp 35) rfl rfl w2.heap.size v4 vb bl bs rfl O4.out rfl (hh.later (below_append B2.out B4.out)) HBN.out B4.out.size ?_; intro v5 w5 o5 b5; have S5 : Hid (SliceIn w5 v5 (bl ++ bs)) := (o5.slice (fun c hc => (by rcases List.mem_append.1 hc with hc | hc; exact HBM.out c hc; exact hh.mem c hc))); have B5 : Hid (Below w.heap.size w w5) := below_append B2.out (B4.out.trans b5); clear o5 b5 O4 B4))
  refine (HT.out v5 w5 S5.out).mono ?_
  rintro e w6 ⟨v6, rfl, s6, b6⟩
  have S6 : Hid (SliceIn w6 v6 bs) := s6
  have B6 : Hid (Below w.heap.size w w6) := below_append B5.out b6
  have LX : ∃ w0, SliceIn w0 vx bl := ⟨w2, SX.out⟩
  obtain ⟨w0, hx0⟩ := LX
  clear s6 b6 S5 B5 SX B2
  go_wp2_with (first
    | (refine wpList_len (.tmp 52) rfl rfl vx bl rfl hx0 ?_; rw [HBL.out])
    | (go_at_call_of 12 v6; refine (sameEx v6 vb bs w6 S6.out (hh.later B6.out)).mono ?_; rintro e w' ⟨rfl, rfl⟩))
  go_ret
  exact ⟨rfl, B6.out⟩
set_option maxHeartbeats 2000000 in
theorem counts5 (n : Nat) (vb : Value) (bs : List Nat) (w : World) (hh : SliceIn w vb bs) (ht : TabIn w) (hn : n < 18446744073709551616) (hsz : bs.length + 4096 ≤ 140737488355328) (m : Nat) (hm : n % 1099511627776 = m) (hmz : (n : Int) % 1099511627776 = (m : Int)) :
    Calls Tryd.prog 7 #[.int .u64 (n : Nat), .int .i64 5, vb] w fun e w' => e = .returned (.bool true) ∧ Below w.heap.size w w' := by
  have HBL : Hid ((Frame.be 5 n).length = 5) := Frame.be_length 5 n
  have HBN : Hid ((Frame.be 5 n).length + bs.length ≤ 140737488355328) := by show _ ≤ _; rw [Frame.be_length]; omega
  have HBM : Hid (∀ c ∈ Frame.be 5 n, c < 256) := Frame.be_lt 5 n
  have HM : Hid (n % 1099511627776 = m) := hm
  clear hm
  go_enter Tryd.func7, Tryd.ntmps7
  go_wp2_with fail
  refine (shown_any w ht).mono ?_
  rintro e w1 ⟨rfl, b1⟩
  have B1 : Hid (Below w.heap.size w w1) := b1
  clear b1
  go_wp2_with fail
  refine (number_yes (.slice none 0 0) [] n 5 w1 (SliceIn.nil w1) (by decide) (by decide) (by simp)).mono ?_
  rintro e w2 ⟨vx, rfl, ox, b2⟩
  have SX : Hid (SliceIn w2 vx (Frame.be 5 n)) := BOwn.slice (base := w1.heap.size) ox HBM.out
  have B2 : Hid (Below w.heap.size w w2) := below_append B1.out b2
  clear ox b2 B1
  have HT : Hid (∀ v W, SliceIn W v (Frame.be 5 n ++ bs) → Calls Tryd.prog 17 #[v, .int .i64 5] W fun e w' => ∃ v', e = .returned (.tuple #[.int .u64 (m : Nat), v', .int .i64 0]) ∧ SliceIn w' v' bs ∧ Below W.heap.size W w') := fun v W hv => takeBack v 5 n bs W hv (by decide) (by decide) (by have := HBN.out; rw [List.length_append]; omega) m (by rw [← HM.out])
  generalize Frame.be 5 n = bl at *
  go_wp2_with (first
    | (refine wpList_lit0 rfl rfl w2.heap.size (Nat.le_refl _) ?_; intro v3 w3 o3 b3; have O3 : Hid (BOwn w3 w2.heap.size v3 []) := o3; have B3 : Hid (Below w2.heap.size w2 w3) := b3; clear o3 b3)
    | (refine wpList_append (.tmp 32) (.tmp 33) rfl rfl w2.heap.size v3 vx [] bl rfl O3.out rfl (SX.out.later B3.out) (by have := HBN.out; simp; omega) B3.out.size ?_; intro v4 w4 o4 b4; have O4 : Hid (BOwn w4 w2.heap.size v4 bl) := o4; have B4 : Hid (Below w2.heap.size w2 w4) := B3.out.trans b4; clear o4 b4 O3 B3)
    | (refine wpList_append (.tmp 34) (.tmp 35) rfl rfl w2.heap.size v4 vb bl bs rfl O4.out rfl (hh.later (below_append B2.out B4.out)) HBN.out B4.out.size ?_; intro v5 w5 o5 b5; have S5 : Hid (SliceIn w5 v5 (bl ++ bs)) := (o5.slice (fun c hc => (by rcases List.mem_append.1 hc with hc | hc; exact HBM.out c hc; exact hh.mem c hc))); have B5 : Hid (Below w.heap.size w w5) := below_append B2.out (B4.out.trans b5); clear o5 b5 O4 B4))
  refine (HT.out v5 w5 S5.out).mono ?_
  rintro e w6 ⟨v6, rfl, s6, b6⟩
  have S6 : Hid (SliceIn w6 v6 bs) := s6
  have B6 : Hid (Below w.heap.size w w6) := below_append B5.out b6
  have LX : ∃ w0, SliceIn w0 vx bl := ⟨w2, SX.out⟩
  obtain ⟨w0, hx0⟩ := LX
  clear s6 b6 S5 B5 SX B2
  go_wp2_with (first
    | (refine wpList_len (.tmp 52) rfl rfl vx bl rfl hx0 ?_; rw [HBL.out])
    | (go_at_call_of 12 v6; refine (sameEx v6 vb bs w6 S6.out (hh.later B6.out)).mono ?_; rintro e w' ⟨rfl, rfl⟩))
  go_ret
  exact ⟨rfl, B6.out⟩
set_option maxHeartbeats 2000000 in
theorem counts6 (n : Nat) (vb : Value) (bs : List Nat) (w : World) (hh : SliceIn w vb bs) (ht : TabIn w) (hn : n < 18446744073709551616) (hsz : bs.length + 4096 ≤ 140737488355328) (m : Nat) (hm : n % 281474976710656 = m) (hmz : (n : Int) % 281474976710656 = (m : Int)) :
    Calls Tryd.prog 7 #[.int .u64 (n : Nat), .int .i64 6, vb] w fun e w' => e = .returned (.bool true) ∧ Below w.heap.size w w' := by
  have HBL : Hid ((Frame.be 6 n).length = 6) := Frame.be_length 6 n
  have HBN : Hid ((Frame.be 6 n).length + bs.length ≤ 140737488355328) := by show _ ≤ _; rw [Frame.be_length]; omega
  have HBM : Hid (∀ c ∈ Frame.be 6 n, c < 256) := Frame.be_lt 6 n
  have HM : Hid (n % 281474976710656 = m) := hm
  clear hm
  go_enter Tryd.func7, Tryd.ntmps7
  go_wp2_with fail
  refine (shown_any w ht).mono ?_
  rintro e w1 ⟨rfl, b1⟩
  have B1 : Hid (Below w.heap.size w w1) := b1
  clear b1
  go_wp2_with fail
  refine (number_yes (.slice none 0 0) [] n 6 w1 (SliceIn.nil w1) (by decide) (by decide) (by simp)).mono ?_
  rintro e w2 ⟨vx, rfl, ox, b2⟩
  have SX : Hid (SliceIn w2 vx (Frame.be 6 n)) := BOwn.slice (base := w1.heap.size) ox HBM.out
  have B2 : Hid (Below w.heap.size w w2) := below_append B1.out b2
  clear ox b2 B1
  have HT : Hid (∀ v W, SliceIn W v (Frame.be 6 n ++ bs) → Calls Tryd.prog 17 #[v, .int .i64 6] W fun e w' => ∃ v', e = .returned (.tuple #[.int .u64 (m : Nat), v', .int .i64 0]) ∧ SliceIn w' v' bs ∧ Below W.heap.size W w') := fun v W hv => takeBack v 6 n bs W hv (by decide) (by decide) (by have := HBN.out; rw [List.length_append]; omega) m (by rw [← HM.out])
  generalize Frame.be 6 n = bl at *
  go_wp2_with (first
    | (refine wpList_lit0 rfl rfl w2.heap.size (Nat.le_refl _) ?_; intro v3 w3 o3 b3; have O3 : Hid (BOwn w3 w2.heap.size v3 []) := o3; have B3 : Hid (Below w2.heap.size w2 w3) := b3; clear o3 b3)
    | (refine wpList_append (.tmp 32) (.tmp 33) rfl rfl w2.heap.size v3 vx [] bl rfl O3.out rfl (SX.out.later B3.out) (by have := HBN.out; simp; omega) B3.out.size ?_; intro v4 w4 o4 b4; have O4 : Hid (BOwn w4 w2.heap.size v4 bl) := o4; have B4 : Hid (Below w2.heap.size w2 w4) := B3.out.trans b4; clear o4 b4 O3 B3)
    | (refine wpList_append (.tmp 34) (.tmp 35) rfl rfl w2.heap.size v4 vb bl bs rfl O4.out rfl (hh.later (below_append B2.out B4.out)) HBN.out B4.out.size ?_; intro v5 w5 o5 b5; have S5 : Hid (SliceIn w5 v5 (bl ++ bs)) := (o5.slice (fun c hc => (by rcases List.mem_append.1 hc with hc | hc; exact HBM.out c hc; exact hh.mem c hc))); have B5 : Hid (Below w.heap.size w w5) := below_append B2.out (B4.out.trans b5); clear o5 b5 O4 B4))
  refine (HT.out v5 w5 S5.out).mono ?_
  rintro e w6 ⟨v6, rfl, s6, b6⟩
  have S6 : Hid (SliceIn w6 v6 bs) := s6
  have B6 : Hid (Below w.heap.size w w6) := below_append B5.out b6
  have LX : ∃ w0, SliceIn w0 vx bl := ⟨w2, SX.out⟩
  obtain ⟨w0, hx0⟩ := LX
  clear s6 b6 S5 B5 SX B2
  go_wp2_with (first
    | (refine wpList_len (.tmp 52) rfl rfl vx bl rfl hx0 ?_; rw [HBL.out])
    | (go_at_call_of 12 v6; refine (sameEx v6 vb bs w6 S6.out (hh.later B6.out)).mono ?_; rintro e w' ⟨rfl, rfl⟩))
  go_ret
  exact ⟨rfl, B6.out⟩
set_option maxHeartbeats 2000000 in
theorem counts7 (n : Nat) (vb : Value) (bs : List Nat) (w : World) (hh : SliceIn w vb bs) (ht : TabIn w) (hn : n < 18446744073709551616) (hsz : bs.length + 4096 ≤ 140737488355328) (m : Nat) (hm : n % 72057594037927936 = m) (hmz : (n : Int) % 72057594037927936 = (m : Int)) :
    Calls Tryd.prog 7 #[.int .u64 (n : Nat), .int .i64 7, vb] w fun e w' => e = .returned (.bool true) ∧ Below w.heap.size w w' := by
  have HBL : Hid ((Frame.be 7 n).length = 7) := Frame.be_length 7 n
  have HBN : Hid ((Frame.be 7 n).length + bs.length ≤ 140737488355328) := by show _ ≤ _; rw [Frame.be_length]; omega
  have HBM : Hid (∀ c ∈ Frame.be 7 n, c < 256) := Frame.be_lt 7 n
  have HM : Hid (n % 72057594037927936 = m) := hm
  clear hm
  go_enter Tryd.func7, Tryd.ntmps7
  go_wp2_with fail
  refine (shown_any w ht).mono ?_
  rintro e w1 ⟨rfl, b1⟩
  have B1 : Hid (Below w.heap.size w w1) := b1
  clear b1
  go_wp2_with fail
  refine (number_yes (.slice none 0 0) [] n 7 w1 (SliceIn.nil w1) (by decide) (by decide) (by simp)).mono ?_
  rintro e w2 ⟨vx, rfl, ox, b2⟩
  have SX : Hid (SliceIn w2 vx (Frame.be 7 n)) := BOwn.slice (base := w1.heap.size) ox HBM.out
  have B2 : Hid (Below w.heap.size w w2) := below_append B1.out b2
  clear ox b2 B1
  have HT : Hid (∀ v W, SliceIn W v (Frame.be 7 n ++ bs) → Calls Tryd.prog 17 #[v, .int .i64 7] W fun e w' => ∃ v', e = .returned (.tuple #[.int .u64 (m : Nat), v', .int .i64 0]) ∧ SliceIn w' v' bs ∧ Below W.heap.size W w') := fun v W hv => takeBack v 7 n bs W hv (by decide) (by decide) (by have := HBN.out; rw [List.length_append]; omega) m (by rw [← HM.out])
  generalize Frame.be 7 n = bl at *
  go_wp2_with (first
    | (refine wpList_lit0 rfl rfl w2.heap.size (Nat.le_refl _) ?_; intro v3 w3 o3 b3; have O3 : Hid (BOwn w3 w2.heap.size v3 []) := o3; have B3 : Hid (Below w2.heap.size w2 w3) := b3; clear o3 b3)
    | (refine wpList_append (.tmp 32) (.tmp 33) rfl rfl w2.heap.size v3 vx [] bl rfl O3.out rfl (SX.out.later B3.out) (by have := HBN.out; simp; omega) B3.out.size ?_; intro v4 w4 o4 b4; have O4 : Hid (BOwn w4 w2.heap.size v4 bl) := o4; have B4 : Hid (Below w2.heap.size w2 w4) := B3.out.trans b4; clear o4 b4 O3 B3)
    | (refine wpList_append (.tmp 34) (.tmp 35) rfl rfl w2.heap.size v4 vb bl bs rfl O4.out rfl (hh.later (below_append B2.out B4.out)) HBN.out B4.out.size ?_; intro v5 w5 o5 b5; have S5 : Hid (SliceIn w5 v5 (bl ++ bs)) := (o5.slice (fun c hc => (by rcases List.mem_append.1 hc with hc | hc; exact HBM.out c hc; exact hh.mem c hc))); have B5 : Hid (Below w.heap.size w w5) := below_append B2.out (B4.out.trans b5); clear o5 b5 O4 B4))
  refine (HT.out v5 w5 S5.out).mono ?_
  rintro e w6 ⟨v6, rfl, s6, b6⟩
  have S6 : Hid (SliceIn w6 v6 bs) := s6
  have B6 : Hid (Below w.heap.size w w6) := below_append B5.out b6
  have LX : ∃ w0, SliceIn w0 vx bl := ⟨w2, SX.out⟩
  obtain ⟨w0, hx0⟩ := LX
  clear s6 b6 S5 B5 SX B2
  go_wp2_with (first
    | (refine wpList_len (.tmp 52) rfl rfl vx bl rfl hx0 ?_; rw [HBL.out])
    | (go_at_call_of 12 v6; refine (sameEx v6 vb bs w6 S6.out (hh.later B6.out)).mono ?_; rintro e w' ⟨rfl, rfl⟩))
  go_ret
  exact ⟨rfl, B6.out⟩
set_option maxHeartbeats 2000000 in
theorem counts8 (n : Nat) (vb : Value) (bs : List Nat) (w : World) (hh : SliceIn w vb bs) (ht : TabIn w) (hn : n < 18446744073709551616) (hsz : bs.length + 4096 ≤ 140737488355328)  :
    Calls Tryd.prog 7 #[.int .u64 (n : Nat), .int .i64 8, vb] w fun e w' => e = .returned (.bool true) ∧ Below w.heap.size w w' := by
  have HBL : Hid ((Frame.be 8 n).length = 8) := Frame.be_length 8 n
  have HBN : Hid ((Frame.be 8 n).length + bs.length ≤ 140737488355328) := by show _ ≤ _; rw [Frame.be_length]; omega
  have HBM : Hid (∀ c ∈ Frame.be 8 n, c < 256) := Frame.be_lt 8 n
  go_enter Tryd.func7, Tryd.ntmps7
  go_wp2_with fail
  refine (shown_any w ht).mono ?_
  rintro e w1 ⟨rfl, b1⟩
  have B1 : Hid (Below w.heap.size w w1) := b1
  clear b1
  go_wp2_with fail
  refine (number_yes (.slice none 0 0) [] n 8 w1 (SliceIn.nil w1) (by decide) (by decide) (by simp)).mono ?_
  rintro e w2 ⟨vx, rfl, ox, b2⟩
  have SX : Hid (SliceIn w2 vx (Frame.be 8 n)) := BOwn.slice (base := w1.heap.size) ox HBM.out
  have B2 : Hid (Below w.heap.size w w2) := below_append B1.out b2
  clear ox b2 B1
  have HT : Hid (∀ v W, SliceIn W v (Frame.be 8 n ++ bs) → Calls Tryd.prog 17 #[v, .int .i64 8] W fun e w' => ∃ v', e = .returned (.tuple #[.int .u64 (n : Nat), v', .int .i64 0]) ∧ SliceIn w' v' bs ∧ Below W.heap.size W w') := fun v W hv => takeBack v 8 n bs W hv (by decide) (by decide) (by have := HBN.out; rw [List.length_append]; omega) n (Nat.mod_eq_of_lt hn)
  generalize Frame.be 8 n = bl at *
  go_wp2_with (first
    | (refine wpList_lit0 rfl rfl w2.heap.size (Nat.le_refl _) ?_; intro v3 w3 o3 b3; have O3 : Hid (BOwn w3 w2.heap.size v3 []) := o3; have B3 : Hid (Below w2.heap.size w2 w3) := b3; clear o3 b3)
    | (refine wpList_append (.tmp 32) (.tmp 33) rfl rfl w2.heap.size v3 vx [] bl rfl O3.out rfl (SX.out.later B3.out) (by have := HBN.out; simp; omega) B3.out.size ?_; intro v4 w4 o4 b4; have O4 : Hid (BOwn w4 w2.heap.size v4 bl) := o4; have B4 : Hid (Below w2.heap.size w2 w4) := B3.out.trans b4; clear o4 b4 O3 B3)
    | (refine wpList_append (.tmp 34) (.tmp 35) rfl rfl w2.heap.size v4 vb bl bs rfl O4.out rfl (hh.later (below_append B2.out B4.out)) HBN.out B4.out.size ?_; intro v5 w5 o5 b5; have S5 : Hid (SliceIn w5 v5 (bl ++ bs)) := (o5.slice (fun c hc => (by rcases List.mem_append.1 hc with hc | hc; exact HBM.out c hc; exact hh.mem c hc))); have B5 : Hid (Below w.heap.size w w5) := below_append B2.out (B4.out.trans b5); clear o5 b5 O4 B4))
  refine (HT.out v5 w5 S5.out).mono ?_
  rintro e w6 ⟨v6, rfl, s6, b6⟩
  have S6 : Hid (SliceIn w6 v6 bs) := s6
  have B6 : Hid (Below w.heap.size w w6) := below_append B5.out b6
  have LX : ∃ w0, SliceIn w0 vx bl := ⟨w2, SX.out⟩
  obtain ⟨w0, hx0⟩ := LX
  clear s6 b6 S5 B5 SX B2
  go_wp2_with (first
    | (refine wpList_len (.tmp 52) rfl rfl vx bl rfl hx0 ?_; rw [HBL.out])
    | (go_at_call_of 12 v6; refine (sameEx v6 vb bs w6 S6.out (hh.later B6.out)).mono ?_; rintro e w' ⟨rfl, rfl⟩))
  go_ret
  exact ⟨rfl, B6.out⟩
set_option maxHeartbeats 2000000 in
theorem counts_out (s : Int) (hs : s < 1 ∨ 8 < s) (n : Nat) (vb : Value) (w : World) (ht : TabIn w) :
    Calls Tryd.prog 7 #[.int .u64 (n : Nat), .int .i64 s, vb] w fun e w' => e = .returned (.bool true) ∧ Below w.heap.size w w' := by
  have HS : Hid (s < 1 ∨ 8 < s) := hs
  have key : ∀ y : Bool, decide (s < 1) = y → (y = false → decide (8 < s) = true) → Calls Tryd.prog 7 #[.int .u64 (n : Nat), .int .i64 s, vb] w fun e w' => e = .returned (.bool true) ∧ Below w.heap.size w w' := by
    intro y hy hz
    cases y
    · have h8 : decide (8 < s) = true := hz rfl
      clear hz hs
      go_enter Tryd.func7, Tryd.ntmps7
      go_wp2_with fail
      refine (shown_any w ht).mono ?_
      rintro e w1 ⟨rfl, b1⟩
      have B1 : Hid (Below w.heap.size w w1) := b1
      clear b1
      go_wp2_with fail
      refine (number_no (.slice none 0 0) [] n s w1 (SliceIn.nil w1) HS.out (by simp)).mono ?_
      rintro e w2 ⟨vx, rfl, ox, b2⟩
      have hx := BOwn.slice (base := w1.heap.size) ox (by simp)
      have B2 : Hid (Below w.heap.size w w2) := below_append B1.out b2
      clear ox b2 B1
      go_wp2_with (refine wpList_len (.tmp 27) rfl rfl vx [] rfl hx ?_)
      go_ret
      exact ⟨rfl, B2.out⟩
    · clear hz hs
      go_enter Tryd.func7, Tryd.ntmps7
      go_wp2_with fail
      refine (shown_any w ht).mono ?_
      rintro e w1 ⟨rfl, b1⟩
      have B1 : Hid (Below w.heap.size w w1) := b1
      clear b1
      go_wp2_with fail
      refine (number_no (.slice none 0 0) [] n s w1 (SliceIn.nil w1) HS.out (by simp)).mono ?_
      rintro e w2 ⟨vx, rfl, ox, b2⟩
      have hx := BOwn.slice (base := w1.heap.size) ox (by simp)
      have B2 : Hid (Below w.heap.size w w2) := below_append B1.out b2
      clear ox b2 B1
      go_wp2_with (refine wpList_len (.tmp 27) rfl rfl vx [] rfl hx ?_)
      go_ret
      exact ⟨rfl, B2.out⟩
  by_cases h1 : s < 1
  · exact key true (decide_eq_true h1) (fun h => by cases h)
  · exact key false (decide_eq_false h1) (fun _ => decide_eq_true (by omega))
theorem frameCounts_any (n : Nat) (s : Int) (vb : Value) (bs : List Nat) (w : World) (hh : SliceIn w vb bs) (ht : TabIn w) (hn : n < 18446744073709551616) (hsz : bs.length + 4096 ≤ 140737488355328) :
    Calls Tryd.prog 7 #[.int .u64 (n : Nat), .int .i64 s, vb] w fun e w' => e = .returned (.bool true) ∧ Below w.heap.size w w' := by
  by_cases hs : s < 1 ∨ 8 < s
  · exact counts_out s hs n vb w ht
  have : s = 1 ∨ s = 2 ∨ s = 3 ∨ s = 4 ∨ s = 5 ∨ s = 6 ∨ s = 7 ∨ s = 8 := by omega
  rcases this with rfl | rfl | rfl | rfl | rfl | rfl | rfl | rfl
  · exact counts1 n vb bs w hh ht hn hsz _ rfl (by omega)
  · exact counts2 n vb bs w hh ht hn hsz _ rfl (by omega)
  · exact counts3 n vb bs w hh ht hn hsz _ rfl (by omega)
  · exact counts4 n vb bs w hh ht hn hsz _ rfl (by omega)
  · exact counts5 n vb bs w hh ht hn hsz _ rfl (by omega)
  · exact counts6 n vb bs w hh ht hn hsz _ rfl (by omega)
  · exact counts7 n vb bs w hh ht hn hsz _ rfl (by omega)
  · exact counts8 n vb bs w hh ht hn hsz
end Go.Proofs.YtflabbladikhbaaDoor

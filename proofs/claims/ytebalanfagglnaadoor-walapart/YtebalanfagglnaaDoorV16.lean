/- Frames written, the program's and the document's; numbers written. -/
import Derived.Test.YtebalanfagglnaaDoorV15
namespace Go.Proofs.YtebalanfagglnaaDoor.Fr
open Go.RowKit

theorem below_append {a b c : World} (h : Below a.heap.size a b) (k : Below b.heap.size b c) : Below a.heap.size a c := h.trans (k.mono h.size)

set_option maxHeartbeats 400000 in
theorem pack_any (kind : Nat) (hk : kind < 256) (v : Value) (cs : List Nat) (w : World) (h : SliceIn w v cs) (ht : TabIn w) (hsz : cs.length + 9 ≤ 140737488355328) :
    Calls Tryd.prog 67 #[.int .u8 (kind : Nat), v] w fun e w' => ∃ v', e = .returned v' ∧ BOwn w' w.heap.size v' (Frame.pack kind cs) ∧ Below w.heap.size w w' := by
  go_enter Tryd.func67, Tryd.ntmps67
  go_wp2_with (first
    | (refine wpList_len (.tmp 6) rfl rfl v cs rfl h ?_)
    | (refine wpList_make0 (.const (.int .i64 0)) (.tmp 9) rfl rfl w.heap.size (cs.length + 9) _ rfl rfl (by omega) (by omega) (Nat.le_refl _) ?_; intro v1 w1 o1 b1; have O1 : Hid (BOwn w1 w.heap.size v1 []) := o1; have B1 : Hid (Below w.heap.size w w1) := b1; clear o1 b1)
    | (refine wpList_len (.tmp 12) rfl rfl v cs rfl h ?_)
    | (go_at_call 66; refine (lay_any v1 [] cs.length 4 w.heap.size w1 O1.out B1.out.size (by decide) (by simp)).mono ?_; rintro e w2 ⟨v2, rfl, o2, b2⟩; have O2 : Hid (BOwn w2 w.heap.size v2 ([] ++ Frame.be 4 cs.length)) := o2; have B2 : Hid (Below w.heap.size w w2) := B1.out.trans b2; clear o2 b2 O1 B1)
    | (refine wpList_lit1 (.tmp 17) rfl rfl kind hk _ rfl rfl ?_; intro v3 w3 s3 b3; have S3 : Hid (SliceIn w3 v3 [kind]) := s3; have B3 : Hid (Below w2.heap.size w2 w3) := b3; clear s3 b3)
    | (refine wpList_append (.tmp 16) (.tmp 18) rfl rfl w.heap.size v2 v3 ([] ++ Frame.be 4 cs.length) [kind] rfl (O2.out.later B3.out (Nat.le_refl _)) rfl S3.out (by simp [Frame.be_length]) (below_append B2.out B3.out).size ?_; intro v4 w4 o4 b4; have O4 : Hid (BOwn w4 w.heap.size v4 (([] ++ Frame.be 4 cs.length) ++ [kind])) := o4; have B4 : Hid (Below w.heap.size w w4) := (below_append B2.out B3.out).trans b4; clear o4 b4 B3 O2 B2 S3)
    | (refine wpList_append (.tmp 20) (.tmp 21) rfl rfl w.heap.size v4 v (([] ++ Frame.be 4 cs.length) ++ [kind]) cs rfl O4.out rfl (h.later B4.out) (by simp [Frame.be_length]; omega) B4.out.size ?_; intro v5 w5 o5 b5; have O5 : Hid (BOwn w5 w.heap.size v5 (Frame.body kind cs)) := (by have e : ([] ++ Frame.be 4 cs.length) ++ [kind] ++ cs = Frame.body kind cs := (by simp [Frame.body]); rw [← e]; exact o5); have B5 : Hid (Below w.heap.size w w5) := B4.out.trans b5; clear o5 b5 O4 B4)
    | (go_at_call 78; refine (sum_any v5 (Frame.body kind cs) w5 (O5.out.slice (Frame.body_lt kind cs hk h.mem)) (ht.later B5.out)).mono ?_; rintro e w6 ⟨rfl, rfl⟩; have HC : Hid (Frame.pack kind cs = Frame.body kind cs ++ Frame.be 4 (Frame.crc (Frame.body kind cs))) := rfl; have hcl := Frame.crc_lt (Frame.body kind cs); generalize Frame.crc (Frame.body kind cs) = sm at HC hcl ⊢)
    | (go_at_call 66; refine (lay_any v5 (Frame.body kind cs) sm 4 w.heap.size w5 O5.out B5.out.size (by decide) (by rw [Frame.body_length]; omega)).mono ?_; rintro e w7 ⟨v7, rfl, o7, b7⟩; have O7 : Hid (BOwn w7 w.heap.size v7 (Frame.pack kind cs)) := (by rw [HC.out]; exact o7); have B7 : Hid (Below w.heap.size w w7) := B5.out.trans b7; clear o7 b7 O5 B5))
  go_ret
  exact ⟨_, rfl, O7.out, B7.out⟩

set_option maxHeartbeats 400000 in
theorem number_yes (v : Value) (cs : List Nat) (n size : Nat) (w : World) (h : SliceIn w v cs) (h1 : 1 ≤ size) (h8 : size ≤ 8) (hsz : cs.length + size ≤ 140737488355328) :
    Calls Tryd.prog 47 #[v, .int .u64 (n : Nat), .int .i64 (size : Nat)] w fun e w' => ∃ v', e = .returned v' ∧ BOwn w' w.heap.size v' (cs ++ Frame.be size n) ∧ Below w.heap.size w w' := by
  go_enter Tryd.func47, Tryd.ntmps47
  go_wp2_with (first
    | (go_at_call 64; refine (sizeHolds_yes _ _ (by omega) (by omega)).mono ?_; rintro e w' ⟨rfl, rfl⟩)
    | (refine wpList_len (.tmp 12) rfl rfl v cs rfl h ?_)
    | (refine wpList_make0 (.const (.int .i64 0)) (.tmp 15) rfl rfl w.heap.size (cs.length + size) _ rfl rfl (by omega) (by omega) (Nat.le_refl _) ?_; intro v1 w1 o1 b1; have O1 : Hid (BOwn w1 w.heap.size v1 []) := o1; have B1 : Hid (Below w.heap.size w w1) := b1; clear o1 b1)
    | (refine wpList_append (.tmp 16) (.tmp 17) rfl rfl w.heap.size v1 v [] cs rfl O1.out rfl (h.later B1.out) (by simp; omega) B1.out.size ?_; intro v2 w2 o2 b2; have O2 : Hid (BOwn w2 w.heap.size v2 cs) := o2; have B2 : Hid (Below w.heap.size w w2) := B1.out.trans b2; clear o2 b2 O1 B1)
    | (go_at_call 66; refine (lay_any v2 cs n size w.heap.size w2 O2.out B2.out.size h8 hsz).mono ?_; rintro e w3 ⟨v3, rfl, o3, b3⟩; have O3 : Hid (BOwn w3 w.heap.size v3 (cs ++ Frame.be size n)) := o3; have B3 : Hid (Below w.heap.size w w3) := B2.out.trans b3; clear o3 b3 O2 B2))
  go_ret
  exact ⟨_, rfl, O3.out, B3.out⟩
/-! the document's own -/
end Go.Proofs.YtebalanfagglnaaDoor.Fr

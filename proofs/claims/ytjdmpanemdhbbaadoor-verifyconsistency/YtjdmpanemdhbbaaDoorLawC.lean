/- The law VerifyConsistency, walked out of its callees' contracts. -/
import Derived.Test.YtjdmpanemdhbbaaDoorRawMem
import Derived.Test.YtjdmpanemdhbbaaDoorShown
import Derived.Test.YtjdmpanemdhbbaaDoorRCons
namespace Go.Proofs.YtjdmpanemdhbbaaDoor
open Go.RowKit

set_option maxHeartbeats 8000000 in
set_option maxRecDepth 100000 in
theorem verifyConsistency_any (m n : Int) (a b : List Nat) (v : Value) (row : List (List Nat)) (w : World) (ha : IsH a) (hb : IsH b) (h : HIn w v row) (ht : TabIn w) (hst : StartIn w) (hn : n ≤ 9223372036854775807) (hsz : row.length * 32 ≤ 140737488351232) :
    Calls Tryd.prog 4 #[rawV m n a b v] w fun e w' => e = .returned (.bool true) ∧ Below w.heap.size w w' := by
  have HH : Hid (IsH a ∧ IsH b) := ⟨ha, hb⟩
  have HN : Hid (n ≤ 9223372036854775807) := hn
  have HSZ : Hid (row.length * 32 ≤ 140737488351232) := hsz
  obtain ⟨g, hg⟩ : ∃ g, g = w.heap.size := ⟨_, rfl⟩
  clear ha hb hn hsz
  go_enter Tryd.func4, Tryd.ntmps4
  go_wp2_with ((first
    | (refine wpList_box (.tmp 0) rfl rfl (rawCells m n a b v) rfl ?_; rw [← hg]; intro w1 r1 s1 b1; have R1 : Hid (RawIs w1 g m n a b v ∧ Below w.heap.size w w1) := ⟨⟨HH.out, r1⟩, hg ▸ b1⟩; clear r1 s1 b1 hg)
    | (go_at_call 9; refine (shown_any w1 (ht.later R1.out.2) (hst.later R1.out.2)).mono ?_; rintro e w2 ⟨rfl, b2⟩; have R2 : Hid (RawIs w2 g m n a b v ∧ Below w.heap.size w w2) := ⟨R1.out.1.next b2, below_append R1.out.2 b2⟩; clear b2)
    | (refine wl_lit0 rfl rfl w2.heap.size (Nat.le_refl _) ?_; intro vo w3 o3 b3; have R3 : Hid (RawIs w3 g m n a b v ∧ Below w.heap.size w w3 ∧ HOwn w3 w2.heap.size vo [] ∧ w2.heap.size ≤ w3.heap.size ∧ (w.heap.size ≤ w2.heap.size ∧ g < w2.heap.size)) := ⟨R2.out.1.next b3, below_append R2.out.2 b3, o3, b3.size, R2.out.2.size, R2.out.1.2.lt⟩; clear o3 b3)
    | (refine wl_field f26_4 (.tmp 1) rfl rfl g 0 rfl ?_)
    | (refine wl_load1 one24 (.tmp 10) rfl rfl g (0 + 66) rfl v R3.out.1.fv ?_)
    | (refine wl_append (.tmp 9) (.tmp 11) rfl rfl w2.heap.size vo v [] row rfl R3.out.2.2.1 rfl (h.later R3.out.2.1) (by have := HSZ.out; simp; omega) R3.out.2.2.2.1 ?_; intro vn w4 o4 b4; have R4 : Hid (RawIs w4 g m n a b v ∧ Below w.heap.size w w4 ∧ HIn w4 vn row) := ⟨⟨HH.out, R3.out.1.2.later b4 R3.out.2.2.2.2.2⟩, R3.out.2.1.trans (b4.mono R3.out.2.2.2.2.1), o4.hin⟩; clear o4 b4)
    | (refine wl_field f26_0 (.tmp 1) rfl rfl g 0 rfl ?_)
    | (refine wl_field f26_1 (.tmp 1) rfl rfl g 0 rfl ?_)
    | (refine wl_field f26_2 (.tmp 1) rfl rfl g 0 rfl ?_)
    | (refine wl_field f26_3 (.tmp 1) rfl rfl g 0 rfl ?_)
    | (refine wl_load (.tmp 17) rfl rfl _ rfl a R4.out.1.fa ?_)
    | (refine wl_load (.tmp 19) rfl rfl _ rfl b R4.out.1.fb ?_)
    | (refine wl_load1 one3 (.tmp 13) rfl rfl g (0 + 0) rfl (.int .i64 m) R4.out.1.fm ?_)
    | (refine wl_load1 one3 (.tmp 15) rfl rfl g (0 + 1) rfl (.int .i64 n) R4.out.1.fn ?_)); try simp only [Act.put, List.setIfInBounds_toArray, List.set_cons_succ, List.set_cons_zero])
  refine (vcons_any a b m n vn row w4 HH.out.1 HH.out.2 R4.out.2.2 (ht.later R4.out.2.1) (hst.later R4.out.2.1) HN.out).mono ?_
  rintro e w5 ⟨rfl, b5⟩
  have R5 : Hid (RawIs w5 g m n a b v ∧ Below w.heap.size w w5 ∧ HIn w5 vn row) := ⟨R4.out.1.next b5, below_append R4.out.2.1 b5, R4.out.2.2.later b5⟩
  obtain ⟨bb, hbb⟩ : ∃ bb, (Tree.consOk m n a b row) = bb := ⟨_, rfl⟩
  have HBB : Hid ((Tree.consOk m n a b row) = bb) := hbb
  rw [hbb]
  clear b5 hbb
  cases bb with
  | true =>
    go_wp2_with ((first
    | (refine wl_field f26_0 (.tmp 1) rfl rfl g 0 rfl ?_)
    | (refine wl_field f26_1 (.tmp 1) rfl rfl g 0 rfl ?_)
    | (refine wl_field f26_2 (.tmp 1) rfl rfl g 0 rfl ?_)
    | (refine wl_field f26_3 (.tmp 1) rfl rfl g 0 rfl ?_)
    | (refine wl_field f26_4 (.tmp 1) rfl rfl g 0 rfl ?_)
    | (refine wl_load (.tmp 28) rfl rfl _ rfl a R5.out.1.fa ?_)
    | (refine wl_load (.tmp 30) rfl rfl _ rfl b R5.out.1.fb ?_)
    | (refine wl_load1 one3 (.tmp 24) rfl rfl g (0 + 0) rfl (.int .i64 m) R5.out.1.fm ?_)
    | (refine wl_load1 one3 (.tmp 26) rfl rfl g (0 + 1) rfl (.int .i64 n) R5.out.1.fn ?_)
    | (refine wl_load1 one24 (.tmp 32) rfl rfl g (0 + 66) rfl v R5.out.1.fv ?_)); try simp only [Act.put, List.setIfInBounds_toArray, List.set_cons_succ, List.set_cons_zero])
    refine (rcons_any a b m n v row w5 HH.out.1 HH.out.2 (h.later R5.out.2.1) HN.out).mono ?_
    rintro e w6 ⟨rfl, b6⟩
    have R6 : Hid (RawIs w6 g m n a b v ∧ Below w.heap.size w w6 ∧ HIn w6 vn row) := ⟨R5.out.1.next b6, below_append R5.out.2.1 b6, R5.out.2.2.later b6⟩
    rw [HBB.out]
    clear b6
    go_wp2_with ((first
    | (refine wl_field f26_4 (.tmp 1) rfl rfl g 0 rfl ?_)
    | (refine wl_load1 one24 (.tmp 38) rfl rfl g (0 + 66) rfl v R6.out.1.fv ?_)
    | (go_at_call 12; refine (same_any vn v row row w6 R6.out.2.2 (h.later R6.out.2.1)).mono ?_; rintro e w7 ⟨rfl, b7⟩; rw [decide_eq_true rfl]; have R7 : Hid (Below w.heap.size w w7) := below_append R6.out.2.1 b7; clear b7)); try simp only [Act.put, List.setIfInBounds_toArray, List.set_cons_succ, List.set_cons_zero])
    go_ret
    exact ⟨rfl, R7.out⟩
  | false =>
    go_wp2_with ((first
    | (refine wl_field f26_0 (.tmp 1) rfl rfl g 0 rfl ?_)
    | (refine wl_field f26_1 (.tmp 1) rfl rfl g 0 rfl ?_)
    | (refine wl_field f26_2 (.tmp 1) rfl rfl g 0 rfl ?_)
    | (refine wl_field f26_3 (.tmp 1) rfl rfl g 0 rfl ?_)
    | (refine wl_field f26_4 (.tmp 1) rfl rfl g 0 rfl ?_)
    | (refine wl_load (.tmp 28) rfl rfl _ rfl a R5.out.1.fa ?_)
    | (refine wl_load (.tmp 30) rfl rfl _ rfl b R5.out.1.fb ?_)
    | (refine wl_load1 one3 (.tmp 24) rfl rfl g (0 + 0) rfl (.int .i64 m) R5.out.1.fm ?_)
    | (refine wl_load1 one3 (.tmp 26) rfl rfl g (0 + 1) rfl (.int .i64 n) R5.out.1.fn ?_)
    | (refine wl_load1 one24 (.tmp 32) rfl rfl g (0 + 66) rfl v R5.out.1.fv ?_)); try simp only [Act.put, List.setIfInBounds_toArray, List.set_cons_succ, List.set_cons_zero])
    refine (rcons_any a b m n v row w5 HH.out.1 HH.out.2 (h.later R5.out.2.1) HN.out).mono ?_
    rintro e w6 ⟨rfl, b6⟩
    have R6 : Hid (RawIs w6 g m n a b v ∧ Below w.heap.size w w6 ∧ HIn w6 vn row) := ⟨R5.out.1.next b6, below_append R5.out.2.1 b6, R5.out.2.2.later b6⟩
    rw [HBB.out]
    clear b6
    go_wp2_with ((first
    | (refine wl_field f26_4 (.tmp 1) rfl rfl g 0 rfl ?_)
    | (refine wl_load1 one24 (.tmp 38) rfl rfl g (0 + 66) rfl v R6.out.1.fv ?_)
    | (go_at_call 12; refine (same_any vn v row row w6 R6.out.2.2 (h.later R6.out.2.1)).mono ?_; rintro e w7 ⟨rfl, b7⟩; rw [decide_eq_true rfl]; have R7 : Hid (Below w.heap.size w w7) := below_append R6.out.2.1 b7; clear b7)); try simp only [Act.put, List.setIfInBounds_toArray, List.set_cons_succ, List.set_cons_zero])
    go_ret
    exact ⟨rfl, R7.out⟩
end Go.Proofs.YtjdmpanemdhbbaaDoor

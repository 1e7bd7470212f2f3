/- What bytes begin with: the program's Unpack. -/
import Derived.Test.YthgidfoidbgnaaaDoorE15
namespace Go.Proofs.YthgidfoidbgnaaaDoor.Fr
open Go.RowKit

set_option maxHeartbeats 400000 in
theorem unpack_short (v : Value) (cs : List Nat) (w : World) (h : SliceIn w v cs) (hl : cs.length < 9) :
  Calls Tryd.prog 79 #[v] w fun e w' => e = .returned (.tuple #[.int .u8 0, .slice none 0 0, .slice none 0 0, .int .i64 40]) ∧ w = w' := by
 go_enter Tryd.func79, Tryd.ntmps79
 go_wp2_with (refine wpList_len (.tmp 9) rfl rfl v cs rfl h ?_)
 refine bodyPost_ret (results_tmp4 rfl _ _ _) rfl ?_
 exact ⟨rfl, rfl⟩
set_option maxHeartbeats 400000 in
theorem unpack_far (v : Value) (cs : List Nat) (n : Nat) (w : World) (h : SliceIn w v cs) (hl : 9 ≤ cs.length) (hn : Hid (Frame.lenOf cs = n)) (hf : cs.length < n + 9) (hsz : cs.length ≤ 281474976710656) :
  Calls Tryd.prog 79 #[v] w fun e w' => e = .returned (.tuple #[.int .u8 0, .slice none 0 0, .slice none 0 0, .int .i64 40]) ∧ w = w' := by
 go_enter Tryd.func79, Tryd.ntmps79
 go_wp2_with (first
  | (refine wpList_len (.tmp 9) rfl rfl v cs rfl h ?_)
  | (refine wpList_sub (.tmp 12) none (some (.const (.int .i64 4))) (some (.const (.int .i64 4))) rfl rfl v cs rfl h 0 4 ⟨Or.inl ⟨rfl, rfl⟩, Or.inr ⟨_, rfl, rfl, Or.inr rfl⟩, by decide, by omega⟩ ?_; intro v1 s1)
  | (go_at_call 94; refine (value_any v1 (cs.take 4) w s1 (by simp; omega)).mono ?_; rintro e w' ⟨rfl, rfl⟩; rw [show Frame.val (cs.take 4) = n from hn.out])
  | (refine wpList_len (.tmp 16) rfl rfl v cs rfl h ?_))
 refine bodyPost_ret (results_tmp4 rfl _ _ _) rfl ?_
 exact ⟨rfl, rfl⟩

set_option maxHeartbeats 1000000 in
theorem unpack_wrong (v : Value) (cs : List Nat) (n : Nat) (w : World) (h : SliceIn w v cs) (ht : TabIn w) (hl : 9 ≤ cs.length) (hn : Hid (Frame.lenOf cs = n)) (hb : n < 4294967296) (hf : n + 9 ≤ cs.length) (hsz : cs.length ≤ 281474976710656) (s t : Nat) (hs : Hid (Frame.val ((cs.take (5 + n + 4)).drop (5 + n)) = s)) (hv : Hid (Frame.crc (cs.take (5 + n)) = t)) (hst : t < 4294967296) (hne : s ≠ t) :
  Calls Tryd.prog 79 #[v] w fun e w' => e = .returned (.tuple #[.int .u8 0, .slice none 0 0, .slice none 0 0, .int .i64 40]) ∧ Below w.heap.size w w' := by
 obtain ⟨va, ra, sa⟩ := sub_lh h (5 + n) (5 + n + 4) (by omega) (by omega)
 obtain ⟨vb, rb, sb⟩ := sub_h h (5 + n) (by omega)
 rw [show ((5 + n + 4 : Nat) : Int) = 5 + (n : Int) + 4 by omega, show ((5 + n : Nat) : Int) = 5 + (n : Int) by omega] at ra
 rw [show ((5 + n : Nat) : Int) = 5 + (n : Int) by omega] at rb
 have HA : Hid (∀ w', (Instr.slice 28 v (some (.int .i64 (5 + (n : Int)))) (some (.int .i64 (5 + (n : Int) + 4))) (some (.int .i64 (5 + (n : Int) + 4)))).run Tryd.prog w' = .ok va w') := ra
 have HBr : Hid (∀ w', (Instr.slice 28 v none (some (.int .i64 (5 + (n : Int)))) (some (.int .i64 (5 + (n : Int))))).run Tryd.prog w' = .ok vb w') := rb
 have HSa : Hid (SliceIn w va ((cs.take (5 + n + 4)).drop (5 + n))) := sa
 have HSb : Hid (SliceIn w vb (cs.take (5 + n))) := sb
 clear ra rb sa sb
 go_enter Tryd.func79, Tryd.ntmps79
 go_wp2_with (first
  | (refine wpList_len (.tmp 9) rfl rfl v cs rfl h ?_)
  | (refine wpList_sub (.tmp 12) none (some (.const (.int .i64 4))) (some (.const (.int .i64 4))) rfl rfl v cs rfl h 0 4 ⟨Or.inl ⟨rfl, rfl⟩, Or.inr ⟨_, rfl, rfl, Or.inr rfl⟩, by decide, by omega⟩ ?_; intro v1 s1)
  | (go_at_call 94; refine (value_any v1 (cs.take 4) w s1 (by simp; omega)).mono ?_; rintro e w' ⟨rfl, rfl⟩; rw [show Frame.val (cs.take 4) = n from hn.out])
  | (refine wpList_len (.tmp 16) rfl rfl v cs rfl h ?_))
 refine wp_region_held (S := TakeS w va vb ((cs.take (5 + n + 4)).drop (5 + n)) (cs.take (5 + n))) (by kernel_rfl) ?_
 show wpAnyH _ _ _ _ _ 13 (Array.replicate 13 false) _ _
 have hS : TakeS w va vb ((cs.take (5 + n + 4)).drop (5 + n)) (cs.take (5 + n)) { w with drawn := w.drawn + 1 } := ⟨HSa.out.later (below_drawn w _), HSb.out.later (below_drawn w _), below_drawn w _⟩
 refine tH 0 27 rfl rfl (yMove rfl (.tmp 0) rfl v rfl) hS ?_
 refine tH 1 28 rfl rfl (yMove rfl (.tmp 7) rfl (.int .i64 (5 + (n : Int))) rfl) hS ?_
 refine tH 2 29 rfl rfl (yMove rfl (.tmp 8) rfl (.int .i64 (5 + (n : Int) + 4)) rfl) hS ?_
 refine tH 3 30 rfl rfl (yMove rfl (.tmp 8) rfl (.int .i64 (5 + (n : Int) + 4)) rfl) hS ?_
 simp only [Act.put, aS, aC, aZ]
 refine tH 4 31 rfl rfl (ySub rfl (.tmp 27) (some (.tmp 28)) (some (.tmp 29)) (some (.tmp 30)) rfl v va rfl HA.out) hS ?_
 refine tH 6 33 rfl rfl (yMove rfl (.tmp 0) rfl v rfl) hS ?_
 refine tH 7 34 rfl rfl (yMove rfl (.tmp 7) rfl (.int .i64 (5 + (n : Int))) rfl) hS ?_
 refine tH 8 35 rfl rfl (yMove rfl (.tmp 7) rfl (.int .i64 (5 + (n : Int))) rfl) hS ?_
 simp only [Act.put, aS, aC, aZ]
 refine tH 9 36 rfl rfl (ySub rfl (.tmp 33) none (some (.tmp 34)) (some (.tmp 35)) rfl v vb rfl HBr.out) hS ?_
 simp only [Act.put, aS, aC, aZ]
 refine oneH (i := 5) (by kernel_rfl) ?_
 refine opCallA (some 32) rfl rfl rfl 94 _ (run_call en23 [.tmp 31] _ rfl [va] rfl) ?_
 refine (value_any va ((cs.take (5 + n + 4)).drop (5 + n)) _ hS.1 (by simp; omega)).mono ?_
 rintro e w1 ⟨rfl, hw1⟩
 rw [← hw1, hs.out]
 refine ⟨_, rfl, hS, ?_⟩
 clear hw1
 simp only [Act.put, aS, aC, aZ]
 refine oneH (i := 10) (by kernel_rfl) ?_
 refine opCallA (some 37) rfl rfl rfl 75 _ (run_call en21 [.tmp 36] _ rfl [vb] rfl) ?_
 refine (sum_any vb (cs.take (5 + n)) _ hS.2.1 (ht.later (below_drawn w _))).mono ?_
 rintro e w1 ⟨rfl, hw1⟩
 rw [← hw1, hv.out]
 refine ⟨_, rfl, hS, ?_⟩
 clear hw1
 simp only [Act.put, aS, aC, aZ]
 refine tH 11 38 rfl rfl (yConv rfl (.tmp 37) rfl t hst rfl) hS ?_
 refine tH 12 39 rfl rfl (yNeq rfl (.tmp 32) (.tmp 38) rfl s t rfl rfl) hS ?_
 simp only [Act.put, aS, aC, aZ]
 refine wpAnyH_done (by kernel_rfl) ?_ _
 clear hS
 have hd : ((s : Int) != (t : Int)) = true := by simpa using fun e => hne (by omega)
 clear hne
 rw [hd]
 have HB : Hid (Below w.heap.size w { w with drawn := w.drawn + 1 }) := below_drawn w _
 go_wp2
 refine bodyPost_ret (results_tmp4 rfl _ _ _) rfl ?_
 exact ⟨rfl, HB.out⟩

/-- what the answer reads -/
def UnS (w : World) (b j c : Nat) (va vb : Value) (xs ys : List Nat) (W : World) : Prop := W.cell? ⟨b, j, none⟩ = some (.int .u8 (c : Nat)) ∧ TakeS w va vb xs ys W
set_option maxHeartbeats 1000000 in
theorem unpack_right (v : Value) (cs : List Nat) (n : Nat) (w : World) (h : SliceIn w v cs) (ht : TabIn w) (hl : 9 ≤ cs.length) (hn : Hid (Frame.lenOf cs = n)) (hb : n < 4294967296) (hf : n + 9 ≤ cs.length) (hsz : cs.length ≤ 281474976710656) (s t : Nat) (hs : Hid (Frame.val ((cs.take (5 + n + 4)).drop (5 + n)) = s)) (hv : Hid (Frame.crc (cs.take (5 + n)) = t)) (hst : t < 4294967296) (heq : s = t) (c : Nat) (hc : Hid (cs.getD 4 0 = c)) :
  Calls Tryd.prog 79 #[v] w fun e w' => ∃ vp vr, e = .returned (.tuple #[.int .u8 (c : Nat), vp, vr, .int .i64 0]) ∧ BOwn w' w.heap.size vp ((cs.take (5 + n)).drop 5) ∧ BOwn w' w.heap.size vr (cs.drop (5 + n + 4)) ∧ (vr.ownBlock = none ∨ vr.ownBlock ≠ vp.ownBlock) ∧ Below w.heap.size w w' := by
 obtain ⟨va, ra, sa⟩ := sub_lh h (5 + n) (5 + n + 4) (by omega) (by omega)
 obtain ⟨vb, rb, sb⟩ := sub_h h (5 + n) (by omega)
 rw [show ((5 + n + 4 : Nat) : Int) = 5 + (n : Int) + 4 by omega, show ((5 + n : Nat) : Int) = 5 + (n : Int) by omega] at ra
 rw [show ((5 + n : Nat) : Int) = 5 + (n : Int) by omega] at rb
 have HA : Hid (∀ w', (Instr.slice 28 v (some (.int .i64 (5 + (n : Int)))) (some (.int .i64 (5 + (n : Int) + 4))) (some (.int .i64 (5 + (n : Int) + 4)))).run Tryd.prog w' = .ok va w') := ra
 have HBr : Hid (∀ w', (Instr.slice 28 v none (some (.int .i64 (5 + (n : Int)))) (some (.int .i64 (5 + (n : Int))))).run Tryd.prog w' = .ok vb w') := rb
 have HSa : Hid (SliceIn w va ((cs.take (5 + n + 4)).drop (5 + n))) := sa
 have HSb : Hid (SliceIn w vb (cs.take (5 + n))) := sb
 clear ra rb sa sb
 go_enter Tryd.func79, Tryd.ntmps79
 go_wp2_with (first
  | (refine wpList_len (.tmp 9) rfl rfl v cs rfl h ?_)
  | (refine wpList_sub (.tmp 12) none (some (.const (.int .i64 4))) (some (.const (.int .i64 4))) rfl rfl v cs rfl h 0 4 ⟨Or.inl ⟨rfl, rfl⟩, Or.inr ⟨_, rfl, rfl, Or.inr rfl⟩, by decide, by omega⟩ ?_; intro v1 s1)
  | (go_at_call 94; refine (value_any v1 (cs.take 4) w s1 (by simp; omega)).mono ?_; rintro e w' ⟨rfl, rfl⟩; rw [show Frame.val (cs.take 4) = n from hn.out])
  | (refine wpList_len (.tmp 16) rfl rfl v cs rfl h ?_))
 refine wp_region_held (S := TakeS w va vb ((cs.take (5 + n + 4)).drop (5 + n)) (cs.take (5 + n))) (by kernel_rfl) ?_
 show wpAnyH _ _ _ _ _ 13 (Array.replicate 13 false) _ _
 have hS : TakeS w va vb ((cs.take (5 + n + 4)).drop (5 + n)) (cs.take (5 + n)) { w with drawn := w.drawn + 1 } := ⟨HSa.out.later (below_drawn w _), HSb.out.later (below_drawn w _), below_drawn w _⟩
 refine tH 0 27 rfl rfl (yMove rfl (.tmp 0) rfl v rfl) hS ?_
 refine tH 1 28 rfl rfl (yMove rfl (.tmp 7) rfl (.int .i64 (5 + (n : Int))) rfl) hS ?_
 refine tH 2 29 rfl rfl (yMove rfl (.tmp 8) rfl (.int .i64 (5 + (n : Int) + 4)) rfl) hS ?_
 refine tH 3 30 rfl rfl (yMove rfl (.tmp 8) rfl (.int .i64 (5 + (n : Int) + 4)) rfl) hS ?_
 simp only [Act.put, aS, aC, aZ]
 refine tH 4 31 rfl rfl (ySub rfl (.tmp 27) (some (.tmp 28)) (some (.tmp 29)) (some (.tmp 30)) rfl v va rfl HA.out) hS ?_
 refine tH 6 33 rfl rfl (yMove rfl (.tmp 0) rfl v rfl) hS ?_
 refine tH 7 34 rfl rfl (yMove rfl (.tmp 7) rfl (.int .i64 (5 + (n : Int))) rfl) hS ?_
 refine tH 8 35 rfl rfl (yMove rfl (.tmp 7) rfl (.int .i64 (5 + (n : Int))) rfl) hS ?_
 simp only [Act.put, aS, aC, aZ]
 refine tH 9 36 rfl rfl (ySub rfl (.tmp 33) none (some (.tmp 34)) (some (.tmp 35)) rfl v vb rfl HBr.out) hS ?_
 simp only [Act.put, aS, aC, aZ]
 refine oneH (i := 5) (by kernel_rfl) ?_
 refine opCallA (some 32) rfl rfl rfl 94 _ (run_call en23 [.tmp 31] _ rfl [va] rfl) ?_
 refine (value_any va ((cs.take (5 + n + 4)).drop (5 + n)) _ hS.1 (by simp; omega)).mono ?_
 rintro e w1 ⟨rfl, hw1⟩
 rw [← hw1, hs.out]
 refine ⟨_, rfl, hS, ?_⟩
 clear hw1
 simp only [Act.put, aS, aC, aZ]
 refine oneH (i := 10) (by kernel_rfl) ?_
 refine opCallA (some 37) rfl rfl rfl 75 _ (run_call en21 [.tmp 36] _ rfl [vb] rfl) ?_
 refine (sum_any vb (cs.take (5 + n)) _ hS.2.1 (ht.later (below_drawn w _))).mono ?_
 rintro e w1 ⟨rfl, hw1⟩
 rw [← hw1, hv.out]
 refine ⟨_, rfl, hS, ?_⟩
 clear hw1
 simp only [Act.put, aS, aC, aZ]
 refine tH 11 38 rfl rfl (yConv rfl (.tmp 37) rfl t hst rfl) hS ?_
 refine tH 12 39 rfl rfl (yNeq rfl (.tmp 32) (.tmp 38) rfl s t rfl rfl) hS ?_
 simp only [Act.put, aS, aC, aZ]
 refine wpAnyH_done (by kernel_rfl) ?_ _
 clear hS
 have hd : ((s : Int) != (t : Int)) = false := by simp [heq]
 clear heq
 rw [hd]
 generalize hw0 : ({ w with drawn := w.drawn + 1 } : World) = w0
 have HB0 : Hid (Below w.heap.size w w0) := hw0 ▸ below_drawn w _
 have h0 := h.later HB0.out
 clear HA HBr HSa HSb hw0
 go_wp2
 obtain ⟨vc, rc, sc⟩ := sub_lh h0 5 (5 + n) (by omega) (by omega)
 obtain ⟨vd, rd, sd⟩ := sub_l h0 (5 + n + 4) (by omega)
 rw [show ((5 + n : Nat) : Int) = 5 + (n : Int) by omega, show ((5 : Nat) : Int) = 5 from rfl] at rc
 rw [show ((5 + n + 4 : Nat) : Int) = 5 + (n : Int) + 4 by omega] at rd
 obtain ⟨b, j, ri, ci⟩ := run_index h0 4 (by omega)
 rw [show ((4 : Nat) : Int) = 4 from rfl] at ri
 have hlt : b < w0.heap.size := block_lt_of_cell ci
 rw [hc.out] at ci
 refine wp_region_held (S := UnS w0 b j c vc vd ((cs.take (5 + n)).drop 5) (cs.drop (5 + n + 4))) (by kernel_rfl) ?_
 show wpAnyH _ _ _ _ _ 16 (Array.replicate 16 false) _ _
 have hS : UnS w0 b j c vc vd ((cs.take (5 + n)).drop 5) (cs.drop (5 + n + 4)) { w0 with drawn := w0.drawn + 1 } := ⟨ci, sc.later (below_drawn w0 _), sd.later (below_drawn w0 _), below_drawn w0 _⟩
 refine tH 0 40 rfl rfl (yMove rfl (.tmp 0) rfl v rfl) hS ?_
 refine tH 1 41 rfl rfl (yIndex rfl (.tmp 40) (.const (.int .i64 4)) rfl v rfl (.int .i64 4) rfl (.pointer (some ⟨b, j, none⟩)) ri) hS ?_
 refine tH 2 42 rfl rfl (yLoad rfl (.tmp 41) rfl b j rfl c (fun W hW => hW.1)) hS ?_
 refine tH 3 43 rfl rfl (yMove rfl (.tmp 0) rfl v rfl) hS ?_
 simp only [Act.put, aS, aC, aZ]
 refine tH 4 44 rfl rfl (yMove rfl (.tmp 7) rfl (.int .i64 (5 + (n : Int))) rfl) hS ?_
 refine tH 5 45 rfl rfl (yMove rfl (.tmp 7) rfl (.int .i64 (5 + (n : Int))) rfl) hS ?_
 refine tH 6 46 rfl rfl (ySub rfl (.tmp 43) (some (.const (.int .i64 5))) (some (.tmp 44)) (some (.tmp 45)) rfl v vc rfl rc) hS ?_
 refine tH 8 48 rfl rfl (yMove rfl (.tmp 0) rfl v rfl) hS ?_
 simp only [Act.put, aS, aC, aZ]
 refine tH 9 49 rfl rfl (yMove rfl (.tmp 8) rfl (.int .i64 (5 + (n : Int) + 4)) rfl) hS ?_
 refine tH 10 50 rfl rfl (ySub rfl (.tmp 48) (some (.tmp 49)) none none rfl v vd rfl rd) hS ?_
 simp only [Act.put, aS, aC, aZ]
 refine oneH (i := 7) (by kernel_rfl) ?_
 refine opCallA (some 47) rfl rfl rfl 93 _ (run_call en24 [.tmp 46] _ rfl [vc] rfl) ?_
 refine (told_any vc ((cs.take (5 + n)).drop 5) _ hS.2.1 (by simp; omega)).mono ?_
 rintro e w2 ⟨v2, rfl, o2, b2⟩
 have hS2 : UnS w0 b j c vc vd ((cs.take (5 + n)).drop 5) (cs.drop (5 + n + 4)) w2 := ⟨by rw [b2.cell (p := ⟨b, j, none⟩) hlt]; exact hS.1, hS.2.1.later b2, hS.2.2.1.later b2, below_append hS.2.2.2 b2⟩
 have O2 : Hid (BOwn w2 w0.heap.size v2 ((cs.take (5 + n)).drop 5)) := o2.weaken hS.2.2.2.size
 refine ⟨_, rfl, hS2, ?_⟩
 clear hS o2 b2
 simp only [Act.put, aS, aC, aZ]
 refine oneH (i := 11) (by kernel_rfl) ?_
 refine opCallA (some 51) rfl rfl rfl 93 _ (run_call en24 [.tmp 50] _ rfl [vd] rfl) ?_
 refine (told_any vd (cs.drop (5 + n + 4)) _ hS2.2.2.1 (by simp; omega)).mono ?_
 rintro e w3 ⟨v3, rfl, o3, b3⟩
 have hS3 : UnS w0 b j c vc vd ((cs.take (5 + n)).drop 5) (cs.drop (5 + n + 4)) w3 := ⟨by rw [b3.cell (p := ⟨b, j, none⟩) (Nat.lt_of_lt_of_le hlt hS2.2.2.2.size)]; exact hS2.1, hS2.2.1.later b3, hS2.2.2.1.later b3, below_append hS2.2.2.2 b3⟩
 have O3 : Hid (BOwn w3 w0.heap.size v3 (cs.drop (5 + n + 4))) := o3.weaken hS2.2.2.2.size
 have O23 : Hid (BOwn w3 w0.heap.size v2 ((cs.take (5 + n)).drop 5)) := O2.out.later b3 (Nat.le_refl _)
 have AP : Hid (v3.ownBlock = none ∨ v3.ownBlock ≠ v2.ownBlock) := O2.out.apart' o3 (Nat.le_refl _)
 refine ⟨_, rfl, hS3, ?_⟩
 clear hS2 o3 b3 O2
 simp only [Act.put, aS, aC, aZ]
 refine tH 12 2 rfl rfl (yAssign rfl (.tmp 42) rfl (.int .u8 (c : Nat)) rfl) hS3 ?_
 refine tH 13 3 rfl rfl (yAssign rfl (.tmp 47) rfl v2 rfl) hS3 ?_
 refine tH 14 4 rfl rfl (yAssign rfl (.tmp 51) rfl v3 rfl) hS3 ?_
 refine tH 15 5 rfl rfl (yAssign rfl (.const (.int .i64 0)) rfl (.int .i64 0) rfl) hS3 ?_
 simp only [Act.put, aS, aC, aZ]
 refine wpAnyH_done (by kernel_rfl) ?_ _
 have B3 : Hid (Below w.heap.size w w3) := below_append HB0.out hS3.2.2.2
 clear hS3 rc rd ri sc sd ci hlt
 go_wp2
 refine bodyPost_ret (results_tmp4 rfl _ _ _) rfl ?_
 exact ⟨v2, v3, rfl, O23.out.weaken HB0.out.size, O3.out.weaken HB0.out.size, AP.out, B3.out⟩

/-- UNPACK -/
theorem unpack_any (v : Value) (cs : List Nat) (w : World) (h : SliceIn w v cs) (ht : TabIn w) (hsz : cs.length ≤ 281474976710656) :
  Calls Tryd.prog 79 #[v] w fun e w' => ∃ vp vr, e = .returned (.tuple #[.int .u8 (Frame.kindOf cs : Nat), vp, vr, .int .i64 (Frame.errOf cs : Nat)]) ∧ BOwn w' w.heap.size vp (Frame.payOf cs) ∧ BOwn w' w.heap.size vr (Frame.restOf cs) ∧ (vr.ownBlock = none ∨ vr.ownBlock ≠ vp.ownBlock) ∧ Below w.heap.size w w' := by
 have bad : Frame.okB cs = false → ∀ (e : Ending) (w' : World), e = .returned (.tuple #[.int .u8 0, .slice none 0 0, .slice none 0 0, .int .i64 40]) → Below w.heap.size w w' → ∃ vp vr, e = .returned (.tuple #[.int .u8 (Frame.kindOf cs : Nat), vp, vr, .int .i64 (Frame.errOf cs : Nat)]) ∧ BOwn w' w.heap.size vp (Frame.payOf cs) ∧ BOwn w' w.heap.size vr (Frame.restOf cs) ∧ (vr.ownBlock = none ∨ vr.ownBlock ≠ vp.ownBlock) ∧ Below w.heap.size w w' := by
  rintro ho e w' rfl hb
  unfold Frame.kindOf Frame.errOf Frame.payOf Frame.restOf
  rw [ho]
  exact ⟨_, _, rfl, BOwn.nil _ _, BOwn.nil _ _, Or.inl rfl, hb⟩
 by_cases h9 : 9 ≤ cs.length
 ·by_cases hf : Frame.lenOf cs + 9 ≤ cs.length
  ·by_cases hs : Frame.val ((cs.take (5 + Frame.lenOf cs + 4)).drop (5 + Frame.lenOf cs)) = Frame.crc (cs.take (5 + Frame.lenOf cs))
   ·have ho : Frame.okB cs = true := decide_eq_true ⟨h9, by omega, hs⟩
    refine (unpack_right v cs (Frame.lenOf cs) w h ht h9 rfl (Frame.lenOf_lt cs h.mem) hf hsz _ _ rfl rfl (Frame.crc_lt _) hs (cs.getD 4 0) rfl).mono ?_
    rintro e w' ⟨vp, vr, rfl, h1, h2, h3, h4⟩
    unfold Frame.kindOf Frame.errOf Frame.payOf Frame.restOf
    rw [ho]
    exact ⟨vp, vr, rfl, h1, h2, h3, h4⟩
   ·have ho : Frame.okB cs = false := decide_eq_false fun h => hs h.2.2
    exact (unpack_wrong v cs (Frame.lenOf cs) w h ht h9 rfl (Frame.lenOf_lt cs h.mem) hf hsz _ _ rfl rfl (Frame.crc_lt _) hs).mono fun e w' h => bad ho e w' h.1 h.2
  ·have ho : Frame.okB cs = false := decide_eq_false fun h => hf (by omega)
   exact (unpack_far v cs (Frame.lenOf cs) w h h9 rfl (by omega) hsz).mono fun e w' h => bad ho e w' h.1 (h.2 ▸ Below.refl _ _)
 ·have ho : Frame.okB cs = false := decide_eq_false fun h => h9 h.1
  exact (unpack_short v cs w h (by omega)).mono fun e w' h => bad ho e w' h.1 (h.2 ▸ Below.refl _ _)
end Go.Proofs.YthgidfoidbgnaaaDoor.Fr

/- The law FrameTurned, walked out of its callees' contracts. -/
import Derived.Test.YtflabbladikhbaaDoorBack
namespace Go.Proofs.YtflabbladikhbaaDoor
open Go.RowKit

namespace Frame
theorem crc_set (cs : List Nat) (p x : Nat) (hp : p < cs.length) (hx : x < 256) (h0 : x ≠ 0) : crc (cs.set p (cs.getD p 0 ^^^ x)) ≠ crc cs := by
  intro he
  have h1 : Crc.more 0#32 (cs.set p (cs.getD p 0 ^^^ x)) = Crc.more 0#32 cs := BitVec.eq_of_toNat_eq he
  unfold Crc.more at h1
  rw [Crc.run_set cs _ p x hp] at h1
  have h2 := congrArg (fun y => ~~~ y) h1
  simp only [BitVec.not_not] at h2
  have h3 := congrArg (fun y => Crc.run (~~~ 0#32) cs ^^^ y) h2
  simp only [← BitVec.xor_assoc, BitVec.xor_self, BitVec.zero_xor] at h3
  have h4 := Crc.steps_inj0 _ _ h3
  have h5 := congrArg BitVec.toNat h4
  rw [BitVec.toNat_ofNat] at h5
  simp at h5
  omega
theorem val_inj (xs ys : List Nat) (hl : xs.length = ys.length) (hx : ∀ c ∈ xs, c < 256) (hy : ∀ c ∈ ys, c < 256) (h : val xs = val ys) : xs = ys := by
  rw [← be_val xs hx, ← be_val ys hy, h, hl]
theorem xor_ne (a x : Nat) (h0 : x ≠ 0) : a ^^^ x ≠ a := by
  intro h
  have : (a ^^^ x) ^^^ a = 0 := by rw [h, Nat.xor_self]
  rw [Nat.xor_comm a x, Nat.xor_assoc, Nat.xor_self, Nat.xor_zero] at this
  exact h0 this
theorem xor_lt (a x : Nat) (ha : a < 256) (hx : x < 256) : a ^^^ x < 256 := by
  have := Nat.xor_lt_two_pow (n := 8) ha hx
  simpa using this
/-- A TURNED BYTE -/
theorem turned (kind : Nat) (cs : List Nat) (hk : kind < 256) (h : ∀ c ∈ cs, c < 256) (hsz : cs.length < 4294967296) (p x : Nat) (hp4 : 4 ≤ p) (hp : p < cs.length + 9) (hx : x < 256) (h0 : x ≠ 0) :
    okB ((pack kind cs).set p ((pack kind cs).getD p 0 ^^^ x)) = false := by
  have hpl := pack_length kind cs
  obtain ⟨hok, hl⟩ := okB_pack kind cs [] hsz
  rw [List.append_nil] at hok hl
  have hlt := pack_lt kind cs hk h
  generalize pack kind cs = P at *
  have hok' := hok
  unfold okB at hok'
  obtain ⟨_, _, hs⟩ := of_decide_eq_true hok'
  rw [hl] at hs
  have hle : lenOf (P.set p (P.getD p 0 ^^^ x)) = cs.length := by
    rw [← hl]
    unfold lenOf
    rw [List.take_set_of_le hp4]
  unfold okB
  rw [hle]
  apply decide_eq_false
  rintro ⟨_, _, hs'⟩
  by_cases hb : p < 5 + cs.length
  · have e1 : ((P.set p (P.getD p 0 ^^^ x)).take (5 + cs.length + 4)).drop (5 + cs.length) = (P.take (5 + cs.length + 4)).drop (5 + cs.length) := by
      rw [List.take_set, List.drop_set_of_lt hb]
    have e2 : (P.set p (P.getD p 0 ^^^ x)).take (5 + cs.length) = (P.take (5 + cs.length)).set p ((P.take (5 + cs.length)).getD p 0 ^^^ x) := by
      rw [List.take_set]
      congr 2
      rw [List.getD_eq_getElem?_getD, List.getD_eq_getElem?_getD, List.getElem?_take, if_pos hb]
    rw [e1, e2, hs] at hs'
    exact crc_set (P.take (5 + cs.length)) p x (by simp; omega) hx h0 hs'.symm
  · have e1 : (P.set p (P.getD p 0 ^^^ x)).take (5 + cs.length) = P.take (5 + cs.length) := by
      rw [List.take_set_of_le (by omega)]
    rw [e1, ← hs] at hs'
    have e2 := val_inj _ _ (by simp) (fun c hc => by
      have hm := List.mem_of_mem_take (List.mem_of_mem_drop hc)
      rcases List.mem_or_eq_of_mem_set hm with hm | rfl
      · exact hlt c hm
      · exact xor_lt _ _ (getD_lt hlt p) hx) (fun c hc => hlt c (List.mem_of_mem_take (List.mem_of_mem_drop hc))) hs'
    have e3 := congrArg (fun l => l[p - (5 + cs.length)]?) e2
    simp only [List.getElem?_drop] at e3
    rw [show 5 + cs.length + (p - (5 + cs.length)) = p by omega, List.getElem?_take, List.getElem?_take, if_pos (by omega), if_pos (by omega), List.getElem?_set_self (by omega)] at e3
    have e4 : P[p]? = some (P.getD p 0) := by
      rw [List.getD_eq_getElem?_getD, List.getElem?_eq_getElem (by omega)]
      rfl
    rw [e4] at e3
    exact xor_ne _ _ h0 (Option.some.inj e3)
theorem set_same (P : List Nat) (p : Nat) (hp : p < P.length) : P.set p (P.getD p 0 ^^^ 0) = P := by
  rw [Nat.xor_zero]
  apply List.ext_getElem?
  intro i
  by_cases h : p = i
  · subst h
    rw [List.getElem?_set_self hp, List.getD_eq_getElem?_getD, List.getElem?_eq_getElem hp]
    rfl
  · rw [List.getElem?_set_ne h]
end Frame

theorem u8_xor (a b : Nat) (ha : a < 256) (hb : b < 256) : bits BinOp.xor IntKind.u8 (a : Int) (b : Int) = ((a ^^^ b : Nat) : Int) := u8_xor_nat a b ha hb
set_option maxHeartbeats 2000000 in
theorem turned_pos0 (kind : Nat) (hk : kind < 256) (v : Value) (cs : List Nat) (at_ : Int) (w : World) (h : SliceIn w v cs) (ht : TabIn w) (hsz : cs.length ≤ 1048576) (ha : 0 ≤ at_) (ha' : at_ ≤ 9223372036854775807) (r : Nat) (hr : at_ % ((cs.length : Int) + 9 - 4) = (r : Int)) (hrl : r < cs.length + 5) :
    Calls Tryd.prog 8 #[.int .u8 (kind : Nat), v, .int .i64 at_, .int .u8 0] w fun e w' => e = .returned (.bool true) ∧ Below w.heap.size w w' := by
  have HPL : Hid (((Frame.pack kind cs).length : Int) = (cs.length : Int) + 9) := by show _ = _; rw [Frame.pack_length]; omega
  have HPM : Hid (∀ c ∈ Frame.pack kind cs, c < 256) := Frame.pack_lt kind cs hk h.mem
  have HK : Hid (4 + r < (Frame.pack kind cs).length) := by show _ < _; rw [Frame.pack_length]; omega
  obtain ⟨c, hc0⟩ : ∃ c, (Frame.pack kind cs).getD (4 + r) 0 = c := ⟨_, rfl⟩
  have HC : Hid ((Frame.pack kind cs).getD (4 + r) 0 = c) := hc0
  have hcl : c < 256 := hc0 ▸ Frame.getD_lt HPM.out _
  obtain ⟨y, hy⟩ : ∃ y, c ^^^ 0 = y := ⟨_, rfl⟩
  have hxor : bits BinOp.xor IntKind.u8 (c : Int) 0 = (y : Int) := by rw [← hy]; exact u8_xor c 0 hcl (by omega)
  have HY : Hid ((Frame.pack kind cs).set (4 + r) y = Frame.pack kind cs) := by
    show _ = _
    rw [← hy, ← hc0]
    exact Frame.set_same _ _ HK.out
  clear hc0 hy
  go_enter Tryd.func8, Tryd.ntmps8
  go_wp2_with fail
  refine (shown_any w ht).mono ?_
  rintro e w1 ⟨rfl, b1⟩
  have B1 : Hid (Below w.heap.size w w1) := b1
  clear b1
  go_wp2_with fail
  refine (pack_any kind hk v cs w1 (h.later B1.out) (ht.later B1.out) (by omega)).mono ?_
  rintro e w2 ⟨vx, rfl, ox, b2⟩
  have OX : Hid (BOwn w2 w1.heap.size vx (Frame.pack kind cs)) := ox
  have hx0 := ox.slice HPM.out
  have B2 : Hid (Below w1.heap.size w1 w2) := b2
  clear ox b2
  go_wp2_with (first
    | (refine wpList_len (.tmp 21) rfl rfl vx (Frame.pack kind cs) rfl hx0 ?_; rw [HPL.out])
    | (refine wpList_len (.tmp 23) rfl rfl v cs rfl h ?_)
    | (refine wpList_len (.tmp 33) rfl rfl vx (Frame.pack kind cs) rfl hx0 ?_; rw [HPL.out])
    | (refine wpList_index (.tmp 40) (.tmp 41) rfl rfl vx (Frame.pack kind cs) rfl hx0 (4 + r) HK.out _ rfl (by omega) ?_; intro b j _ _ hc; rw [HC.out] at hc)
    | (refine wpList_indexOwn (.tmp 38) (.tmp 39) rfl rfl w1.heap.size vx (Frame.pack kind cs) rfl OX.out HPM.out (4 + r) HK.out _ rfl (by omega) ?_; intro g hg hf HS; rw [HC.out] at hg))
  have B3 : Hid (Below w1.heap.size w1 (w2.setCell ⟨g, 4 + r, none⟩ (.int .u8 (y : Nat)))) := B2.out.trans (OX.out.below (HS.out y).2 B2.out.size)
  have S3 : Hid (SliceIn (w2.setCell ⟨g, 4 + r, none⟩ (.int .u8 (y : Nat))) vx (Frame.pack kind cs ++ [])) := by
    have o3 := (HS.out y).1
    rw [HY.out] at o3
    rw [List.append_nil]
    exact o3.slice HPM.out
  refine (unpackPacked vx kind cs [] _ S3.out (ht.later (below_append B1.out B3.out)) (by rw [List.append_nil, Frame.pack_length]; omega)).mono ?_
  rintro e w4 ⟨vp, vr, rfl, sp, sr, b4⟩
  have SP : Hid (SliceIn w4 vp cs) := sp
  have B4 : Hid (Below w.heap.size w w4) := below_append (below_append B1.out B3.out) b4
  clear sp sr b4 S3 B3 HS hf hg hc hx0 OX
  go_wp2_with (go_at_call_of 12 vp; refine (sameEx vp v cs w4 SP.out (h.later B4.out)).mono ?_; rintro e w' ⟨rfl, rfl⟩)
  go_ret
  exact ⟨rfl, B4.out⟩
set_option maxHeartbeats 2000000 in
theorem turned_posx (kind : Nat) (hk : kind < 256) (v : Value) (cs : List Nat) (at_ : Int) (by_ : Nat) (hby : by_ < 256) (h0 : by_ ≠ 0) (w : World) (h : SliceIn w v cs) (ht : TabIn w) (hsz : cs.length ≤ 1048576) (ha : 0 ≤ at_) (ha' : at_ ≤ 9223372036854775807) (r : Nat) (hr : at_ % ((cs.length : Int) + 9 - 4) = (r : Int)) (hrl : r < cs.length + 5) :
    Calls Tryd.prog 8 #[.int .u8 (kind : Nat), v, .int .i64 at_, .int .u8 (by_ : Nat)] w fun e w' => e = .returned (.bool true) ∧ Below w.heap.size w w' := by
  have HPL : Hid (((Frame.pack kind cs).length : Int) = (cs.length : Int) + 9) := by show _ = _; rw [Frame.pack_length]; omega
  have HPM : Hid (∀ c ∈ Frame.pack kind cs, c < 256) := Frame.pack_lt kind cs hk h.mem
  have HK : Hid (4 + r < (Frame.pack kind cs).length) := by show _ < _; rw [Frame.pack_length]; omega
  obtain ⟨c, hc0⟩ : ∃ c, (Frame.pack kind cs).getD (4 + r) 0 = c := ⟨_, rfl⟩
  have HC : Hid ((Frame.pack kind cs).getD (4 + r) 0 = c) := hc0
  have hcl : c < 256 := hc0 ▸ Frame.getD_lt HPM.out _
  obtain ⟨y, hy⟩ : ∃ y, c ^^^ by_ = y := ⟨_, rfl⟩
  have hxor : bits BinOp.xor IntKind.u8 (c : Int) (by_ : Nat) = (y : Int) := by rw [← hy]; exact u8_xor c by_ hcl (by omega)
  have HY : Hid (Frame.okB ((Frame.pack kind cs).set (4 + r) y) = false) := by
    show _ = _
    rw [← hy, ← hc0]
    exact Frame.turned kind cs hk h.mem (by omega) (4 + r) by_ (by omega) (by omega) hby h0
  have HYM : Hid ((∀ c ∈ (Frame.pack kind cs).set (4 + r) y, c < 256) ∧ ((Frame.pack kind cs).set (4 + r) y).length ≤ 2000000) := by
    refine ⟨fun c' hc' => ?_, by rw [List.length_set, Frame.pack_length]; omega⟩
    rcases List.mem_or_eq_of_mem_set hc' with hm | rfl
    · exact HPM.out _ hm
    · rw [← hy]
      exact Frame.xor_lt _ _ hcl hby
  have hz : ((by_ : Int) == 0) = false := by simpa using h0
  have hz' : decide ((by_ : Int) = 0) = false := by simpa using h0
  clear hc0 hy
  go_enter Tryd.func8, Tryd.ntmps8
  go_wp2_with fail
  refine (shown_any w ht).mono ?_
  rintro e w1 ⟨rfl, b1⟩
  have B1 : Hid (Below w.heap.size w w1) := b1
  clear b1
  go_wp2_with fail
  refine (pack_any kind hk v cs w1 (h.later B1.out) (ht.later B1.out) (by omega)).mono ?_
  rintro e w2 ⟨vx, rfl, ox, b2⟩
  have OX : Hid (BOwn w2 w1.heap.size vx (Frame.pack kind cs)) := ox
  have hx0 := ox.slice HPM.out
  have B2 : Hid (Below w1.heap.size w1 w2) := b2
  clear ox b2
  go_wp2_with (first
    | (refine wpList_len (.tmp 21) rfl rfl vx (Frame.pack kind cs) rfl hx0 ?_; rw [HPL.out])
    | (refine wpList_len (.tmp 23) rfl rfl v cs rfl h ?_)
    | (refine wpList_len (.tmp 33) rfl rfl vx (Frame.pack kind cs) rfl hx0 ?_; rw [HPL.out])
    | (refine wpList_index (.tmp 40) (.tmp 41) rfl rfl vx (Frame.pack kind cs) rfl hx0 (4 + r) HK.out _ rfl (by omega) ?_; intro b j _ _ hc; rw [HC.out] at hc)
    | (refine wpList_indexOwn (.tmp 38) (.tmp 39) rfl rfl w1.heap.size vx (Frame.pack kind cs) rfl OX.out HPM.out (4 + r) HK.out _ rfl (by omega) ?_; intro g hg hf HS; rw [HC.out] at hg))
  have B3 : Hid (Below w1.heap.size w1 (w2.setCell ⟨g, 4 + r, none⟩ (.int .u8 (y : Nat)))) := B2.out.trans (OX.out.below (HS.out y).2 B2.out.size)
  refine (unpackBad vx _ _ ((HS.out y).1.slice HYM.out.1) (ht.later (below_append B1.out B3.out)) (by have := HYM.out.2; omega) HY.out).mono ?_
  rintro e w4 ⟨vp, vr, rfl, sp, sr, b4⟩
  have B4 : Hid (Below w.heap.size w w4) := below_append (below_append B1.out B3.out) b4
  clear b4 B3 HS hf hg hc hx0 OX
  go_wp2_with (first
    | (refine wpList_len (.tmp 81) rfl rfl vp [] rfl sp ?_)
    | (refine wpList_len (.tmp 86) rfl rfl vr [] rfl sr ?_))
  go_ret
  exact ⟨rfl, B4.out⟩
set_option maxHeartbeats 2000000 in
theorem turned_neg0 (kind : Nat) (hk : kind < 256) (v : Value) (cs : List Nat) (at_ : Int) (w : World) (h : SliceIn w v cs) (ht : TabIn w) (hsz : cs.length ≤ 1048576) (ha : at_ < 0) (ha' : -9223372036854775808 ≤ at_) (r : Nat) (hr : -((at_ + 1).tmod ((cs.length : Int) + 9 - 4)) = (r : Int)) (hrl : r < cs.length + 5) :
    Calls Tryd.prog 8 #[.int .u8 (kind : Nat), v, .int .i64 at_, .int .u8 0] w fun e w' => e = .returned (.bool true) ∧ Below w.heap.size w w' := by
  have HPL : Hid (((Frame.pack kind cs).length : Int) = (cs.length : Int) + 9) := by show _ = _; rw [Frame.pack_length]; omega
  have HPM : Hid (∀ c ∈ Frame.pack kind cs, c < 256) := Frame.pack_lt kind cs hk h.mem
  have HK : Hid (4 + r < (Frame.pack kind cs).length) := by show _ < _; rw [Frame.pack_length]; omega
  obtain ⟨c, hc0⟩ : ∃ c, (Frame.pack kind cs).getD (4 + r) 0 = c := ⟨_, rfl⟩
  have HC : Hid ((Frame.pack kind cs).getD (4 + r) 0 = c) := hc0
  have hcl : c < 256 := hc0 ▸ Frame.getD_lt HPM.out _
  obtain ⟨y, hy⟩ : ∃ y, c ^^^ 0 = y := ⟨_, rfl⟩
  have hxor : bits BinOp.xor IntKind.u8 (c : Int) 0 = (y : Int) := by rw [← hy]; exact u8_xor c 0 hcl (by omega)
  have HY : Hid ((Frame.pack kind cs).set (4 + r) y = Frame.pack kind cs) := by
    show _ = _
    rw [← hy, ← hc0]
    exact Frame.set_same _ _ HK.out
  clear hc0 hy
  go_enter Tryd.func8, Tryd.ntmps8
  go_wp2_with fail
  refine (shown_any w ht).mono ?_
  rintro e w1 ⟨rfl, b1⟩
  have B1 : Hid (Below w.heap.size w w1) := b1
  clear b1
  go_wp2_with fail
  refine (pack_any kind hk v cs w1 (h.later B1.out) (ht.later B1.out) (by omega)).mono ?_
  rintro e w2 ⟨vx, rfl, ox, b2⟩
  have OX : Hid (BOwn w2 w1.heap.size vx (Frame.pack kind cs)) := ox
  have hx0 := ox.slice HPM.out
  have B2 : Hid (Below w1.heap.size w1 w2) := b2
  clear ox b2
  go_wp2_with (first
    | (refine wpList_len (.tmp 21) rfl rfl vx (Frame.pack kind cs) rfl hx0 ?_; rw [HPL.out])
    | (refine wpList_len (.tmp 23) rfl rfl v cs rfl h ?_)
    | (refine wpList_len (.tmp 33) rfl rfl vx (Frame.pack kind cs) rfl hx0 ?_; rw [HPL.out])
    | (refine wpList_index (.tmp 40) (.tmp 41) rfl rfl vx (Frame.pack kind cs) rfl hx0 (4 + r) HK.out _ rfl (by omega) ?_; intro b j _ _ hc; rw [HC.out] at hc)
    | (refine wpList_indexOwn (.tmp 38) (.tmp 39) rfl rfl w1.heap.size vx (Frame.pack kind cs) rfl OX.out HPM.out (4 + r) HK.out _ rfl (by omega) ?_; intro g hg hf HS; rw [HC.out] at hg))
  have B3 : Hid (Below w1.heap.size w1 (w2.setCell ⟨g, 4 + r, none⟩ (.int .u8 (y : Nat)))) := B2.out.trans (OX.out.below (HS.out y).2 B2.out.size)
  have S3 : Hid (SliceIn (w2.setCell ⟨g, 4 + r, none⟩ (.int .u8 (y : Nat))) vx (Frame.pack kind cs ++ [])) := by
    have o3 := (HS.out y).1
    rw [HY.out] at o3
    rw [List.append_nil]
    exact o3.slice HPM.out
  refine (unpackPacked vx kind cs [] _ S3.out (ht.later (below_append B1.out B3.out)) (by rw [List.append_nil, Frame.pack_length]; omega)).mono ?_
  rintro e w4 ⟨vp, vr, rfl, sp, sr, b4⟩
  have SP : Hid (SliceIn w4 vp cs) := sp
  have B4 : Hid (Below w.heap.size w w4) := below_append (below_append B1.out B3.out) b4
  clear sp sr b4 S3 B3 HS hf hg hc hx0 OX
  go_wp2_with (go_at_call_of 12 vp; refine (sameEx vp v cs w4 SP.out (h.later B4.out)).mono ?_; rintro e w' ⟨rfl, rfl⟩)
  go_ret
  exact ⟨rfl, B4.out⟩
set_option maxHeartbeats 2000000 in
theorem turned_negx (kind : Nat) (hk : kind < 256) (v : Value) (cs : List Nat) (at_ : Int) (by_ : Nat) (hby : by_ < 256) (h0 : by_ ≠ 0) (w : World) (h : SliceIn w v cs) (ht : TabIn w) (hsz : cs.length ≤ 1048576) (ha : at_ < 0) (ha' : -9223372036854775808 ≤ at_) (r : Nat) (hr : -((at_ + 1).tmod ((cs.length : Int) + 9 - 4)) = (r : Int)) (hrl : r < cs.length + 5) :
    Calls Tryd.prog 8 #[.int .u8 (kind : Nat), v, .int .i64 at_, .int .u8 (by_ : Nat)] w fun e w' => e = .returned (.bool true) ∧ Below w.heap.size w w' := by
  have HPL : Hid (((Frame.pack kind cs).length : Int) = (cs.length : Int) + 9) := by show _ = _; rw [Frame.pack_length]; omega
  have HPM : Hid (∀ c ∈ Frame.pack kind cs, c < 256) := Frame.pack_lt kind cs hk h.mem
  have HK : Hid (4 + r < (Frame.pack kind cs).length) := by show _ < _; rw [Frame.pack_length]; omega
  obtain ⟨c, hc0⟩ : ∃ c, (Frame.pack kind cs).getD (4 + r) 0 = c := ⟨_, rfl⟩
  have HC : Hid ((Frame.pack kind cs).getD (4 + r) 0 = c) := hc0
  have hcl : c < 256 := hc0 ▸ Frame.getD_lt HPM.out _
  obtain ⟨y, hy⟩ : ∃ y, c ^^^ by_ = y := ⟨_, rfl⟩
  have hxor : bits BinOp.xor IntKind.u8 (c : Int) (by_ : Nat) = (y : Int) := by rw [← hy]; exact u8_xor c by_ hcl (by omega)
  have HY : Hid (Frame.okB ((Frame.pack kind cs).set (4 + r) y) = false) := by
    show _ = _
    rw [← hy, ← hc0]
    exact Frame.turned kind cs hk h.mem (by omega) (4 + r) by_ (by omega) (by omega) hby h0
  have HYM : Hid ((∀ c ∈ (Frame.pack kind cs).set (4 + r) y, c < 256) ∧ ((Frame.pack kind cs).set (4 + r) y).length ≤ 2000000) := by
    refine ⟨fun c' hc' => ?_, by rw [List.length_set, Frame.pack_length]; omega⟩
    rcases List.mem_or_eq_of_mem_set hc' with hm | rfl
    · exact HPM.out _ hm
    · rw [← hy]
      exact Frame.xor_lt _ _ hcl hby
  have hz : ((by_ : Int) == 0) = false := by simpa using h0
  have hz' : decide ((by_ : Int) = 0) = false := by simpa using h0
  clear hc0 hy
  go_enter Tryd.func8, Tryd.ntmps8
  go_wp2_with fail
  refine (shown_any w ht).mono ?_
  rintro e w1 ⟨rfl, b1⟩
  have B1 : Hid (Below w.heap.size w w1) := b1
  clear b1
  go_wp2_with fail
  refine (pack_any kind hk v cs w1 (h.later B1.out) (ht.later B1.out) (by omega)).mono ?_
  rintro e w2 ⟨vx, rfl, ox, b2⟩
  have OX : Hid (BOwn w2 w1.heap.size vx (Frame.pack kind cs)) := ox
  have hx0 := ox.slice HPM.out
  have B2 : Hid (Below w1.heap.size w1 w2) := b2
  clear ox b2
  go_wp2_with (first
    | (refine wpList_len (.tmp 21) rfl rfl vx (Frame.pack kind cs) rfl hx0 ?_; rw [HPL.out])
    | (refine wpList_len (.tmp 23) rfl rfl v cs rfl h ?_)
    | (refine wpList_len (.tmp 33) rfl rfl vx (Frame.pack kind cs) rfl hx0 ?_; rw [HPL.out])
    | (refine wpList_index (.tmp 40) (.tmp 41) rfl rfl vx (Frame.pack kind cs) rfl hx0 (4 + r) HK.out _ rfl (by omega) ?_; intro b j _ _ hc; rw [HC.out] at hc)
    | (refine wpList_indexOwn (.tmp 38) (.tmp 39) rfl rfl w1.heap.size vx (Frame.pack kind cs) rfl OX.out HPM.out (4 + r) HK.out _ rfl (by omega) ?_; intro g hg hf HS; rw [HC.out] at hg))
  have B3 : Hid (Below w1.heap.size w1 (w2.setCell ⟨g, 4 + r, none⟩ (.int .u8 (y : Nat)))) := B2.out.trans (OX.out.below (HS.out y).2 B2.out.size)
  refine (unpackBad vx _ _ ((HS.out y).1.slice HYM.out.1) (ht.later (below_append B1.out B3.out)) (by have := HYM.out.2; omega) HY.out).mono ?_
  rintro e w4 ⟨vp, vr, rfl, sp, sr, b4⟩
  have B4 : Hid (Below w.heap.size w w4) := below_append (below_append B1.out B3.out) b4
  clear b4 B3 HS hf hg hc hx0 OX
  go_wp2_with (first
    | (refine wpList_len (.tmp 81) rfl rfl vp [] rfl sp ?_)
    | (refine wpList_len (.tmp 86) rfl rfl vr [] rfl sr ?_))
  go_ret
  exact ⟨rfl, B4.out⟩
theorem frameTurned_any (kind : Nat) (hk : kind < 256) (v : Value) (cs : List Nat) (at_ : Int) (by_ : Nat) (hby : by_ < 256) (w : World) (h : SliceIn w v cs) (ht : TabIn w) (hsz : cs.length ≤ 1048576) (ha : -9223372036854775808 ≤ at_) (ha' : at_ ≤ 9223372036854775807) :
    Calls Tryd.prog 8 #[.int .u8 (kind : Nat), v, .int .i64 at_, .int .u8 (by_ : Nat)] w fun e w' => e = .returned (.bool true) ∧ Below w.heap.size w w' := by
  by_cases hn : at_ < 0
  · have h1 := Int.emod_nonneg (-(at_ + 1)) (b := (cs.length : Int) + 9 - 4) (by omega)
    have h2 := Int.emod_lt_of_pos (-(at_ + 1)) (b := (cs.length : Int) + 9 - 4) (by omega)
    by_cases h0 : by_ = 0
    · subst h0
      exact turned_neg0 kind hk v cs at_ w h ht hsz hn ha (-(at_ + 1) % ((cs.length : Int) + 9 - 4)).toNat (by rw [← Int.neg_tmod, Int.tmod_eq_emod_of_nonneg (by omega)]; omega) (by omega)
    · exact turned_negx kind hk v cs at_ by_ hby h0 w h ht hsz hn ha (-(at_ + 1) % ((cs.length : Int) + 9 - 4)).toNat (by rw [← Int.neg_tmod, Int.tmod_eq_emod_of_nonneg (by omega)]; omega) (by omega)
  · have h1 := Int.emod_nonneg at_ (b := (cs.length : Int) + 9 - 4) (by omega)
    have h2 := Int.emod_lt_of_pos at_ (b := (cs.length : Int) + 9 - 4) (by omega)
    by_cases h0 : by_ = 0
    · subst h0
      exact turned_pos0 kind hk v cs at_ w h ht hsz (by omega) ha' (at_ % ((cs.length : Int) + 9 - 4)).toNat (by omega) (by omega)
    · exact turned_posx kind hk v cs at_ by_ hby h0 w h ht hsz (by omega) ha' (at_ % ((cs.length : Int) + 9 - 4)).toNat (by omega) (by omega)
end Go.Proofs.YtflabbladikhbaaDoor

/- The law FrameBack, walked out of its callees' contracts. -/
import Derived.Test.YtflabbladikhbaaDoorNumbers
namespace Go.Proofs.YtflabbladikhbaaDoor
open Go.RowKit

theorem unpackBad (v : Value) (cs : List Nat) (w : World) (h : SliceIn w v cs) (ht : TabIn w) (hsz : cs.length ≤ 281474976710656) (hok : Frame.okB cs = false) :
    Calls Tryd.prog 14 #[v] w fun e w' => ∃ vp vr, e = .returned (.tuple #[.int .u8 0, vp, vr, .int .i64 40]) ∧ SliceIn w' vp [] ∧ SliceIn w' vr [] ∧ Below w.heap.size w w' := by
  have hu := unpack_any v cs w h ht hsz
  unfold Frame.kindOf Frame.payOf Frame.restOf Frame.errOf at hu
  rw [hok] at hu
  exact hu.mono fun e w' ⟨vp, vr, h1, h2, h3, _, h4⟩ => ⟨vp, vr, h1, h2.slice (by simp), h3.slice (by simp), h4⟩
theorem unpackGood (v : Value) (cs : List Nat) (w : World) (h : SliceIn w v cs) (ht : TabIn w) (hsz : cs.length ≤ 281474976710656) (hok : Frame.okB cs = true) :
    Calls Tryd.prog 14 #[v] w fun e w' => ∃ vp vr, e = .returned (.tuple #[.int .u8 (Frame.kindOf cs : Nat), vp, vr, .int .i64 0]) ∧ SliceIn w' vp (Frame.payOf cs) ∧ SliceIn w' vr (Frame.restOf cs) ∧ Below w.heap.size w w' := by
  have hu := unpack_any v cs w h ht hsz
  have he : Frame.errOf cs = 0 := by unfold Frame.errOf; rw [hok]; rfl
  rw [he] at hu
  exact hu.mono fun e w' ⟨vp, vr, h1, h2, h3, _, h4⟩ => ⟨vp, vr, h1, h2.slice fun c hc => h.mem c (Frame.payOf_mem cs c hc), h3.slice fun c hc => h.mem c (Frame.restOf_mem cs c hc), h4⟩
theorem unpackPacked (v : Value) (kind : Nat) (cs rest : List Nat) (w : World) (h : SliceIn w v (Frame.pack kind cs ++ rest)) (ht : TabIn w) (hsz : (Frame.pack kind cs ++ rest).length ≤ 4000000) :
    Calls Tryd.prog 14 #[v] w fun e w' => ∃ vp vr, e = .returned (.tuple #[.int .u8 (kind : Nat), vp, vr, .int .i64 0]) ∧ SliceIn w' vp cs ∧ SliceIn w' vr rest ∧ Below w.heap.size w w' := by
  have hl : cs.length < 4294967296 := by rw [List.length_append, Frame.pack_length] at hsz; omega
  have hb := Frame.back kind cs rest hl
  have := unpackGood v (Frame.pack kind cs ++ rest) w h ht (by omega) (Frame.okB_pack kind cs rest hl).1
  rw [hb.1, hb.2.1, hb.2.2.1] at this
  exact this

set_option maxHeartbeats 2000000 in
theorem frameBack_any (kind : Nat) (hk : kind < 256) (v vb : Value) (cs bs : List Nat) (w : World) (h : SliceIn w v cs) (hh : SliceIn w vb bs) (ht : TabIn w) (hsz : cs.length + bs.length ≤ 1048576) :
    Calls Tryd.prog 6 #[.int .u8 (kind : Nat), v, vb] w fun e w' => e = .returned (.bool true) ∧ Below w.heap.size w w' := by
  have HPL : Hid (((Frame.pack kind cs).length : Int) = (cs.length : Int) + 9) := by show _ = _; rw [Frame.pack_length]; omega
  have HPM : Hid (∀ c ∈ Frame.pack kind cs, c < 256) := Frame.pack_lt kind cs hk h.mem
  have HPS : Hid ((Frame.pack kind cs).length + bs.length ≤ 2000000) := by show _ ≤ _; rw [Frame.pack_length]; omega
  go_enter Tryd.func6, Tryd.ntmps6
  go_wp2_with fail
  refine (shown_any w ht).mono ?_
  rintro e w1 ⟨rfl, b1⟩
  have B1 : Hid (Below w.heap.size w w1) := b1
  clear b1
  go_wp2_with fail
  refine (pack_any kind hk v cs w1 (h.later B1.out) (ht.later B1.out) (by omega)).mono ?_
  rintro e w2 ⟨vx, rfl, ox, b2⟩
  have SX : Hid (SliceIn w2 vx (Frame.pack kind cs)) := ox.slice HPM.out
  have B2 : Hid (Below w.heap.size w w2) := below_append B1.out b2
  clear ox b2 B1
  go_wp2_with (first
    | (refine wpList_lit0 rfl rfl w2.heap.size (Nat.le_refl _) ?_; intro v3 w3 o3 b3; have O3 : Hid (BOwn w3 w2.heap.size v3 []) := o3; have B3 : Hid (Below w2.heap.size w2 w3) := b3; clear o3 b3)
    | (refine wpList_append (.tmp 24) (.tmp 25) rfl rfl w2.heap.size v3 vx [] (Frame.pack kind cs) rfl O3.out rfl (SX.out.later B3.out) (by have := HPS.out; simp; omega) B3.out.size ?_; intro v4 w4 o4 b4; have O4 : Hid (BOwn w4 w2.heap.size v4 (Frame.pack kind cs)) := o4; have B4 : Hid (Below w2.heap.size w2 w4) := B3.out.trans b4; clear o4 b4 O3 B3)
    | (refine wpList_append (.tmp 26) (.tmp 27) rfl rfl w2.heap.size v4 vb (Frame.pack kind cs) bs rfl O4.out rfl (hh.later (below_append B2.out B4.out)) (by have := HPS.out; omega) B4.out.size ?_; intro v5 w5 o5 b5; have S5 : Hid (SliceIn w5 v5 (Frame.pack kind cs ++ bs)) := (o5.slice (fun c hc => (by rcases List.mem_append.1 hc with hc | hc; exact HPM.out c hc; exact hh.mem c hc))); have B5 : Hid (Below w2.heap.size w2 w5) := B4.out.trans b5; clear o5 b5 O4 B4))
  refine (unpackPacked v5 kind cs bs w5 S5.out (ht.later (below_append B2.out B5.out)) (by have := HPS.out; rw [List.length_append]; omega)).mono ?_
  rintro e w6 ⟨vp, vr, rfl, sp, sr, b6⟩
  have SP : Hid (SliceIn w6 vp cs ∧ SliceIn w6 vr bs) := ⟨sp, sr⟩
  have B6 : Hid (Below w.heap.size w w6) := below_append (below_append B2.out B5.out) b6
  have LX : Hid (∃ w0, SliceIn w0 vx (Frame.pack kind cs)) := ⟨w2, SX.out⟩
  clear sp sr b6 S5 B5 SX B2
  obtain ⟨w0, hx0⟩ := LX.out
  clear LX
  go_wp2_with (first
    | (go_at_call_of 12 vp; refine (sameEx vp v cs w6 SP.out.1 (h.later B6.out)).mono ?_; rintro e w' ⟨rfl, rfl⟩)
    | (go_at_call_of 12 vr; refine (sameEx vr vb bs w6 SP.out.2 (hh.later B6.out)).mono ?_; rintro e w' ⟨rfl, rfl⟩)
    | (refine wpList_len (.tmp 54) rfl rfl vx (Frame.pack kind cs) rfl hx0 ?_; rw [HPL.out])
    | (refine wpList_len (.tmp 56) rfl rfl v cs rfl h ?_))
  cases hok : Frame.okB bs
  · refine (unpackBad vb bs w6 (hh.later B6.out) (ht.later B6.out) (by omega) hok).mono ?_
    rintro e w7 ⟨vq, vs, rfl, sq, ss, b7⟩
    have B7 : Hid (Below w.heap.size w w7) := below_append B6.out b7
    clear b7
    go_wp2_with (first
      | (refine wpList_len (.tmp 76) rfl rfl vq [] rfl sq ?_)
      | (refine wpList_len (.tmp 81) rfl rfl vs [] rfl ss ?_))
    go_ret
    exact ⟨rfl, B7.out⟩
  · refine (unpackGood vb bs w6 (hh.later B6.out) (ht.later B6.out) (by omega) hok).mono ?_
    rintro e w7 ⟨vq, vs, rfl, sq, ss, b7⟩
    have hkl := Frame.kindOf_lt bs hh.mem
    have HA : Hid (Frame.pack (Frame.kindOf bs) (Frame.payOf bs) ++ Frame.restOf bs = bs) := Frame.anew bs hh.mem hok
    have HQ : Hid (SliceIn w7 vq (Frame.payOf bs) ∧ SliceIn w7 vs (Frame.restOf bs) ∧ Below w.heap.size w w7) := ⟨sq, ss, below_append B6.out b7⟩
    have HLp : Hid ((Frame.payOf bs).length ≤ 1048576 ∧ (Frame.restOf bs).length ≤ 1048576) := ⟨by have := Frame.payOf_length bs; omega, by have := Frame.restOf_length bs; omega⟩
    clear sq ss b7 hok B6 SP
    generalize Frame.kindOf bs = kb at *
    generalize Frame.payOf bs = pb at *
    generalize Frame.restOf bs = rb at *
    have HS : Hid ((Frame.pack kb pb).length + rb.length ≤ 140737488355328) := by show _ ≤ _; rw [Frame.pack_length]; have := HLp.out; omega
    go_wp2_with (first
      | (go_at_call 10; refine (pack_any kb hkl vq pb w7 HQ.out.1 (ht.later HQ.out.2.2) (by have := HLp.out; omega)).mono ?_; rintro e w8 ⟨v8, rfl, o8, b8⟩; have O8 : Hid (BOwn w8 w7.heap.size v8 (Frame.pack kb pb)) := o8; have B8 : Hid (Below w7.heap.size w7 w8) := b8; clear o8 b8)
      | (refine wpList_append (.tmp 89) (.tmp 90) rfl rfl w7.heap.size v8 vs (Frame.pack kb pb) rb rfl O8.out rfl (HQ.out.2.1.later B8.out) HS.out B8.out.size ?_; intro v9 w9 o9 b9; have S9 : Hid (SliceIn w9 v9 bs) := (by have o9' := o9; rw [HA.out] at o9'; exact BOwn.slice o9' hh.mem); have B9 : Hid (Below w.heap.size w w9) := below_append HQ.out.2.2 (B8.out.trans b9); clear o9 b9 O8 B8)
      | (go_at_call_of 12 v9; refine (sameEx v9 vb bs w9 S9.out (hh.later B9.out)).mono ?_; rintro e w' ⟨rfl, rfl⟩))
    go_ret
    exact ⟨rfl, B9.out⟩

end Go.Proofs.YtflabbladikhbaaDoor

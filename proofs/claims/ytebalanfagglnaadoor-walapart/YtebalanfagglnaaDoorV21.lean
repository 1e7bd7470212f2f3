/- Layer 8: sectors, made and opened. Layer 8: sectors of a row, made; frames opened. Layer 8: frames opened, parts held against one another. -/
import Derived.Test.YtebalanfagglnaaDoorV20
namespace Go.Proofs.YtebalanfagglnaaDoor
open Go.RowKit Go.Maps

theorem f101_0 : FieldAt 63 0 0 := fun w g off => by kernel_rfl
theorem f101_1 : FieldAt 63 1 1 := fun w g off => by kernel_rfl
theorem f126_0 : FieldAt 104 0 0 := fun w g off => by kernel_rfl
theorem f126_1 : FieldAt 104 1 1 := fun w g off => by kernel_rfl
theorem f126_2 : FieldAt 104 2 2 := fun w g off => by kernel_rfl
theorem f126_3 : FieldAt 104 3 3 := fun w g off => by kernel_rfl
theorem o99 : OneT 61 := fun w g o v h => by simp [loadVar, isAgg, run_underlying Tryd.underlying61, h]
theorem o3' : OneT 3 := fun w g o v h => by simp [loadVar, isAgg, run_underlying Tryd.underlying3, h]
theorem agg101 : AggT 63 2 := ⟨Or.inl ⟨_, Tryd.underlying63⟩, by kernel_rfl⟩
theorem agg126 : AggT 104 4 := ⟨Or.inl ⟨_, Tryd.underlying104⟩, by kernel_rfl⟩
def headCells (s f : Nat) : List Value := [.int .u64 (s : Nat), .int .u64 (f : Nat)]
def partCells (s i n : Nat) (pv : Value) : List Value := [.int .u64 (s : Nat), .int .i64 (i : Nat), .int .i64 (n : Nat), pv]
theorem nil_in (w : World) : SliceIn w (.slice none 0 0) [] := ⟨none, 0, rfl, ⟨Nat.le_refl _, by decide⟩, Or.inl rfl⟩
theorem BOwn.later {w w' : World} {base : Nat} {v : Value} {cs : List Nat} (h : BOwn w base v cs) (hb : Below w.heap.size w w') : BOwn w' base v cs := ownK h fun b hq => hb.block b (h.lt b hq).2
set_option maxHeartbeats 1000000 in
set_option maxRecDepth 100000 in
theorem headSector_any (w : World) (s f : Nat) (ht : Fr.TabIn w) : Calls Tryd.prog 28 #[.agg (headCells s f).toArray] w fun e w' => ∃ v', e = .returned v' ∧ BOwn w' w.heap.size v' (headSec s f) ∧ Below w.heap.size w w' := by
  obtain ⟨q, hq⟩ : ∃ q, q = w.heap.size := ⟨_, rfl⟩
  have HQ : Hid (q = w.heap.size) := hq
  have HT : Hid (Fr.TabIn w) := ht
  rw [← hq]
  clear hq ht
  go_enter Tryd.func28, Tryd.ntmps28
  go_upto_region 0 with fail
  refine wp_region_lit ?_
  refine wpList_box (.tmp 0) rfl rfl (headCells s f) rfl ?_
  intro w1 r1 s1 b1
  rw [← HQ.out] at r1 s1 b1 ⊢
  refine wpList_assign (.const (.slice none 0 0)) rfl rfl (.slice none 0 0) rfl ?_
  refine wpList_nil ?_
  simp only [Act.put, aS, aC, aZ]
  have R1 : Hid (Row w1 q 63 (headCells s f) ∧ Below q w w1) := ⟨r1, b1⟩
  have k0 := r1.at 0 _ rfl
  have hs1 : q + 1 = w1.heap.size := s1.symm
  clear r1 s1 b1
  go_upto_region 2 with (go_at_call 47; refine (Fr.number_yes (.slice none 0 0) [] s 8 w1 (nil_in w1) (by decide) (by decide) (by decide)).mono ?_; rintro e w2 ⟨v2, rfl, o2, b2⟩; have R2 : Hid (BOwn w2 w1.heap.size v2 (Fr.Frame.be 8 s) ∧ Below w1.heap.size w1 w2) := ⟨o2, b2⟩; clear o2 b2)
  have R2r : Hid (Row w2 q 63 (headCells s f)) := R1.out.1.later R2.out.2 R1.out.1.lt
  have k1 := R2r.out.at 1 _ rfl
  clear k0
  have H2 : Hid (SliceIn w2 v2 (Fr.Frame.be 8 s)) := R2.out.1.slice (Fr.Frame.be_lt 8 s) (by rw [Fr.Frame.be_length]; decide)
  go_upto_region 3 with (go_at_call 47; refine (Fr.number_yes v2 (Fr.Frame.be 8 s) f 8 w2 H2.out (by decide) (by decide) (by rw [Fr.Frame.be_length]; decide)).mono ?_; rintro e w3 ⟨v3, rfl, o3, b3⟩; have R3 : Hid (BOwn w3 w2.heap.size v3 (Fr.Frame.be 8 s ++ Fr.Frame.be 8 f) ∧ Below w2.heap.size w2 w3) := ⟨o3, b3⟩; clear o3 b3)
  have HL : Hid ((Fr.Frame.be 8 s ++ Fr.Frame.be 8 f).length = 16) := by show _ = _; rw [List.length_append, Fr.Frame.be_length, Fr.Frame.be_length]
  have H3 : Hid (SliceIn w3 v3 (Fr.Frame.be 8 s ++ Fr.Frame.be 8 f)) := R3.out.1.slice (fun c hc => by rcases List.mem_append.1 hc with h | h; exact Fr.Frame.be_lt _ _ c h; exact Fr.Frame.be_lt _ _ c h) (by rw [HL.out]; decide)
  have B3 : Hid (Below q w w3) := (R1.out.2.trans (R2.out.2.mono (by omega))).trans (R3.out.2.mono (by have := R2.out.2.size; omega))
  have HT3 : Hid (Fr.TabIn w3) := TabIn.later HT.out (by rw [← HQ.out]; exact B3.out)
  clear k1
  go_wp2_with (go_at_call 48; refine (sector_any w3 74 (by decide) v3 _ H3.out (fun e => by have := HL.out; rw [e] at this; cases this) (by rw [HL.out]; decide) HT3.out).mono ?_; rintro e w4 ⟨v4, rfl, o4, b4⟩; have R4 : Hid (BOwn w4 w3.heap.size v4 (headSec s f) ∧ Below w3.heap.size w3 w4) := ⟨o4, b4⟩; clear o4 b4)
  go_ret
  exact ⟨_, rfl, R4.out.1.mono (by have := B3.out.size; have := HQ.out; omega), B3.out.trans (R4.out.2.mono (by have := B3.out.size; have := HQ.out; omega))⟩
theorem run_conv39 (w : World) (n : Nat) (h : n < 9223372036854775808) : (convert 3 61 (.int .i64 (n : Int))).run Tryd.prog w = .ok (.int .u64 (n : Int)) w := by
  have e : IntKind.u64.wrap (n : Int) = (n : Int) := by
    simp [IntKind.wrap, IntKind.signed, IntKind.bits]
    omega
  simp [convert, go_sem, run_underlying Tryd.underlying3, run_underlying Tryd.underlying61, e]
theorem wl_cv39 {w : World} {ops : Array Oper} {rest : List Oper} {o : Oper} {a : Act} {Q : Exit → Act → World → Prop} (x : Operand) (hgd : Region.wanted o (yielded ops a.tmps) = true) (ho : o.op = .convert 3 61 x) (n : Nat) (hn : n < 9223372036854775808) (hx : a.eval x = .int .i64 (n : Nat)) (h : wpList Tryd.prog ops Q rest (a.put o.dst (.int .u64 (n : Nat))) w) : wpList Tryd.prog ops Q (o :: rest) a w := wl hgd _ w (by simp [execOp, ho, hx, run_conv39 w n hn]) h
end Go.Proofs.YtebalanfagglnaaDoor

namespace Go.Proofs.YtebalanfagglnaaDoor
open Go.RowKit Go.Maps

theorem en63 : EntersF 48 := Go.Proofs.enters_of Tryd.func48 (by kernel_rfl) rfl
set_option maxHeartbeats 1000000 in
set_option maxRecDepth 100000 in
theorem partSector_any (w : World) (s i n : Nat) (pv : Value) (ps : List Nat) (hp : SliceIn w pv ps) (hpl : ps.length ≤ 44) (hi : i < 9223372036854775808) (hn : n < 9223372036854775808) (ht : Fr.TabIn w) : Calls Tryd.prog 56 #[.agg (partCells s i n pv).toArray] w fun e w' => ∃ v', e = .returned v' ∧ BOwn w' w.heap.size v' (partSec s i n ps) ∧ Below w.heap.size w w' := by
  obtain ⟨q, hq⟩ : ∃ q, q = w.heap.size := ⟨_, rfl⟩
  have HQ : Hid (q = w.heap.size) := hq
  have HT : Hid (Fr.TabIn w) := ht
  have HP : Hid (SliceIn w pv ps) := hp
  rw [← hq]
  clear hq ht hp
  go_enter Tryd.func56, Tryd.ntmps56
  go_upto_region 0 with fail
  refine wp_region_lit ?_
  refine wpList_box (.tmp 0) rfl rfl (partCells s i n pv) rfl ?_
  intro w1 r1 s1 b1
  rw [← HQ.out] at r1 s1 b1 ⊢
  refine wpList_assign (.const (.slice none 0 0)) rfl rfl (.slice none 0 0) rfl ?_
  refine wpList_nil ?_
  simp only [Act.put, aS, aC, aZ]
  have R1 : Hid (Row w1 q 104 (partCells s i n pv) ∧ Below q w w1) := ⟨r1, b1⟩
  have k0 := r1.at 0 _ rfl
  have hs1 : q + 1 = w1.heap.size := s1.symm
  clear r1 s1 b1
  obtain ⟨A, hA⟩ : ∃ A, A = Fr.Frame.be 8 s := ⟨_, rfl⟩
  obtain ⟨B, hB⟩ : ∃ B, B = Fr.Frame.be 8 s ++ Fr.Frame.be 1 i := ⟨_, rfl⟩
  obtain ⟨C, hC⟩ : ∃ C, C = Fr.Frame.be 8 s ++ Fr.Frame.be 1 i ++ Fr.Frame.be 2 n := ⟨_, rfl⟩
  have HA : Hid (A = Fr.Frame.be 8 s ∧ A.length = 8 ∧ ∀ c ∈ A, c < 256) := ⟨hA, by rw [hA, Fr.Frame.be_length], by rw [hA]; exact Fr.Frame.be_lt _ _⟩
  have HBB : Hid (B = A ++ Fr.Frame.be 1 i ∧ B.length = 9 ∧ ∀ c ∈ B, c < 256) := ⟨by rw [hB, hA], by rw [hB, List.length_append, Fr.Frame.be_length, Fr.Frame.be_length], by rw [hB]; exact fun c hc => by rcases List.mem_append.1 hc with h | h; exact Fr.Frame.be_lt _ _ c h; exact Fr.Frame.be_lt _ _ c h⟩
  have HCC : Hid (C = B ++ Fr.Frame.be 2 n ∧ C.length = 11 ∧ (∀ c ∈ C, c < 256) ∧ partSec s i n ps = wsec 84 (C ++ ps)) := ⟨by rw [hC, hB], by rw [hC, List.length_append, List.length_append, Fr.Frame.be_length, Fr.Frame.be_length, Fr.Frame.be_length], by rw [hC]; exact fun c hc => by rcases List.mem_append.1 hc with h | h; rcases List.mem_append.1 h with h | h; exact Fr.Frame.be_lt _ _ c h; exact Fr.Frame.be_lt _ _ c h; exact Fr.Frame.be_lt _ _ c h, by rw [hC]; rfl⟩
  clear hA hB hC
  go_upto_region 2 with (go_at_call 47; refine (Fr.number_yes (.slice none 0 0) [] s 8 w1 (nil_in w1) (by decide) (by decide) (by decide)).mono ?_; rintro e w2 ⟨v2, rfl, o2, b2⟩; have R2 : Hid (BOwn w2 w1.heap.size v2 A ∧ Below w1.heap.size w1 w2) := ⟨by rw [HA.out.1]; exact o2, b2⟩; clear o2 b2)
  have R2r : Hid (Row w2 q 104 (partCells s i n pv)) := R1.out.1.later R2.out.2 R1.out.1.lt
  have k1 := R2r.out.at 1 _ rfl
  clear k0
  have H2 : Hid (SliceIn w2 v2 A) := R2.out.1.slice HA.out.2.2 (by rw [HA.out.2.1]; decide)
  go_upto_region 3 with (first | (refine wl_cv39 (.tmp 9) rfl rfl i hi rfl ?_) | (go_at_call 47; refine (Fr.number_yes v2 A i 1 w2 H2.out (by decide) (by decide) (by rw [HA.out.2.1]; decide)).mono ?_; rintro e w3 ⟨v3, rfl, o3, b3⟩; have R3 : Hid (BOwn w3 w2.heap.size v3 B ∧ Below w2.heap.size w2 w3) := ⟨by rw [HBB.out.1]; exact o3, b3⟩; clear o3 b3))
  have R3r : Hid (Row w3 q 104 (partCells s i n pv)) := R2r.out.later R3.out.2 R2r.out.lt
  have k2 := R3r.out.at 2 _ rfl
  clear k1
  have H3 : Hid (SliceIn w3 v3 B) := R3.out.1.slice HBB.out.2.2 (by rw [HBB.out.2.1]; decide)
  go_upto_region 4 with (first | (refine wl_cv39 (.tmp 14) rfl rfl n hn rfl ?_) | (go_at_call 47; refine (Fr.number_yes v3 B n 2 w3 H3.out (by decide) (by decide) (by rw [HBB.out.2.1]; decide)).mono ?_; rintro e w4 ⟨v4, rfl, o4, b4⟩; have R4 : Hid (BOwn w4 w3.heap.size v4 C ∧ Below w3.heap.size w3 w4) := ⟨by rw [HCC.out.1]; exact o4, b4⟩; clear o4 b4))
  have R4r : Hid (Row w4 q 104 (partCells s i n pv)) := R3r.out.later R4.out.2 R3r.out.lt
  have B4 : Hid (Below q w w4) := ((R1.out.2.trans (R2.out.2.mono (by omega))).trans (R3.out.2.mono (by have := R2.out.2.size; omega))).trans (R4.out.2.mono (by have := R2.out.2.size; have := R3.out.2.size; omega))
  have HP4 : Hid (SliceIn w4 pv ps) := sliceK HP.out fun b hb hlt => B4.out.block b (by rw [HQ.out]; exact hlt)
  clear k2
  refine wp_region_lit ?_
  refine wl_mv (.tmp 3) rfl rfl v4 rfl ?_
  simp only [Act.put, aS, aC, aZ]
  refine wl_fld f126_3 (.tmp 1) rfl rfl q 0 rfl ?_
  simp only [Act.put, aS, aC, aZ]
  refine wl_ld o51 (.tmp 18) rfl rfl q (0 + 3) rfl pv (R4r.out.at 3 _ rfl) ?_
  simp only [Act.put, aS, aC, aZ]
  refine wl_bgrow (.tmp 17) (.tmp 19) rfl rfl w3.heap.size v4 pv C ps rfl R4.out.1 rfl HP4.out (by rw [HCC.out.2.1]; omega) R4.out.2.size ?_
  intro v5 w5 o5 g5
  have B5 : Hid (Below w3.heap.size w4 w5) := R4.out.1.belowG g5 R4.out.2.size
  have HCL : Hid ((C ++ ps).length = 11 + ps.length) := by show _ = _; rw [List.length_append, HCC.out.2.1]
  have H5 : Hid (SliceIn w5 v5 (C ++ ps)) := BOwn.slice o5 (fun c hc => by rcases List.mem_append.1 hc with h | h; exact HCC.out.2.2.1 c h; exact HP.out.lt256 c h) (by rw [HCL.out]; omega)
  have B5q : Hid (Below q w w5) := B4.out.trans (B5.out.mono (by have := R2.out.2.size; have := R3.out.2.size; omega))
  have HT5 : Hid (Fr.TabIn w5) := TabIn.later HT.out (by rw [← HQ.out]; exact B5q.out)
  clear o5 g5
  simp only [Act.put, aS, aC, aZ]
  refine wpList_callF en63 [.const (.int .u8 84), .tmp 20] _ rfl rfl [.int .u8 ((84 : Nat) : Int), v5] rfl ?_
  refine (sector_any w5 84 (by decide) v5 _ H5.out (fun e => by have := HCL.out; rw [e] at this; simp at this; omega) (by rw [HCL.out]; omega) HT5.out).mono ?_
  rintro e w6 ⟨v6, rfl, o6, b6⟩
  refine ⟨_, rfl, ?_⟩
  have R6 : Hid (BOwn w6 w5.heap.size v6 (partSec s i n ps) ∧ Below w5.heap.size w5 w6) := ⟨by rw [HCC.out.2.2.2]; exact o6, b6⟩
  clear o6 b6
  go_wp2_with fail
  go_ret
  exact ⟨_, rfl, R6.out.1.mono (by have := B5q.out.size; have := HQ.out; omega), B5q.out.trans (R6.out.2.mono (by have := B5q.out.size; have := HQ.out; omega))⟩
set_option maxRecDepth 100000 in
theorem equal_any (w : World) (va vb : Value) (a b : List Nat) (ha : SliceIn w va a) (hb : SliceIn w vb b) : Calls Tryd.prog 71 #[va, vb] w fun e w' => e = .returned (.bool (decide (a = b))) ∧ w = w' := by
  have HE : Hid (((txt a).toList == (txt b).toList) = decide (a = b)) := txt_eq a b ha.lt256 hb.lt256
  have HA : Hid (SliceIn w va a) := ha
  have HB : Hid (SliceIn w vb b) := hb
  clear ha hb
  go_enter Tryd.func71, Tryd.ntmps71
  go_upto_region 1 with fail
  refine wp_region_lit ?_
  refine wl_mv (.tmp 0) rfl rfl va rfl ?_
  simp only [Act.put, aS, aC, aZ]
  refine wl rfl (.string (txt a)) w (by simp [execOp, Act.eval, run_txt w va a HA.out]) ?_
  simp only [Act.put, aS, aC, aZ]
  refine wl_mv (.tmp 1) rfl rfl vb rfl ?_
  simp only [Act.put, aS, aC, aZ]
  refine wl rfl (.string (txt b)) w (by simp [execOp, Act.eval, run_txt w vb b HB.out]) ?_
  simp only [Act.put, aS, aC, aZ]
  refine wl rfl (.bool (decide (a = b))) w ?_ ?_
  · rw [← HE.out]
    simp [execOp, Act.eval, go_sem]
  simp only [Act.put, aS, aC, aZ]
  go_wp2_with fail
  go_ret
  exact ⟨rfl, rfl⟩
end Go.Proofs.YtebalanfagglnaaDoor

namespace Go.Proofs.YtebalanfagglnaaDoor
open Go.RowKit Go.Maps

theorem en95 : EntersF 79 := Go.Proofs.enters_of Tryd.func79 (by kernel_rfl) rfl
set_option maxHeartbeats 1000000 in
set_option maxRecDepth 100000 in
theorem payload_any (w : World) (kind : Nat) (hk : kind < 256) (v : Value) (b : List Nat) (h : SliceIn w v b) (hl : b.length ≤ 1000000) (ht : Fr.TabIn w) :
    Calls Tryd.prog 69 #[.int .u8 (kind : Nat), v] w fun e w' => ∃ vp, e = .returned (.tuple #[vp, .bool (payB kind b)]) ∧ BOwn w' w.heap.size vp (Fr.Frame.payOf b) ∧ Below w.heap.size w w' := by
  obtain ⟨er, her⟩ : ∃ er : Nat, er = Fr.Frame.errOf b := ⟨_, rfl⟩
  obtain ⟨kd, hkd⟩ : ∃ kd : Nat, kd = Fr.Frame.kindOf b := ⟨_, rfl⟩
  obtain ⟨P, hP⟩ : ∃ P, P = Fr.Frame.payOf b := ⟨_, rfl⟩
  obtain ⟨r, hr⟩ : ∃ r, r = payB kind b := ⟨_, rfl⟩
  have HC : Hid (Calls Tryd.prog 79 #[v] w fun e w' => ∃ vp vr, e = .returned (.tuple #[.int .u8 (kd : Nat), vp, vr, .int .i64 (er : Nat)]) ∧ SliceIn w' vp P ∧ BOwn w' w.heap.size vp P ∧ Below w.heap.size w w') := by
    rw [her, hkd, hP]
    exact (Fr.unpack_any v b w h ht (by omega)).mono fun e w' ⟨vp, vr, h1, h2, _, _, h5⟩ => ⟨vp, vr, h1, BOwn.slice h2 (fun c hc => h.lt256 c (Fr.Frame.payOf_mem b c hc)) (by have := Fr.Frame.payOf_length b; omega), h2, h5⟩
  have HR : Hid (r = payB kind b) := hr
  have HER : Hid (er = if Fr.Frame.okB b then 0 else 40) := her
  have HK : Hid (kd = Fr.Frame.kindOf b) := hkd
  have HP : Hid (P = Fr.Frame.payOf b) := hP
  rw [← hr, ← hP]
  clear her hkd hP hr h ht
  go_enter Tryd.func69, Tryd.ntmps69
  go_upto_region 1 with fail
  refine wp_region_lit ?_
  refine wl_mv (.tmp 1) rfl rfl v rfl ?_
  simp only [Act.put, aS, aC, aZ]
  refine wpList_callF en95 [.tmp 11] _ rfl rfl [v] rfl ?_
  refine HC.out.mono ?_
  rintro e w1 ⟨vp, vr, rfl, hs, ho, hb⟩
  refine ⟨_, rfl, ?_⟩
  have R1 : Hid (SliceIn w1 vp P ∧ BOwn w1 w.heap.size vp P ∧ Below w.heap.size w w1) := ⟨hs, ho, hb⟩
  clear hs ho hb
  go_upto_region 2 with fail
  cases hok : Fr.Frame.okB b with
  | false =>
    have e40 : er = 40 := by rw [HER.out, hok]; rfl
    have er0 : r = false := by rw [HR.out]; unfold payB; rw [hok]; rfl
    subst e40 er0
    go_wp2_with (refine wl_slS (.tmp 26) rfl rfl vp P R1.out.1 rfl ?_)
    go_ret2
    exact ⟨vp, rfl, R1.out.2⟩
  | true =>
    have e0 : er = 0 := by rw [HER.out, hok]; rfl
    subst e0
    by_cases hkk : kd = kind
    · subst hkk
      by_cases hpl : P.length = 55
      · have er0 : r = true := by
          rw [HR.out]
          unfold payB
          rw [hok, ← HK.out, ← HP.out, decide_eq_true rfl, decide_eq_true hpl]
          rfl
        subst er0
        have HPL : Hid (P.length = 55) := hpl
        clear hpl
        go_wp2_with (refine wl_slS (.tmp 26) rfl rfl vp P R1.out.1 rfl ?_; rw [HPL.out])
        go_ret2
        exact ⟨vp, rfl, R1.out.2⟩
      · have er0 : r = false := by
          rw [HR.out]
          unfold payB
          rw [hok, ← HK.out, ← HP.out, decide_eq_true rfl, decide_eq_false hpl]
          rfl
        subst er0
        obtain ⟨ln, hln⟩ : ∃ ln, ln = P.length := ⟨_, rfl⟩
        have HPL : Hid (P.length = ln) := hln.symm
        rw [← hln] at hpl
        clear hln
        have t1 : ((ln : Int) == 55) = false := by simp; omega
        have t2 : decide ((ln : Int) = 55) = false := decide_eq_false (by omega)
        go_wp2_with (refine wl_slS (.tmp 26) rfl rfl vp P R1.out.1 rfl ?_; rw [HPL.out])
        go_ret2
        exact ⟨vp, rfl, R1.out.2⟩
    · have er0 : r = false := by
        rw [HR.out]
        unfold payB
        rw [hok, ← HK.out, decide_eq_false hkk]
        rfl
      subst er0
      have t1 : ((kd : Int) == (kind : Int)) = false := by simp; omega
      have t2 : decide ((kd : Int) = (kind : Int)) = false := decide_eq_false (by omega)
      go_wp2_with (refine wl_slS (.tmp 26) rfl rfl vp P R1.out.1 rfl ?_)
      go_ret2
      exact ⟨vp, rfl, R1.out.2⟩
set_option maxRecDepth 100000 in
theorem isOf_any (w : World) (s i n : Nat) (pv : Value) (s2 i2 n2 : Nat) (pv2 : Value) (k : Nat) : Calls Tryd.prog 81 #[.agg (partCells s i n pv).toArray, .agg (partCells s2 i2 n2 pv2).toArray, .int .i64 (k : Nat)] w fun e w' => e = .returned (.bool (decide (s = s2 ∧ n = n2 ∧ i = k))) ∧ Below w.heap.size w w' := by
  obtain ⟨q, hq⟩ : ∃ q, q = w.heap.size := ⟨_, rfl⟩
  have HQ : Hid (q = w.heap.size) := hq
  rw [← hq]
  clear hq
  obtain ⟨r, hr⟩ : ∃ r, r = decide (s = s2 ∧ n = n2 ∧ i = k) := ⟨_, rfl⟩
  have HR : Hid (r = decide (s = s2 ∧ n = n2 ∧ i = k)) := hr
  rw [← hr]
  clear hr
  go_enter Tryd.func81, Tryd.ntmps81
  go_upto_region 0 with fail
  refine wp_region_lit ?_
  refine wpList_box (.tmp 0) rfl rfl (partCells s i n pv) rfl ?_
  intro w1 r1 s1 b1
  rw [← HQ.out] at r1 s1 b1 ⊢
  simp only [Act.put, aS, aC, aZ]
  refine wpList_box (.tmp 1) rfl rfl (partCells s2 i2 n2 pv2) rfl ?_
  intro w2 r2 s2' b2
  rw [s1] at r2 s2' b2 ⊢
  simp only [Act.put, aS, aC, aZ]
  refine wpList_assign (.const (.bool false)) rfl rfl (.bool false) rfl ?_
  refine wpList_nil ?_
  simp only [Act.put, aS, aC, aZ]
  have R2 : Hid (Row w2 q 104 (partCells s i n pv) ∧ Row w2 (q + 1) 104 (partCells s2 i2 n2 pv2) ∧ Below q w w2) := ⟨r1.later (by rw [s1]; exact b2) r1.lt, r2, b1.trans (b2.mono (by omega))⟩
  have k0 := R2.out.1.at 0 _ rfl
  have k1 := R2.out.1.at 1 _ rfl
  have k2 := R2.out.1.at 2 _ rfl
  have l0 := R2.out.2.1.at 0 _ rfl
  have l2 := R2.out.2.1.at 2 _ rfl
  clear r1 s1 b1 r2 s2' b2
  by_cases h1 : s = s2
  · subst h1
    by_cases h2 : n = n2
    · subst h2
      by_cases h3 : i = k
      · subst h3
        have e : r = true := by rw [HR.out]; exact decide_eq_true ⟨rfl, rfl, rfl⟩
        subst e
        go_wp2_with fail
        go_ret
        exact ⟨rfl, R2.out.2.2⟩
      · have e : r = false := by rw [HR.out]; exact decide_eq_false fun h => h3 h.2.2
        subst e
        have t1 : ((i : Int) == (k : Int)) = false := by simp; omega
        have t2 : decide ((i : Int) = (k : Int)) = false := decide_eq_false (by omega)
        go_wp2_with fail
        go_ret
        exact ⟨rfl, R2.out.2.2⟩
    · have e : r = false := by rw [HR.out]; exact decide_eq_false fun h => h2 h.2.1
      subst e
      have t1 : ((n : Int) == (n2 : Int)) = false := by simp; omega
      have t2 : decide ((n : Int) = (n2 : Int)) = false := decide_eq_false (by omega)
      go_wp2_with fail
      go_ret
      exact ⟨rfl, R2.out.2.2⟩
  · have e : r = false := by rw [HR.out]; exact decide_eq_false fun h => h1 h.1
    subst e
    have t1 : ((s : Int) == (s2 : Int)) = false := by simp; omega
    have t2 : decide ((s : Int) = (s2 : Int)) = false := decide_eq_false (by omega)
    go_wp2_with fail
    go_ret
    exact ⟨rfl, R2.out.2.2⟩
end Go.Proofs.YtebalanfagglnaaDoor

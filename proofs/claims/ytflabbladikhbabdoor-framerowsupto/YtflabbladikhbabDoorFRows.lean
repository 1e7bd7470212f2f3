/- The law FrameRows, walked out of its callees' contracts. -/
import Derived.Test.YtflabbladikhbabDoorRowLaws
namespace Go.Proofs.YtflabbladikhbabDoor
open Go.RowKit

set_option maxHeartbeats 4000000 in
theorem rows_small (v : Value) (L0 : List (List Nat)) (w : World) (h0 : ListIn w v L0) (ht : TabIn w) (hsz : L0.flatten.length ≤ 1048576) (hlen : L0.length ≤ 1048576) (hsm : L0.length ≤ 40) :
    Calls Tryd.prog 4 #[v] w fun e w' => e = .returned (.bool true) ∧ Below w.heap.size w w' := by
  go_enter Tryd.func4, Tryd.ntmps4
  go_wp2_with fail
  refine (shown_any w ht).mono ?_
  rintro e w1 ⟨rfl, b1⟩
  have B1 : Hid (Below w.heap.size w w1) := b1
  clear b1
  have hL1 := h0.later B1.out
  go_wp2_with (first
    | (refine wpList_lenL (.tmp 18) rfl rfl v L0 rfl h0 ?_)
    | (refine wpList_subL (.tmp 21) rfl 40 (.const (.int .i64 40)) rfl rfl v L0 rfl hL1 (by omega) ?_; intro vl hl)
    | (refine wpList_lit0 rfl rfl w1.heap.size (Nat.le_refl _) ?_; intro v2 w2 o2 b2; have O2 : Hid (BOwn w2 w1.heap.size v2 []) := o2; have B2 : Hid (Below w1.heap.size w1 w2) := b2; clear o2 b2))
  obtain ⟨L, rfl⟩ : ∃ L, L = L0 := ⟨_, rfl⟩
  have hfl := hsz
  have HLW : Hid (ListIn w1 v L) := hL1
  have hln := hsm
  clear hL1 h0 hsz hlen hsm
  have HM : Hid (∀ n, n ≤ L.length → ∀ c ∈ Frame.rowsTo L n, c < 256) := fun n hn => Frame.rowsTo_lt L (fun i hi => HLW.out.mem i hi) n hn (by omega)
  have HN : Hid (∀ n, n ≤ L.length → (Frame.rowsTo L n).length ≤ 1050000) := fun n hn => by have := Frame.rowsTo_length L n hn; omega
  have HG : Hid (∀ k, k < L.length → (L.getD k []).length ≤ 1048576) := fun k hk => by have := Frame.getD_length L k hk; omega
  clear hfl
  have LW := HLW.out
  go_loopw [4, 5] (fun x i W => ∃ k : Nat, k ≤ L.length ∧ i = .int .i64 k ∧ BOwn W w1.heap.size x (Frame.rowsTo L k) ∧ Below w1.heap.size w1 W) (fun _ i _ => L.length - (intOf i).toNat)
  case atStart => exact ⟨0, Nat.zero_le _, rfl, O2.out, B2.out⟩
  case round =>
    obtain ⟨k, hk, rfl, hx, hbl⟩ := hrel
    have HX : Hid (BOwn wr w1.heap.size u4 (Frame.rowsTo L k)) := hx
    have HBL : Hid (Below w1.heap.size w1 wr) := hbl
    clear hx hbl
    by_cases hlt : k < L.length
    · obtain ⟨c, hcdef⟩ : ∃ c, L.getD k [] = c := ⟨_, rfl⟩
      have HC : Hid (L.getD k [] = c) := hcdef
      have HCL : Hid (c.length + 9 ≤ 140737488355328 ∧ (Frame.rowsTo L k).length + (Frame.pack k c).length ≤ 140737488355328) := by
        have h1 := HG.out k hlt
        have h2 := HN.out k hk
        rw [hcdef] at h1
        refine ⟨by omega, ?_⟩
        rw [Frame.pack_length]
        omega
      have HR : Hid (Frame.rowsTo L (k + 1) = Frame.rowsTo L k ++ Frame.pack k c) := by show _ = _; rw [← hcdef]; rfl
      have hk256 : k < 256 := by omega
      have hkm : (k : Int) % 256 = (k : Int) := by omega
      clear hcdef
      go_wp2_with (first
        | (refine wpList_lenL (.tmp 25) rfl rfl v L rfl LW ?_)
        | (refine wpList_indexL (.tmp 33) (.tmp 34) rfl rfl v L rfl (LW.later HBL.out) k hlt _ rfl rfl ?_; intro b j vi hc hs; rw [HC.out] at hs; have HVS : Hid (SliceIn wr vi c) := hs; clear hs)
        | (refine wpList_load22 (.tmp 35) rfl rfl b j rfl vi hc ?_; clear hc)
        | (go_at_call 6; refine (pack_any k hk256 vi c wr HVS.out (ht.later (below_append B1.out HBL.out)) HCL.out.1).mono ?_; rintro e w3 ⟨v3, rfl, o3, b3⟩; have S3 : Hid (SliceIn w3 v3 (Frame.pack k c)) := (BOwn.slice (base := wr.heap.size) o3 (Frame.pack_lt k c hk256 HVS.out.mem)); have B3 : Hid (Below wr.heap.size wr w3) := b3; clear o3 b3)
        | (refine wpList_append (.tmp 30) (.tmp 37) rfl rfl w1.heap.size u4 v3 (Frame.rowsTo L k) (Frame.pack k c) rfl (HX.out.later B3.out (Nat.le_refl _)) rfl S3.out HCL.out.2 (Nat.le_trans HBL.out.size B3.out.size) ?_; intro v4 w4 o4 b4; have O4 : Hid (BOwn w4 w1.heap.size v4 (Frame.rowsTo L (k + 1))) := (by rw [HR.out]; exact o4); have B4 : Hid (Below w1.heap.size w1 w4) := (below_append HBL.out B3.out).trans b4; clear o4 b4 S3 B3))
      refine ⟨⟨k + 1, by omega, by go_num, O4.out, B4.out⟩, ?_⟩
      simp [intOf]; omega
    · obtain rfl : k = L.length := by omega
      have SA : Hid (SliceIn wr u4 (Frame.tail L 0 (L.length - 0))) := by
        have e := Frame.rowsTo_tail L L.length 0
        rw [Nat.zero_add] at e
        have hs := HX.out.slice (HM.out L.length (Nat.le_refl _))
        rw [e] at hs
        exact hs
      have BA : Hid (Below w.heap.size w wr) := below_append B1.out HBL.out
      have LR : Hid (ListIn wr v L) := LW.later HBL.out
      clear HX hlt hk
      have HMT : Hid (∀ k, k ≤ L.length → (Frame.tail L k (L.length - k)).length ≤ 1050000) := fun k hk => by
        have e := Frame.rowsTo_tail L (L.length - k) k
        have h2 := HN.out L.length (Nat.le_refl _)
        rw [show k + (L.length - k) = L.length by omega] at e
        rw [e, List.length_append] at h2
        omega
      go_wp2_with (refine wpList_lenL (.tmp 25) rfl rfl v L rfl LW ?_)
      obtain ⟨W3, rfl⟩ : ∃ W3, W3 = wr := ⟨_, rfl⟩
      obtain ⟨a3, rfl⟩ : ∃ a3, a3 = u4 := ⟨_, rfl⟩
      go_loopw [4, 6] (fun x i W => ∃ k : Nat, k ≤ L.length ∧ i = .int .i64 k ∧ SliceIn W x (Frame.tail L k (L.length - k)) ∧ Below W3.heap.size W3 W) (fun _ i _ => L.length - (intOf i).toNat)
      case atStart => exact ⟨0, Nat.zero_le _, rfl, SA.out, Below.refl _ _⟩
      case round =>
        obtain ⟨k, hk, rfl, hx, hbl⟩ := hrel
        by_cases hlt : k < L.length
        · obtain ⟨c, hcdef⟩ : ∃ c, L.getD k [] = c := ⟨_, rfl⟩
          obtain ⟨r, hrdef⟩ : ∃ r, Frame.tail L (k + 1) (L.length - (k + 1)) = r := ⟨_, rfl⟩
          have het : Frame.tail L k (L.length - k) = Frame.pack k c ++ r := by
            rw [show L.length - k = (L.length - (k + 1)) + 1 by omega, Frame.tail, hcdef, hrdef]
          have hmt := HMT.out k hk
          rw [het] at hx hmt
          have HC : Hid (L.getD k [] = c) := hcdef
          have HRD : Hid (Frame.tail L (k + 1) (L.length - (k + 1)) = r) := hrdef
          have HX : Hid (SliceIn wr u4 (Frame.pack k c ++ r)) := hx
          have hx0 := hx
          have HBL2 : Hid (Below W3.heap.size W3 wr) := hbl
          have HLN : Hid ((((Frame.pack k c ++ r).length : Nat) : Int) = (c.length : Int) + 9 + (r.length : Int)) := by show _ = _; rw [List.length_append, Frame.pack_length]; omega
          have HLM : Hid ((Frame.pack k c ++ r).length ≤ 4000000) := by show _ ≤ _; omega
          have hcl : c.length ≤ 1050000 := by rw [List.length_append, Frame.pack_length] at hmt; omega
          have hrl : r.length ≤ 1050000 := by rw [List.length_append, Frame.pack_length] at hmt; omega
          have hkm : (k : Int) % 256 = (k : Int) := by omega
          have hneq : ((r.length : Int) != (c.length : Int) + 9 + (r.length : Int) - (c.length : Int) - 9) = false := by
            rw [show (c.length : Int) + 9 + (r.length : Int) - (c.length : Int) - 9 = (r.length : Int) by omega]
            simp
          clear hcdef hrdef het hx hbl hmt
          go_wp2_with (first
            | (refine wpList_lenL (.tmp 40) rfl rfl v L rfl LW ?_)
            | (go_at_call 10; refine (unpackPacked u4 k c r wr HX.out (ht.later (below_append BA.out HBL2.out)) HLM.out).mono ?_; rintro e w5 ⟨vp, vr, rfl, sp, sr, b5⟩; have SP : Hid (SliceIn w5 vp c ∧ SliceIn w5 vr r) := ⟨sp, sr⟩; have hr0 := sr; have B5 : Hid (Below W3.heap.size W3 w5) := below_append HBL2.out b5; clear sp sr b5)
            | (refine wpList_indexL (.tmp 62) (.tmp 63) rfl rfl v L rfl (LR.out.later B5.out) k hlt _ rfl rfl ?_; intro b j vi hc hs; rw [HC.out] at hs; have HVS : Hid (SliceIn w5 vi c) := hs; clear hs)
            | (refine wpList_load22 (.tmp 64) rfl rfl b j rfl vi hc ?_; clear hc)
            | (go_at_call 9; refine (sameEx vp vi c w5 SP.out.1 HVS.out).mono ?_; rintro e w' ⟨rfl, rfl⟩)
            | (refine wpList_len (.tmp 70) rfl rfl vr r rfl hr0 ?_)
            | (refine wpList_len (.tmp 72) rfl rfl u4 (Frame.pack k c ++ r) rfl hx0 ?_; rw [HLN.out])
            | (refine wpList_indexL (.tmp 74) (.tmp 75) rfl rfl v L rfl (LR.out.later B5.out) k hlt _ rfl rfl ?_; intro b2 j2 vi2 hc2 hs2; rw [HC.out] at hs2)
            | (refine wpList_load22 (.tmp 76) rfl rfl b2 j2 rfl vi2 hc2 ?_; clear hc2)
            | (refine wpList_len (.tmp 77) rfl rfl vi2 c rfl hs2 ?_))
          refine ⟨⟨k + 1, by omega, by go_num, by rw [HRD.out]; exact SP.out.2, B5.out⟩, ?_⟩
          simp [intOf]; omega
        · obtain rfl : k = L.length := by omega
          rw [Nat.sub_self] at hx
          have hx0 : SliceIn wr u4 [] := hx
          have HX : Hid (SliceIn wr u4 []) := hx0
          have HBL2 : Hid (Below W3.heap.size W3 wr) := hbl
          clear hx hbl hlt hk
          go_wp2_with (first
            | (refine wpList_lenL (.tmp 40) rfl rfl v L rfl LW ?_)
            | (go_at_call 10; refine (unpackBad u4 [] wr HX.out (ht.later (below_append BA.out HBL2.out)) (by decide) (by decide +kernel)).mono ?_; rintro e w5 ⟨vp, vr, rfl, b5⟩; have B5 : Hid (Below w.heap.size w w5) := below_append (below_append BA.out HBL2.out) b5; clear b5)
            | (refine wpList_len (.tmp 93) rfl rfl u4 [] rfl hx0 ?_))
          go_ret
          exact ⟨rfl, B5.out⟩
set_option maxHeartbeats 4000000 in
theorem rows_big (v : Value) (L0 : List (List Nat)) (w : World) (h0 : ListIn w v L0) (ht : TabIn w) (hsz : L0.flatten.length ≤ 1048576) (hlen : L0.length ≤ 1048576) (hbig : 40 < L0.length) :
    Calls Tryd.prog 4 #[v] w fun e w' => e = .returned (.bool true) ∧ Below w.heap.size w w' := by
  go_enter Tryd.func4, Tryd.ntmps4
  go_wp2_with fail
  refine (shown_any w ht).mono ?_
  rintro e w1 ⟨rfl, b1⟩
  have B1 : Hid (Below w.heap.size w w1) := b1
  clear b1
  have hL1 := h0.later B1.out
  go_wp2_with (first
    | (refine wpList_lenL (.tmp 18) rfl rfl v L0 rfl h0 ?_)
    | (refine wpList_subL (.tmp 21) rfl 40 (.const (.int .i64 40)) rfl rfl v L0 rfl hL1 (by omega) ?_; intro vl hl)
    | (refine wpList_lit0 rfl rfl w1.heap.size (Nat.le_refl _) ?_; intro v2 w2 o2 b2; have O2 : Hid (BOwn w2 w1.heap.size v2 []) := o2; have B2 : Hid (Below w1.heap.size w1 w2) := b2; clear o2 b2))
  obtain ⟨L, hLdef⟩ : ∃ L, L = L0.take 40 := ⟨_, rfl⟩
  rw [← hLdef] at hl
  have h40 : L.length = 40 := by rw [hLdef]; simp; omega
  have hfl : L.flatten.length ≤ 1048576 := by
    have e : L0.flatten = (L0.take 40).flatten ++ (L0.drop 40).flatten := by rw [← List.flatten_append, List.take_append_drop]
    have := congrArg List.length e
    rw [List.length_append, ← hLdef] at this
    omega
  have HLW : Hid (ListIn w1 vl L) := hl
  have hln : L.length ≤ 40 := by omega
  clear hl hL1 h0 hsz hlen hbig hLdef h40
  have HM : Hid (∀ n, n ≤ L.length → ∀ c ∈ Frame.rowsTo L n, c < 256) := fun n hn => Frame.rowsTo_lt L (fun i hi => HLW.out.mem i hi) n hn (by omega)
  have HN : Hid (∀ n, n ≤ L.length → (Frame.rowsTo L n).length ≤ 1050000) := fun n hn => by have := Frame.rowsTo_length L n hn; omega
  have HG : Hid (∀ k, k < L.length → (L.getD k []).length ≤ 1048576) := fun k hk => by have := Frame.getD_length L k hk; omega
  clear hfl
  have LW := HLW.out
  go_loopw [4, 5] (fun x i W => ∃ k : Nat, k ≤ L.length ∧ i = .int .i64 k ∧ BOwn W w1.heap.size x (Frame.rowsTo L k) ∧ Below w1.heap.size w1 W) (fun _ i _ => L.length - (intOf i).toNat)
  case atStart => exact ⟨0, Nat.zero_le _, rfl, O2.out, B2.out⟩
  case round =>
    obtain ⟨k, hk, rfl, hx, hbl⟩ := hrel
    have HX : Hid (BOwn wr w1.heap.size u4 (Frame.rowsTo L k)) := hx
    have HBL : Hid (Below w1.heap.size w1 wr) := hbl
    clear hx hbl
    by_cases hlt : k < L.length
    · obtain ⟨c, hcdef⟩ : ∃ c, L.getD k [] = c := ⟨_, rfl⟩
      have HC : Hid (L.getD k [] = c) := hcdef
      have HCL : Hid (c.length + 9 ≤ 140737488355328 ∧ (Frame.rowsTo L k).length + (Frame.pack k c).length ≤ 140737488355328) := by
        have h1 := HG.out k hlt
        have h2 := HN.out k hk
        rw [hcdef] at h1
        refine ⟨by omega, ?_⟩
        rw [Frame.pack_length]
        omega
      have HR : Hid (Frame.rowsTo L (k + 1) = Frame.rowsTo L k ++ Frame.pack k c) := by show _ = _; rw [← hcdef]; rfl
      have hk256 : k < 256 := by omega
      have hkm : (k : Int) % 256 = (k : Int) := by omega
      clear hcdef
      go_wp2_with (first
        | (refine wpList_lenL (.tmp 25) rfl rfl vl L rfl LW ?_)
        | (refine wpList_indexL (.tmp 33) (.tmp 34) rfl rfl vl L rfl (LW.later HBL.out) k hlt _ rfl rfl ?_; intro b j vi hc hs; rw [HC.out] at hs; have HVS : Hid (SliceIn wr vi c) := hs; clear hs)
        | (refine wpList_load22 (.tmp 35) rfl rfl b j rfl vi hc ?_; clear hc)
        | (go_at_call 6; refine (pack_any k hk256 vi c wr HVS.out (ht.later (below_append B1.out HBL.out)) HCL.out.1).mono ?_; rintro e w3 ⟨v3, rfl, o3, b3⟩; have S3 : Hid (SliceIn w3 v3 (Frame.pack k c)) := (BOwn.slice (base := wr.heap.size) o3 (Frame.pack_lt k c hk256 HVS.out.mem)); have B3 : Hid (Below wr.heap.size wr w3) := b3; clear o3 b3)
        | (refine wpList_append (.tmp 30) (.tmp 37) rfl rfl w1.heap.size u4 v3 (Frame.rowsTo L k) (Frame.pack k c) rfl (HX.out.later B3.out (Nat.le_refl _)) rfl S3.out HCL.out.2 (Nat.le_trans HBL.out.size B3.out.size) ?_; intro v4 w4 o4 b4; have O4 : Hid (BOwn w4 w1.heap.size v4 (Frame.rowsTo L (k + 1))) := (by rw [HR.out]; exact o4); have B4 : Hid (Below w1.heap.size w1 w4) := (below_append HBL.out B3.out).trans b4; clear o4 b4 S3 B3))
      refine ⟨⟨k + 1, by omega, by go_num, O4.out, B4.out⟩, ?_⟩
      simp [intOf]; omega
    · obtain rfl : k = L.length := by omega
      have SA : Hid (SliceIn wr u4 (Frame.tail L 0 (L.length - 0))) := by
        have e := Frame.rowsTo_tail L L.length 0
        rw [Nat.zero_add] at e
        have hs := HX.out.slice (HM.out L.length (Nat.le_refl _))
        rw [e] at hs
        exact hs
      have BA : Hid (Below w.heap.size w wr) := below_append B1.out HBL.out
      have LR : Hid (ListIn wr vl L) := LW.later HBL.out
      clear HX hlt hk
      have HMT : Hid (∀ k, k ≤ L.length → (Frame.tail L k (L.length - k)).length ≤ 1050000) := fun k hk => by
        have e := Frame.rowsTo_tail L (L.length - k) k
        have h2 := HN.out L.length (Nat.le_refl _)
        rw [show k + (L.length - k) = L.length by omega] at e
        rw [e, List.length_append] at h2
        omega
      go_wp2_with (refine wpList_lenL (.tmp 25) rfl rfl vl L rfl LW ?_)
      obtain ⟨W3, rfl⟩ : ∃ W3, W3 = wr := ⟨_, rfl⟩
      obtain ⟨a3, rfl⟩ : ∃ a3, a3 = u4 := ⟨_, rfl⟩
      go_loopw [4, 6] (fun x i W => ∃ k : Nat, k ≤ L.length ∧ i = .int .i64 k ∧ SliceIn W x (Frame.tail L k (L.length - k)) ∧ Below W3.heap.size W3 W) (fun _ i _ => L.length - (intOf i).toNat)
      case atStart => exact ⟨0, Nat.zero_le _, rfl, SA.out, Below.refl _ _⟩
      case round =>
        obtain ⟨k, hk, rfl, hx, hbl⟩ := hrel
        by_cases hlt : k < L.length
        · obtain ⟨c, hcdef⟩ : ∃ c, L.getD k [] = c := ⟨_, rfl⟩
          obtain ⟨r, hrdef⟩ : ∃ r, Frame.tail L (k + 1) (L.length - (k + 1)) = r := ⟨_, rfl⟩
          have het : Frame.tail L k (L.length - k) = Frame.pack k c ++ r := by
            rw [show L.length - k = (L.length - (k + 1)) + 1 by omega, Frame.tail, hcdef, hrdef]
          have hmt := HMT.out k hk
          rw [het] at hx hmt
          have HC : Hid (L.getD k [] = c) := hcdef
          have HRD : Hid (Frame.tail L (k + 1) (L.length - (k + 1)) = r) := hrdef
          have HX : Hid (SliceIn wr u4 (Frame.pack k c ++ r)) := hx
          have hx0 := hx
          have HBL2 : Hid (Below W3.heap.size W3 wr) := hbl
          have HLN : Hid ((((Frame.pack k c ++ r).length : Nat) : Int) = (c.length : Int) + 9 + (r.length : Int)) := by show _ = _; rw [List.length_append, Frame.pack_length]; omega
          have HLM : Hid ((Frame.pack k c ++ r).length ≤ 4000000) := by show _ ≤ _; omega
          have hcl : c.length ≤ 1050000 := by rw [List.length_append, Frame.pack_length] at hmt; omega
          have hrl : r.length ≤ 1050000 := by rw [List.length_append, Frame.pack_length] at hmt; omega
          have hkm : (k : Int) % 256 = (k : Int) := by omega
          have hneq : ((r.length : Int) != (c.length : Int) + 9 + (r.length : Int) - (c.length : Int) - 9) = false := by
            rw [show (c.length : Int) + 9 + (r.length : Int) - (c.length : Int) - 9 = (r.length : Int) by omega]
            simp
          clear hcdef hrdef het hx hbl hmt
          go_wp2_with (first
            | (refine wpList_lenL (.tmp 40) rfl rfl vl L rfl LW ?_)
            | (go_at_call 10; refine (unpackPacked u4 k c r wr HX.out (ht.later (below_append BA.out HBL2.out)) HLM.out).mono ?_; rintro e w5 ⟨vp, vr, rfl, sp, sr, b5⟩; have SP : Hid (SliceIn w5 vp c ∧ SliceIn w5 vr r) := ⟨sp, sr⟩; have hr0 := sr; have B5 : Hid (Below W3.heap.size W3 w5) := below_append HBL2.out b5; clear sp sr b5)
            | (refine wpList_indexL (.tmp 62) (.tmp 63) rfl rfl vl L rfl (LR.out.later B5.out) k hlt _ rfl rfl ?_; intro b j vi hc hs; rw [HC.out] at hs; have HVS : Hid (SliceIn w5 vi c) := hs; clear hs)
            | (refine wpList_load22 (.tmp 64) rfl rfl b j rfl vi hc ?_; clear hc)
            | (go_at_call 9; refine (sameEx vp vi c w5 SP.out.1 HVS.out).mono ?_; rintro e w' ⟨rfl, rfl⟩)
            | (refine wpList_len (.tmp 70) rfl rfl vr r rfl hr0 ?_)
            | (refine wpList_len (.tmp 72) rfl rfl u4 (Frame.pack k c ++ r) rfl hx0 ?_; rw [HLN.out])
            | (refine wpList_indexL (.tmp 74) (.tmp 75) rfl rfl vl L rfl (LR.out.later B5.out) k hlt _ rfl rfl ?_; intro b2 j2 vi2 hc2 hs2; rw [HC.out] at hs2)
            | (refine wpList_load22 (.tmp 76) rfl rfl b2 j2 rfl vi2 hc2 ?_; clear hc2)
            | (refine wpList_len (.tmp 77) rfl rfl vi2 c rfl hs2 ?_))
          refine ⟨⟨k + 1, by omega, by go_num, by rw [HRD.out]; exact SP.out.2, B5.out⟩, ?_⟩
          simp [intOf]; omega
        · obtain rfl : k = L.length := by omega
          rw [Nat.sub_self] at hx
          have hx0 : SliceIn wr u4 [] := hx
          have HX : Hid (SliceIn wr u4 []) := hx0
          have HBL2 : Hid (Below W3.heap.size W3 wr) := hbl
          clear hx hbl hlt hk
          go_wp2_with (first
            | (refine wpList_lenL (.tmp 40) rfl rfl vl L rfl LW ?_)
            | (go_at_call 10; refine (unpackBad u4 [] wr HX.out (ht.later (below_append BA.out HBL2.out)) (by decide) (by decide +kernel)).mono ?_; rintro e w5 ⟨vp, vr, rfl, b5⟩; have B5 : Hid (Below w.heap.size w w5) := below_append (below_append BA.out HBL2.out) b5; clear b5)
            | (refine wpList_len (.tmp 93) rfl rfl u4 [] rfl hx0 ?_))
          go_ret
          exact ⟨rfl, B5.out⟩
theorem frameRows_any (v : Value) (L0 : List (List Nat)) (w : World) (h0 : ListIn w v L0) (ht : TabIn w) (hsz : L0.flatten.length ≤ 1048576) (hlen : L0.length ≤ 1048576) :
    Calls Tryd.prog 4 #[v] w fun e w' => e = .returned (.bool true) ∧ Below w.heap.size w w' := by
  by_cases h : L0.length ≤ 40
  · exact rows_small v L0 w h0 ht hsz hlen h
  · exact rows_big v L0 w h0 ht hsz hlen (by omega)
end Go.Proofs.YtflabbladikhbabDoor

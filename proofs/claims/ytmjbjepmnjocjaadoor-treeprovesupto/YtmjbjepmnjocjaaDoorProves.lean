/- The law TreeProves, walked out of its callees' contracts. -/
import Derived.Test.YtmjbjepmnjocjaaDoorSpoil
namespace Go.Proofs.YtmjbjepmnjocjaaDoor
open Go.RowKit

theorem inclAns_short (hs : List (List Nat)) (m : Int) (h : hs.length ≤ 1048576) : (inclAns hs m).length ≤ 100 := by
  unfold inclAns
  split
  · have := incl_short hs m.toNat (by omega)
    omega
  · simp
theorem consAns_short (hs : List (List Nat)) (m : Int) (h : hs.length ≤ 1048576) : (consAns hs m).length ≤ 100 := by
  unfold consAns
  split
  · have := part_short hs m.toNat true (by omega)
    omega
  · simp
/-- what the loops leave -/
structure PvS (w4 : World) (b4 b5 b6 b7 : Nat) (vq vr : Value) (P R : List (List Nat)) (W : World) : Prop where
  q : HOwn W b5 vq P
  r : HOwn W b6 vr R
  bl : Below w4.heap.size w4 W
  hb : b4 = w4.heap.size ∧ b4 ≤ b5 ∧ b5 ≤ b6 ∧ b6 ≤ b7
set_option maxHeartbeats 8000000 in
set_option maxRecDepth 100000 in
theorem treeProves_any (vl : Value) (ls : List Nat) (m : Int) (w : World) (hl : SliceIn w vl ls) (ht : TabIn w) (hst : StartIn w) (hll : ls.length ≤ 1048576) :
    Calls Tryd.prog 4 #[vl, .int .i64 m] w fun e w' => e = .returned (.bool true) ∧ Below w.heap.size w w' := by
  go_enter Tryd.func4, Tryd.ntmps4
  go_wp2_with fail
  refine (shown_any w ht hst).mono ?_
  rintro e w1 ⟨rfl, b1⟩
  have R1 : Hid (Below w.heap.size w w1) := b1
  clear b1
  go_wp2_with fail
  refine (leaves_any vl ls w1 (hl.later R1.out) (by omega)).mono ?_
  rintro e w2 ⟨vh, rfl, o2, b2⟩
  have R2 : Hid (HIn w2 vh (lv ls ls.length) ∧ Below w.heap.size w w2) := ⟨o2.hin, below_append R1.out b2⟩
  have HN : Hid ((lv ls ls.length).length ≤ 1048576) := by show _ ≤ _; rw [lv_length]; exact hll
  clear o2 b2 R1
  generalize lv ls ls.length = hs at R2 HN
  obtain ⟨P, hP⟩ : ∃ P, P = inclAns hs m := ⟨_, rfl⟩
  obtain ⟨C, hC⟩ : ∃ C, C = consAns hs m := ⟨_, rfl⟩
  obtain ⟨e1, he1⟩ : ∃ e1, e1 = inclErr hs m := ⟨_, rfl⟩
  obtain ⟨e2, he2⟩ : ∃ e2, e2 = consErr hs m := ⟨_, rfl⟩
  have HPL : Hid (P.length ≤ 100 ∧ C.length ≤ 100) := ⟨hP ▸ inclAns_short hs m HN.out, hC ▸ consAns_short hs m HN.out⟩
  have K16 : Hid (∀ v W, HIn W v hs → TabIn W → StartIn W → Calls Tryd.prog 16 #[v, .int .i64 m] W fun e w' => Tells W P e1 e w') := fun v W h1 h2 h3 => by rw [hP, he1]; exact incl_any v hs m W h1 h2 h3 (by have := HN.out; omega)
  have K17 : Hid (∀ v W, HIn W v hs → Calls Tryd.prog 17 #[v, .int .i64 m] W fun e w' => Tells W P e1 e w') := fun v W h1 => by rw [hP, he1]; exact refIncl_any v hs m W h1 (by have := HN.out; omega)
  have K18 : Hid (∀ v W, HIn W v hs → TabIn W → StartIn W → Calls Tryd.prog 18 #[v, .int .i64 m] W fun e w' => Tells W C e2 e w') := fun v W h1 h2 h3 => by rw [hC, he2]; exact cons_any v hs m W h1 h2 h3 (by have := HN.out; omega)
  have K19 : Hid (∀ v W, HIn W v hs → Calls Tryd.prog 19 #[v, .int .i64 m] W fun e w' => Tells W C e2 e w') := fun v W h1 => by rw [hC, he2]; exact refCons_any v hs m W h1 (by have := HN.out; omega)
  clear hP hC he1 he2
  go_wp2_with (first
    | (refine wl_lit0 rfl rfl w2.heap.size (Nat.le_refl _) ?_; intro v3 w3 o3 b3; have R3 : Hid (HOwn w3 w2.heap.size v3 [] ∧ Below w2.heap.size w2 w3) := ⟨o3, b3⟩; clear o3 b3)
    | (refine wl_append (.tmp 25) (.tmp 26) rfl rfl w2.heap.size v3 vh [] hs rfl R3.out.1 rfl (R2.out.1.later R3.out.2) (by have := HN.out; simp; omega) R3.out.2.size ?_; intro vo w4 o4 b4; have R4 : Hid (HIn w4 vo hs ∧ HIn w4 vh hs ∧ Below w.heap.size w w4 ∧ TabIn w4 ∧ StartIn w4) := ⟨o4.hin, R2.out.1.later (R3.out.2.trans b4), below_append R2.out.2 (R3.out.2.trans b4), ht.later (below_append R2.out.2 (R3.out.2.trans b4)), hst.later (below_append R2.out.2 (R3.out.2.trans b4))⟩; clear o4 b4 R3))
  refine (K16.out vo w4 R4.out.1 R4.out.2.2.2.1 R4.out.2.2.2.2).mono ?_
  rintro e w5 ⟨vp, rfl, o5, b5⟩
  have R5 : Hid (HOwn w5 w4.heap.size vp P ∧ Below w4.heap.size w4 w5) := ⟨o5, b5⟩
  clear o5 b5
  go_wp2_with fail
  refine (K17.out vh w5 (R4.out.2.1.later R5.out.2)).mono ?_
  rintro e w6 ⟨vq, rfl, o6, b6⟩
  have R6 : Hid (HOwn w6 w4.heap.size vp P ∧ HOwn w6 w5.heap.size vq P ∧ Below w4.heap.size w4 w6) := ⟨R5.out.1.later b6 (Nat.le_refl _), o6, below_append R5.out.2 b6⟩
  have LP5 : Hid (∀ k, vp.ownBlock = some k → w4.heap.size ≤ k ∧ k < w5.heap.size) := fun k hk => R5.out.1.2.lt k hk
  have S5 : Hid (w4.heap.size ≤ w5.heap.size) := R5.out.2.size
  have S6 : Hid (w5.heap.size ≤ w6.heap.size) := b6.size
  clear o6 b6 R5
  go_wp2_with fail
  refine (K18.out vo w6 (R4.out.1.later R6.out.2.2) (R4.out.2.2.2.1.later R6.out.2.2) (R4.out.2.2.2.2.later R6.out.2.2)).mono ?_
  rintro e w7 ⟨vr, rfl, o7, b7⟩
  have R7 : Hid (HOwn w7 w4.heap.size vp P ∧ HOwn w7 w5.heap.size vq P ∧ HOwn w7 w6.heap.size vr C ∧ Below w4.heap.size w4 w7) := ⟨R6.out.1.later b7 (Nat.le_refl _), R6.out.2.1.later b7 (Nat.le_refl _), o7, below_append R6.out.2.2 b7⟩
  have LQ6 : Hid (∀ k, vq.ownBlock = some k → w5.heap.size ≤ k ∧ k < w6.heap.size) := fun k hk => R6.out.2.1.2.lt k hk
  clear o7 b7 R6
  go_wp2_with fail
  refine (K19.out vh w7 (R4.out.2.1.later R7.out.2.2.2)).mono ?_
  rintro e w8 ⟨vs, rfl, o8, b8⟩
  have R8 : Hid (HOwn w8 w4.heap.size vp P ∧ HOwn w8 w5.heap.size vq P ∧ HOwn w8 w6.heap.size vr C ∧ Below w4.heap.size w4 w8 ∧ HIn w8 vs C) := ⟨R7.out.1.later b8 (Nat.le_refl _), R7.out.2.1.later b8 (Nat.le_refl _), R7.out.2.2.1.later b8 (Nat.le_refl _), below_append R7.out.2.2.2 b8, o8.hin⟩
  have LR7 : Hid (∀ k, vr.ownBlock = some k → w6.heap.size ≤ k) := fun k hk => (R7.out.2.2.1.2.lt k hk).1
  clear o8 b8 R7
  go_wp2_with fail
  refine (same_any vp vq P P w8 R8.out.1.hin R8.out.2.1.hin).mono ?_
  rintro e w9 ⟨rfl, b9⟩
  rw [decide_eq_true (rfl : P = P)]
  have R9 : Hid (HOwn w9 w4.heap.size vp P ∧ HOwn w9 w5.heap.size vq P ∧ HOwn w9 w6.heap.size vr C ∧ Below w4.heap.size w4 w9 ∧ HIn w9 vs C) := ⟨R8.out.1.later b9 (Nat.le_refl _), R8.out.2.1.later b9 (Nat.le_refl _), R8.out.2.2.1.later b9 (Nat.le_refl _), below_append R8.out.2.2.2.1 b9, R8.out.2.2.2.2.later b9⟩
  clear b9 R8
  go_wp2_with fail
  refine (same_any vr vs C C w9 R9.out.2.2.1.hin R9.out.2.2.2.2).mono ?_
  rintro e wa ⟨rfl, ba⟩
  rw [decide_eq_true (rfl : C = C)]
  have Ra : Hid (HOwn wa w4.heap.size vp P ∧ HOwn wa w5.heap.size vq P ∧ HOwn wa w6.heap.size vr C ∧ Below w4.heap.size w4 wa) := ⟨R9.out.1.later ba (Nat.le_refl _), R9.out.2.1.later ba (Nat.le_refl _), R9.out.2.2.1.later ba (Nat.le_refl _), below_append R9.out.2.2.2.1 ba⟩
  clear ba R9
  have hP100 := HPL.out.1
  have hC100 := HPL.out.2
  have hinP := Ra.out.1.hin
  have hinC := Ra.out.2.2.1.hin
  go_wp2_with fail
  go_loopw [18] (fun i W => ∃ k : Nat, k ≤ P.length ∧ i = .int .i64 (k : Nat) ∧ HOwn W w4.heap.size vp (blank P k) ∧ wa.grownBy W vp.ownBlock) (fun i _ => P.length - (intOf i).toNat)
  case atStart => exact ⟨0, Nat.zero_le _, rfl, by rw [blank_zero]; exact Ra.out.1, World.grownBy.refl wa _⟩
  case round =>
    obtain ⟨k, hk, rfl, hok, hgk⟩ := hrel
    by_cases hlt : k < P.length
    · have hlt' : (k : Int) < (P.length : Int) := by omega
      have HI : Hid (HOwn wr w4.heap.size vp (blank P k) ∧ wa.grownBy wr vp.ownBlock) := ⟨hok, hgk⟩
      clear hok hgk
      go_wp2_with (first
        | (refine wl_len (.tmp 59) rfl rfl vp P rfl hinP ?_)
        | (refine wl_noH rfl rfl ?_)
        | (refine wl_hset (.tmp 64) (.tmp 65) (.tmp 66) rfl rfl rfl rfl rfl rfl w4.heap.size vp (blank P k) rfl HI.out.1 k rfl (by rw [blank_length P k hk]; exact hlt) noH noH_isH (fun _ => rfl) (fun _ => rfl) ?_; intro p wx ox gx; rw [blank_set P k hlt] at ox; have HJ : Hid (HOwn wx w4.heap.size vp (blank P (k + 1)) ∧ wa.grownBy wx vp.ownBlock) := ⟨ox, grown_trans HI.out.2 gx⟩; clear ox gx HI))
      exact ⟨⟨k + 1, by omega, by go_num, HJ.out.1, HJ.out.2⟩, by simp [intOf]; omega⟩
    · rename World => wm
      have hlt' : ¬ (k : Int) < (P.length : Int) := by omega
      have Rb : Hid (HOwn wm w5.heap.size vq P ∧ HOwn wm w6.heap.size vr C ∧ Below w4.heap.size w4 wm) := by
        refine ⟨Ra.out.2.1.kept hgk (fun b hb e => ?_), Ra.out.2.2.1.kept hgk (fun b hb e => ?_), Ra.out.2.2.2.trans (Ra.out.1.below hgk Ra.out.2.2.2.size)⟩
        · have h1 := LP5.out b e
          have h2 := LQ6.out b hb
          omega
        · have h1 := LP5.out b e
          have h2 := LR7.out b hb
          have h3 := S6.out
          omega
      clear hok hgk
      go_wp2_with (first
        | (refine wl_len (.tmp 59) rfl rfl vp P rfl hinP ?_))
      go_loopw [19] (fun i W => ∃ k : Nat, k ≤ C.length ∧ i = .int .i64 (k : Nat) ∧ HOwn W w6.heap.size vr (blank C k) ∧ wm.grownBy W vr.ownBlock) (fun i _ => C.length - (intOf i).toNat)
      case atStart => exact ⟨0, Nat.zero_le _, rfl, by rw [blank_zero]; exact Rb.out.2.1, World.grownBy.refl wm _⟩
      case round =>
        obtain ⟨j, hj, rfl, hoj, hgj⟩ := hrel
        by_cases hlt2 : j < C.length
        · have hlt2' : (j : Int) < (C.length : Int) := by omega
          have HI : Hid (HOwn wr w6.heap.size vr (blank C j) ∧ wm.grownBy wr vr.ownBlock) := ⟨hoj, hgj⟩
          clear hoj hgj
          go_wp2_with (first
            | (refine wl_len (.tmp 69) rfl rfl vr C rfl hinC ?_)
            | (refine wl_noH rfl rfl ?_)
            | (refine wl_hset (.tmp 74) (.tmp 75) (.tmp 76) rfl rfl rfl rfl rfl rfl w6.heap.size vr (blank C j) rfl HI.out.1 j rfl (by rw [blank_length C j hj]; exact hlt2) noH noH_isH (fun _ => rfl) (fun _ => rfl) ?_; intro p wx ox gx; rw [blank_set C j hlt2] at ox; have HJ : Hid (HOwn wx w6.heap.size vr (blank C (j + 1)) ∧ wm.grownBy wx vr.ownBlock) := ⟨ox, grown_trans HI.out.2 gx⟩; clear ox gx HI))
          exact ⟨⟨j + 1, by omega, by go_num, HJ.out.1, HJ.out.2⟩, by simp [intOf]; omega⟩
        · have hlt2' : ¬ (j : Int) < (C.length : Int) := by omega
          have Rc : Hid (HOwn wr w5.heap.size vq P ∧ Below w4.heap.size w4 wr) := by
            refine ⟨Rb.out.1.kept hgj (fun b hb e => ?_), Rb.out.2.2.trans ((Rb.out.2.1.weaken (Nat.le_trans S5.out S6.out)).below hgj Rb.out.2.2.size)⟩
            have h1 := LR7.out b e
            have h2 := LQ6.out b hb
            omega
          clear hoj hgj Rb
          go_wp2_with (first
            | (refine wl_len (.tmp 69) rfl rfl vr C rfl hinC ?_))
          refine (same_any vo vh hs hs wr (R4.out.1.later Rc.out.2) (R4.out.2.1.later Rc.out.2)).mono ?_
          rintro e wc ⟨rfl, bc⟩
          rw [decide_eq_true (rfl : hs = hs)]
          have Rd : Hid (HOwn wc w5.heap.size vq P ∧ Below w4.heap.size w4 wc) := ⟨Rc.out.1.later bc (Nat.le_refl _), below_append Rc.out.2 bc⟩
          clear bc Rc
          go_wp2_with fail
          refine (K16.out vo wc (R4.out.1.later Rd.out.2) (R4.out.2.2.2.1.later Rd.out.2) (R4.out.2.2.2.2.later Rd.out.2)).mono ?_
          rintro e wd ⟨vz, rfl, od, bd⟩
          have Re : Hid (HIn wd vq P ∧ HIn wd vz P ∧ Below w4.heap.size w4 wd) := ⟨Rd.out.1.hin.later bd, od.hin, below_append Rd.out.2 bd⟩
          clear od bd Rd
          go_wp2_with fail
          refine (same_any vz vq P P wd Re.out.2.1 Re.out.1).mono ?_
          rintro e we ⟨rfl, be⟩
          rw [decide_eq_true (rfl : P = P)]
          have Rf : Hid (Below w.heap.size w we) := below_append R4.out.2.2.1 (below_append Re.out.2.2 be)
          clear be Re
          go_wp2_with fail
          go_ret
          exact ⟨rfl, Rf.out⟩
end Go.Proofs.YtmjbjepmnjocjaaDoor

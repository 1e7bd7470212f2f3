/- The law CrcTells where the place is below nought, walked out of its callees' contracts; and all its ways together. -/
import Derived.Test.YtkhchfjijglfjaaDoorTells
namespace Go.Proofs.YtkhchfjijglfjaaDoor
open Go.RowKit

theorem place (a : Int) (n : Nat) (ha : a < 0) (hn : 0 < n) : ∃ k0 : Nat, -((a + 1).tmod (8 * (n : Int))) = (k0 : Int) ∧ k0 < 8 * n := by
  rw [← Int.neg_tmod, Int.tmod_eq_emod_of_nonneg (by omega)]
  have h1 := Int.emod_nonneg (-(a + 1)) (b := 8 * (n : Int)) (by omega)
  have h2 := Int.emod_lt_of_pos (-(a + 1)) (b := 8 * (n : Int)) (by omega)
  exact ⟨(-(a + 1) % (8 * (n : Int))).toNat, (Int.toNat_of_nonneg h1).symm, by omega⟩

set_option maxHeartbeats 400000 in
theorem tells_neg (a : Int) (x : BitVec 32) (b off cap : Nat) (cs : List Nat) (w : World) (hmax : cs.length ≤ 140737488351232) (hc : BytesIn w b off cs) (ht : TabIn w)
    (ha : a < 0) (ha' : -9223372036854775808 ≤ a) (hn : ((cs.length : Int) == 0) = false) (hx : (Crc.U x == 0) = false) :
    Calls Tryd.prog 5 #[.slice (some ⟨b, off, none⟩) cs.length cap, .int .i64 a, .int .u32 (Crc.U x)] w fun e w' => e = .returned (.bool true) ∧ Below w.heap.size w w' := by
  have hs : SliceIn w (.slice (some ⟨b, off, none⟩) cs.length cap) cs := ⟨_, cap, rfl, by omega, Or.inr ⟨b, off, rfl, hc⟩⟩
  have hpos : 0 < cs.length := by have := beq_eq_false_iff_ne.1 hn; omega
  have hd : decide (a < 0) = true := by simpa using ha
  go_enter Tryd.func5, Tryd.ntmps5
  go_wp2_with fail
  refine (shown_any _ ht).mono ?_
  rintro e w1 ⟨rfl, h1⟩
  have h2 : Below w.heap.size w (w1.alloc (.cells #[] 5)) := h1.alloc h1.size _
  have o2 : (w1.alloc (.cells #[] 5)).ownsRow w1.heap.size 5 1 (.slice (some ⟨w1.heap.size, 0, none⟩) 0 0) ([] : List Nat).length (cellsOf []) := World.ownsRow_made w1 #[] 0 (Nat.le_refl _) (Nat.zero_le _) rfl
  have l2 : w1.heap.size ≤ (w1.alloc (.cells #[] 5)).heap.size := by simp
  go_wp2_with (at_builtin; refine wpList_append_bytes rfl (.tmp 35) (.tmp 36) rfl w1.heap.size _ _ [] cs rfl o2 rfl (hs.later h2) (by simp; omega) l2 ?_; intro v3 w3 o3 b3; have h3 := h2.trans (b3.mono h1.size); have l3 := Nat.le_trans l2 b3.size; rw [List.nil_append] at o3)
  obtain ⟨k0, hk0, hk1⟩ : ∃ k0 : Nat, -((a + 1).tmod (8 * (cs.length : Int))) = (k0 : Int) ∧ k0 < 8 * cs.length := place a cs.length ha hpos
  rw [hk0]
  clear hk0
  rcases o3.2 with ⟨rfl, h0⟩ | ⟨g, capg, cur, rfl, hg, hcur, hcapg, hmaxg, hsz, htake⟩
  · omega
  have hown : Own w3 g capg cs := ⟨cur, hcur, by omega, by simpa using htake⟩
  unfold maxLen at hmaxg
  clear o2 o3 b3 l2 h2 hcur hsz htake
  go_loopw [9, 10, 11] (fun t i _ wr => ∃ m : Nat, m ≤ 32 ∧ i = .int .i64 m ∧ t = .bool (Crc.turnedTo cs.length k0 x m) ∧ Own wr g capg (Crc.flipTo k0 x cs m) ∧ Below w.heap.size w wr) (fun _ i _ _ => 32 - (intOf i).toNat)
  case atStart => exact ⟨0, by omega, rfl, rfl, hown, h3⟩
  case round =>
    obtain ⟨m, hm, rfl, rfl, hown, hb⟩ := hrel
    clear h3
    by_cases hlt : m < 32
    · by_cases hin : k0 + m < 8 * cs.length
      · have hbit := Crc.U_bit x m hlt
        have HO : Hid (Own wr g capg (Crc.flipTo k0 x cs m)) := hown
        have HB : Hid (Below w.heap.size w wr) := hb
        have hj : (k0 + m) / 8 < cs.length := by omega
        have hcell : wr.cell? ⟨g, (k0 + m) / 8, none⟩ = some (.int .u8 ((Crc.flipTo k0 x cs m).getD ((k0 + m) / 8) 0 : Nat)) := hown.cell (by rw [Crc.flipTo_length]; exact hj)
        have hfr : wr.frozen? ⟨g, (k0 + m) / 8, none⟩ = false := hown.frozen
        clear hown hb
        generalize hv : (Crc.flipTo k0 x cs m).getD ((k0 + m) / 8) 0 = c at *
        have HV : Hid _ := hv
        clear hv
        cases hbb : x.getLsbD m
        · rw [hbb] at hbit
          have HT : Hid (x.getLsbD m = false) := hbb
          clear hbb hcell hfr
          go_wp2
          go_roundw
          case rel => exact ⟨m + 1, by omega, by go_num, by simp [Crc.turnedTo, Crc.turns, HT.out], by simpa [Crc.flipTo, Crc.turns, HT.out] using HO.out, HB.out⟩
          case measure => simp [intOf]; omega
        · rw [hbb] at hbit
          have HT : Hid (x.getLsbD m = true) := hbb
          clear hbb
          go_wp2
          go_region
          go_wp2
          go_roundw
          case rel =>
            refine ⟨m + 1, by omega, by go_num, by simp [Crc.turnedTo, Crc.turns, HT.out, hin], ?_, (HB.out.setCell (by simpa using Nat.le_trans h1.size hg) _).drew⟩
            rw [byte_turn c (k0 + m) (by rw [← HV.out]; exact Crc.flipTo_lt k0 x cs hc.2 m _)]
            have hset := HO.out.set ((k0 + m) / 8) (c ^^^ 2 ^ ((k0 + m) % 8))
            have e : Crc.flipTo k0 x cs (m + 1) = (Crc.flipTo k0 x cs m).set ((k0 + m) / 8) (c ^^^ 2 ^ ((k0 + m) % 8)) := by
              rw [← HV.out]
              simp only [Crc.flipTo]
              rw [if_pos (by simp [Crc.turns, HT.out, hin])]
            rw [e]
            exact hset
          case measure => simp [intOf]; omega
      · have HO : Hid (Own wr g capg (Crc.flipTo k0 x cs m)) := hown
        have HB : Hid (Below w.heap.size w wr) := hb
        clear hown hb
        go_wp2
        go_roundw
        case rel => exact ⟨m + 1, by omega, by go_num, by simp [Crc.turnedTo, Crc.turns, hin], by simpa [Crc.flipTo, Crc.turns, hin] using HO.out, HB.out⟩
        case measure => simp [intOf]; omega
    · have e32 : m = 32 := by omega
      subst e32
      have hown32 : SliceIn wr (.slice (some ⟨g, 0, none⟩) cs.length capg) (Crc.flipTo k0 x cs 32) :=
        ⟨some ⟨g, 0, none⟩, capg, by rw [Crc.flipTo_length], by rw [Crc.flipTo_length]; omega, Or.inr ⟨g, 0, rfl, fun j hj => by rw [Nat.zero_add]; exact hown.cell hj, Crc.flipTo_lt k0 x cs hc.2 32⟩⟩
      have hs' := hs.later hb
      have ht' := ht.later hb
      have HT : Hid ((Crc.more 0#32 cs != Crc.more 0#32 (Crc.flipTo k0 x cs 32)) = Crc.turnedTo cs.length k0 x 32) := Crc.tells k0 x cs 0#32
      have HB : Hid (Below w.heap.size w wr) := hb
      clear hown hb hc hs ht
      go_wp2_with fail
      refine (sum_any _ cs _ hs' ht').mono ?_
      rintro e w' ⟨rfl, rfl⟩
      go_wp2_with fail
      refine (sum_any _ (Crc.flipTo k0 x cs 32) _ hown32 ht').mono ?_
      rintro e w' ⟨rfl, rfl⟩
      go_wp2_with fail
      go_ret
      refine ⟨?_, HB.out⟩
      have hU : (Crc.U (Crc.more 0#32 cs) != Crc.U (Crc.more 0#32 (Crc.flipTo k0 x cs 32))) = Crc.turnedTo cs.length k0 x 32 := by
        rw [← HT.out, Bool.eq_iff_iff, bne_iff_ne, bne_iff_ne, ne_eq, Crc.U_inj]
      show Ending.returned (.bool ((Crc.U (Crc.more 0#32 cs) != Crc.U (Crc.more 0#32 (Crc.flipTo k0 x cs 32))) == Crc.turnedTo cs.length k0 x 32)) = _
      rw [hU]
      simp

theorem crcTells_any (a : Int) (x : BitVec 32) (v : Value) (cs : List Nat) (w : World) (hs : SliceIn w v cs) (ht : TabIn w) (hmax : cs.length ≤ 140737488351232) (ha : -9223372036854775808 ≤ a ∧ a ≤ 9223372036854775807) :
    Calls Tryd.prog 5 #[v, .int .i64 a, .int .u32 (Crc.U x)] w fun e w' => e = .returned (.bool true) ∧ Below w.heap.size w w' := by
  obtain ⟨p, cap, rfl, hl, h⟩ := hs
  by_cases h0 : cs.length = 0
  · obtain rfl := List.length_eq_zero_iff.1 h0
    exact tells_empty a x p cap w ht
  have hn : ((cs.length : Int) == 0) = false := by rw [beq_eq_false_iff_ne]; omega
  rcases h with rfl | ⟨b, off, rfl, h⟩
  · exact absurd rfl h0
  by_cases hx : x = 0#32
  · subst hx
    exact tells_zero a _ cs.length cap hn w ht
  have hx' : (Crc.U x == 0) = false := by
    rw [beq_eq_false_iff_ne, U_zero]
    intro h
    exact hx (Crc.U_inj.1 h)
  by_cases hz : a < 0
  · exact tells_neg a x b off cap cs w hmax h ht hz ha.1 hn hx'
  · exact tells_some a x b off cap cs w hmax h ht (by omega) ha.2 hn hx'
end Go.Proofs.YtkhchfjijglfjaaDoor

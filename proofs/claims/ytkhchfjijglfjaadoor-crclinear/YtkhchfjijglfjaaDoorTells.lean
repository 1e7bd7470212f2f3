/- The law CrcTells, walked out of its callees' contracts. -/
import Derived.Test.YtkhchfjijglfjaaDoorAppend
import Derived.Test.YtkhchfjijglfjaaDoorFlips
namespace Go.Proofs.YtkhchfjijglfjaaDoor
open Go.RowKit

set_option maxHeartbeats 400000 in
theorem tells_empty (a : Int) (x : BitVec 32) (p : Option Addr) (cap : Nat) (w : World) (ht : TabIn w) :
    Calls Tryd.prog 5 #[.slice p 0 cap, .int .i64 a, .int .u32 (Crc.U x)] w fun e w' => e = .returned (.bool true) ∧ Below w.heap.size w w' := by
  go_enter Tryd.func5, Tryd.ntmps5
  go_wp2_with fail
  refine (shown_any _ ht).mono ?_
  rintro e w1 ⟨rfl, h1⟩
  go_wp2_with fail
  go_ret
  exact ⟨rfl, h1⟩

set_option maxHeartbeats 400000 in
theorem tells_zero (a : Int) (p : Option Addr) (n cap : Nat) (hn : ((n : Int) == 0) = false) (w : World) (ht : TabIn w) :
    Calls Tryd.prog 5 #[.slice p n cap, .int .i64 a, .int .u32 0] w fun e w' => e = .returned (.bool true) ∧ Below w.heap.size w w' := by
  go_enter Tryd.func5, Tryd.ntmps5
  go_wp2_with fail
  refine (shown_any _ ht).mono ?_
  rintro e w1 ⟨rfl, h1⟩
  go_wp2_with fail
  go_ret
  exact ⟨rfl, h1⟩

/-- the block g of the call's own, of so many cells, holds these bytes at its head -/
def Own (w : World) (g cap : Nat) (ds : List Nat) : Prop := ∃ cur, w.heap[g]? = some (.cells cur 5 (0, 0)) ∧ cur.size = cap ∧ cur.toList.take ds.length = cellsOf ds

theorem Own.cell {w : World} {g cap : Nat} {ds : List Nat} (h : Own w g cap ds) {j : Nat} (hj : j < ds.length) : w.cell? ⟨g, j, none⟩ = some (.int .u8 (ds.getD j 0 : Nat)) := by
  obtain ⟨cur, hc, hs, ht⟩ := h
  rw [cell_of_row w g j cur 5 (0, 0) hc]
  have h1 : (cur.toList.take ds.length)[j]? = some (.int .u8 (ds.getD j 0 : Nat)) := by rw [ht]; simp [cellsOf, hj]
  rw [List.getElem?_take_of_lt hj] at h1
  simpa using h1
theorem Own.frozen {w : World} {g cap : Nat} {ds : List Nat} (h : Own w g cap ds) {j : Nat} : w.frozen? ⟨g, j, none⟩ = false := by
  obtain ⟨cur, hc, hs, ht⟩ := h
  simp [World.frozen?, hc]

theorem Own.set {w : World} {g cap : Nat} {ds : List Nat} (h : Own w g cap ds) (j v : Nat) : Own (w.setCell ⟨g, j, none⟩ (.int .u8 (v : Nat))).drew g cap (ds.set j v) := by
  obtain ⟨cur, hc, hs, ht⟩ := h
  refine ⟨cur.setIfInBounds j (.int .u8 (v : Nat)), heap_setCell_same w g j cur 5 _ hc, by simpa using hs, ?_⟩
  rw [List.length_set, Array.toList_setIfInBounds, List.take_set, ht]
  simp [cellsOf, List.map_set]
/-- one bit of a byte, as the walk writes it -/
theorem byte_turn (c k : Nat) (hc : c < 256) : bits .xor .u8 (c : Int) ((2 : Int) ^ (k % 8) % 256) = ((c ^^^ 2 ^ (k % 8) : Nat) : Int) := by
  have hk : k % 8 < 8 := Nat.mod_lt _ (by decide)
  have hp : 2 ^ (k % 8) < 256 := Nat.pow_lt_pow_right (a := 2) (n := 8) (by decide) hk
  have e : ((2 : Int) ^ (k % 8) % 256) = ((2 ^ (k % 8) : Nat) : Int) := by
    have : ((2 ^ (k % 8) : Nat) : Int) = (2 : Int) ^ (k % 8) := by rw [Int.natCast_pow]; rfl
    rw [← this]
    generalize 2 ^ (k % 8) = z at *
    omega
  rw [e, u8_xor_nat c _ hc hp]

set_option maxHeartbeats 400000 in
theorem tells_some (a : Int) (x : BitVec 32) (b off cap : Nat) (cs : List Nat) (w : World) (hmax : cs.length ≤ 140737488351232) (hc : BytesIn w b off cs) (ht : TabIn w)
    (ha : 0 ≤ a) (ha' : a ≤ 9223372036854775807) (hn : ((cs.length : Int) == 0) = false) (hx : (Crc.U x == 0) = false) :
    Calls Tryd.prog 5 #[.slice (some ⟨b, off, none⟩) cs.length cap, .int .i64 a, .int .u32 (Crc.U x)] w fun e w' => e = .returned (.bool true) ∧ Below w.heap.size w w' := by
  have hs : SliceIn w (.slice (some ⟨b, off, none⟩) cs.length cap) cs := ⟨_, cap, rfl, by omega, Or.inr ⟨b, off, rfl, hc⟩⟩
  have hpos : 0 < cs.length := by have := beq_eq_false_iff_ne.1 hn; omega
  have hd : decide (a < 0) = false := by simpa using ha
  go_enter Tryd.func5, Tryd.ntmps5
  go_wp2_with fail
  refine (shown_any _ ht).mono ?_
  rintro e w1 ⟨rfl, h1⟩
  have h2 : Below w.heap.size w (w1.alloc (.cells #[] 5)) := h1.alloc h1.size _
  have o2 : (w1.alloc (.cells #[] 5)).ownsRow w1.heap.size 5 1 (.slice (some ⟨w1.heap.size, 0, none⟩) 0 0) ([] : List Nat).length (cellsOf []) := World.ownsRow_made w1 #[] 0 (Nat.le_refl _) (Nat.zero_le _) rfl
  have l2 : w1.heap.size ≤ (w1.alloc (.cells #[] 5)).heap.size := by simp
  go_wp2_with (at_builtin; refine wpList_append_bytes rfl (.tmp 35) (.tmp 36) rfl w1.heap.size _ _ [] cs rfl o2 rfl (hs.later h2) (by simp; omega) l2 ?_; intro v3 w3 o3 b3; have h3 := h2.trans (b3.mono h1.size); have l3 := Nat.le_trans l2 b3.size; rw [List.nil_append] at o3)
  obtain ⟨k0, hk0⟩ : ∃ k0 : Nat, a % (8 * (cs.length : Int)) = (k0 : Int) := ⟨(a % (8 * (cs.length : Int))).toNat, (Int.toNat_of_nonneg (Int.emod_nonneg _ (by omega))).symm⟩
  have hk1 : k0 < 8 * cs.length := by have := Int.emod_lt_of_pos a (b := 8 * (cs.length : Int)) (by omega); omega
  rw [hk0]
  clear hk0
  rcases o3.2 with ⟨rfl, h0⟩ | ⟨g, capg, cur, rfl, hg, hcur, hcapg, hmaxg, hsz, htake⟩
  · omega
  have hown : Own w3 g capg cs := ⟨cur, hcur, by omega, by simpa using htake⟩
  unfold maxLen at hmaxg
  clear o2 o3 b3 l2 h2 hcur hsz htake
  go_loopw [9, 10, 11] (fun t i _ wr => ∃ m : Nat, m ≤ 32 ∧ i = .int .i64 m ∧ t = .bool (Crc.turnedTo cs.length k0 x m) ∧ Own wr g capg (Crc.flipTo k0 x cs m) ∧ Below w.heap.size w wr) (fun _ i _ _ => 32 - (intOf i).toNat)
  case atStart => exact ⟨0, by omega, rfl, rfl, hown, h3⟩
  case round =>
    obtain ⟨m, hm, rfl, rfl, hown, hb⟩ := hrel
    clear h3
    by_cases hlt : m < 32
    · by_cases hin : k0 + m < 8 * cs.length
      · have hbit := Crc.U_bit x m hlt
        have HO : Hid (Own wr g capg (Crc.flipTo k0 x cs m)) := hown
        have HB : Hid (Below w.heap.size w wr) := hb
        have hj : (k0 + m) / 8 < cs.length := by omega
        have hcell : wr.cell? ⟨g, (k0 + m) / 8, none⟩ = some (.int .u8 ((Crc.flipTo k0 x cs m).getD ((k0 + m) / 8) 0 : Nat)) := hown.cell (by rw [Crc.flipTo_length]; exact hj)
        have hfr : wr.frozen? ⟨g, (k0 + m) / 8, none⟩ = false := hown.frozen
        clear hown hb
        generalize hv : (Crc.flipTo k0 x cs m).getD ((k0 + m) / 8) 0 = c at *
        have HV : Hid _ := hv
        clear hv
        cases hbb : x.getLsbD m
        · rw [hbb] at hbit
          have HT : Hid (x.getLsbD m = false) := hbb
          clear hbb hcell hfr
          go_wp2
          go_roundw
          case rel => exact ⟨m + 1, by omega, by go_num, by simp [Crc.turnedTo, Crc.turns, HT.out], by simpa [Crc.flipTo, Crc.turns, HT.out] using HO.out, HB.out⟩
          case measure => simp [intOf]; omega
        · rw [hbb] at hbit
          have HT : Hid (x.getLsbD m = true) := hbb
          clear hbb
          go_wp2
          go_region
          go_wp2
          go_roundw
          case rel =>
            refine ⟨m + 1, by omega, by go_num, by simp [Crc.turnedTo, Crc.turns, HT.out, hin], ?_, (HB.out.setCell (by simpa using Nat.le_trans h1.size hg) _).drew⟩
            rw [byte_turn c (k0 + m) (by rw [← HV.out]; exact Crc.flipTo_lt k0 x cs hc.2 m _)]
            have hset := HO.out.set ((k0 + m) / 8) (c ^^^ 2 ^ ((k0 + m) % 8))
            have e : Crc.flipTo k0 x cs (m + 1) = (Crc.flipTo k0 x cs m).set ((k0 + m) / 8) (c ^^^ 2 ^ ((k0 + m) % 8)) := by
              rw [← HV.out]
              simp only [Crc.flipTo]
              rw [if_pos (by simp [Crc.turns, HT.out, hin])]
            rw [e]
            exact hset
          case measure => simp [intOf]; omega
      · have HO : Hid (Own wr g capg (Crc.flipTo k0 x cs m)) := hown
        have HB : Hid (Below w.heap.size w wr) := hb
        clear hown hb
        go_wp2
        go_roundw
        case rel => exact ⟨m + 1, by omega, by go_num, by simp [Crc.turnedTo, Crc.turns, hin], by simpa [Crc.flipTo, Crc.turns, hin] using HO.out, HB.out⟩
        case measure => simp [intOf]; omega
    · have e32 : m = 32 := by omega
      subst e32
      have hown32 : SliceIn wr (.slice (some ⟨g, 0, none⟩) cs.length capg) (Crc.flipTo k0 x cs 32) :=
        ⟨some ⟨g, 0, none⟩, capg, by rw [Crc.flipTo_length], by rw [Crc.flipTo_length]; omega, Or.inr ⟨g, 0, rfl, fun j hj => by rw [Nat.zero_add]; exact hown.cell hj, Crc.flipTo_lt k0 x cs hc.2 32⟩⟩
      have hs' := hs.later hb
      have ht' := ht.later hb
      have HT : Hid ((Crc.more 0#32 cs != Crc.more 0#32 (Crc.flipTo k0 x cs 32)) = Crc.turnedTo cs.length k0 x 32) := Crc.tells k0 x cs 0#32
      have HB : Hid (Below w.heap.size w wr) := hb
      clear hown hb hc hs ht
      go_wp2_with fail
      refine (sum_any _ cs _ hs' ht').mono ?_
      rintro e w' ⟨rfl, rfl⟩
      go_wp2_with fail
      refine (sum_any _ (Crc.flipTo k0 x cs 32) _ hown32 ht').mono ?_
      rintro e w' ⟨rfl, rfl⟩
      go_wp2_with fail
      go_ret
      refine ⟨?_, HB.out⟩
      have hU : (Crc.U (Crc.more 0#32 cs) != Crc.U (Crc.more 0#32 (Crc.flipTo k0 x cs 32))) = Crc.turnedTo cs.length k0 x 32 := by
        rw [← HT.out, Bool.eq_iff_iff, bne_iff_ne, bne_iff_ne, ne_eq, Crc.U_inj]
      show Ending.returned (.bool ((Crc.U (Crc.more 0#32 cs) != Crc.U (Crc.more 0#32 (Crc.flipTo k0 x cs 32))) == Crc.turnedTo cs.length k0 x 32)) = _
      rw [hU]
      simp
end Go.Proofs.YtkhchfjijglfjaaDoor

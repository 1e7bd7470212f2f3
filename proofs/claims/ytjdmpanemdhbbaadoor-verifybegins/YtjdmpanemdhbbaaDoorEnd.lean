/- The walk of (*State).writeEnd. -/
import Derived.Test.YtjdmpanemdhbbaaDoorWrite
namespace Go.Proofs.YtjdmpanemdhbbaaDoor
open Go.RowKit

/-- bytes and noughts behind them -/
def fillB (bs : List Nat) (n : Nat) : List Value := bcells bs ++ zerosU8 n
theorem fillB_set (bs : List Nat) (n x : Nat) : (fillB bs (n + 1)).set bs.length (.int .u8 (x : Nat)) = fillB (bs ++ [x]) n := by
  unfold fillB
  rw [List.set_append_right _ _ (by simp [bcells_length]), bcells_append, bcells_length, Nat.sub_self]
  simp [zerosU8, List.replicate_succ, bcells]
theorem fillB_length (bs : List Nat) (n : Nat) : (fillB bs n).length = bs.length + n := by simp [fillB, bcells_length, zerosU8]
theorem fillB_zeros (bs : List Nat) (k n : Nat) : fillB (bs ++ List.replicate k 0) n = fillB bs (k + n) := by
  unfold fillB
  rw [bcells_append, List.append_assoc]
  congr 1
  simp [bcells, zerosU8]
theorem fillB_bytes {w : World} {g t : Nat} {bs : List Nat} {n : Nat} (h : Row w g t (fillB bs n)) (hb : ∀ x ∈ bs, x < 256) : BytesIn w g 0 bs := by
  refine ⟨fun j hj => ?_, fun j => ?_⟩
  · rw [Nat.zero_add, h.cell]
    unfold fillB
    rw [List.getElem?_append_left (by rw [bcells_length]; exact hj), bcells_at bs j hj]
  · by_cases hj : j < bs.length
    · simpa [hj] using hb _ (List.getElem_mem hj)
    · simp [hj]

/-- the text's end as far as k bytes of its number -/
def endTo (T k : Nat) : List Nat := (128 :: List.replicate (Sha.zeros T) 0) ++ (Sha.lenBytes (8 * T)).take k
theorem endTo_length (T k : Nat) (h : k ≤ 8) : (endTo T k).length = Sha.zeros T + 1 + k := by simp [endTo, Sha.lenBytes]; omega
theorem endTo_next (T k : Nat) (h : k < 8) : endTo T (k + 1) = endTo T k ++ [8 * T / 2 ^ (8 * (7 - k)) % 256] := by
  unfold endTo
  rw [List.take_succ_eq_append_getElem (by simp [Sha.lenBytes]; omega), ← List.append_assoc]
  simp [Sha.lenBytes]
theorem endTo_all (T : Nat) : endTo T 8 = Sha.pad T := by
  unfold endTo Sha.pad
  rw [List.take_of_length_le (by simp [Sha.lenBytes])]
  rfl
theorem pad_lt (T : Nat) : ∀ x ∈ Sha.pad T, x < 256 := by
  intro x hx
  unfold Sha.pad at hx
  rcases List.mem_cons.1 hx with rfl | hx
  · decide
  · rcases List.mem_append.1 hx with hx | hx
    · have := (List.mem_replicate.1 hx).2
      omega
    · unfold Sha.lenBytes at hx
      obtain ⟨i, _, rfl⟩ := List.mem_map.1 hx
      omega

def EndIn (w W : World) (g g5 T k : Nat) (m : List Nat) : Prop := Row W g5 85 (fillB (endTo T k) (71 - Sha.zeros T - k)) ∧ StIn W g m ∧ Below w.heap.size w W

theorem EndIn.step {w W : World} {g g5 T k z : Nat} {m : List Nat} (h : EndIn w W g g5 T k m) (hk : k < 8) (hz : z = Sha.zeros T) (hz64 : z < 64) (hne : g ≠ g5) (hg : g5 = w.heap.size) :
    EndIn w (W.setCell ⟨g5, z + 1 + k, none⟩ (.int .u8 (8 * (T : Int) / 2 ^ (8 * (7 - k)) % 256))) g g5 T (k + 1) m := by
  refine ⟨?_, h.2.1.only (g := g5) ((Only.refl g5 W).setCell _ _) hne, h.2.2.setCell (by rw [hg]; exact Nat.le_refl _) _⟩
  have h1 := h.1.setCell (z + 1 + k) (.int .u8 (8 * (T : Int) / 2 ^ (8 * (7 - k)) % 256))
  have e : (8 * (T : Int) / 2 ^ (8 * (7 - k)) % 256) = ((8 * T / 2 ^ (8 * (7 - k)) % 256 : Nat) : Int) := by
    rw [Int.natCast_emod, Int.natCast_ediv, Int.natCast_mul, Int.natCast_pow]
    rfl
  have h2 := fillB_set (endTo T k) (71 - Sha.zeros T - (k + 1)) (8 * T / 2 ^ (8 * (7 - k)) % 256)
  rw [endTo_length T k (by omega), ← e, show 71 - Sha.zeros T - (k + 1) + 1 = 71 - Sha.zeros T - k by omega, ← endTo_next T k hk] at h2
  rw [hz] at h1 ⊢
  rw [h2] at h1
  exact h1

set_option maxHeartbeats 1000000 in
set_option maxRecDepth 100000 in
theorem writeEnd_any (g : Nat) (m : List Nat) (w : World) (hs : StIn w g m) (ht : TabIn w) (hg : 1 < g) (hlen : m.length < 1152921504606846976) :
    Calls Tryd.prog 49 #[.pointer (some ⟨g, 0, none⟩)] w fun e w' => e = .returned noResult ∧ StIn w' g (m ++ Sha.pad m.length) ∧ Only g w w' := by
  go_enter Tryd.func49, Tryd.ntmps49
  go_upto_region 0 with fail
  refine wp_region_lit ?_
  refine wpList_alloc' (zerosU8 72) zero52 rfl rfl ?_
  intro w1 r1 s1 b1
  refine wpList_nil ?_
  obtain ⟨T, hT⟩ : ∃ T, T = m.length := ⟨_, rfl⟩
  obtain ⟨z, hz⟩ : ∃ z, z = Sha.zeros T := ⟨_, rfl⟩
  have hz64 : z < 64 := by rw [hz]; unfold Sha.zeros; omega
  have hzi : (64 : Int) - ((T : Int) + 8) % 64 = (z : Int) + 1 := by rw [hz]; unfold Sha.zeros; omega
  have hT60 : T < 1152921504606846976 := by omega
  have hs1 := hs.later b1 hs.lt
  have hglt := hs.lt
  obtain ⟨g5, hg5⟩ : ∃ g5, g5 = w.heap.size := ⟨_, rfl⟩
  rw [← hg5] at r1 ⊢
  have c72 : w1.cell? ⟨g, 72, none⟩ = some (.int .u64 (T : Nat)) := by
    obtain ⟨buf, hr, hb, _⟩ := hs1
    rw [hT]
    exact hr.at 72 _ (stCells_taken _ _ _ hb)
  have c5 : w1.cell? ⟨g5, 0, none⟩ = some (.int .u8 0) := r1.at 0 _ rfl
  have f5 := r1.frozen 0
  have hgne : g ≠ g5 := by omega
  have hE : EndIn w (w1.setCell ⟨g5, 0, none⟩ (.int .u8 128)) g g5 T 0 m := by
    refine ⟨?_, hs1.only (g := g5) ((Only.refl g5 w1).setCell 0 _) hgne, b1.setCell (by rw [hg5]; exact Nat.le_refl _) _⟩
    have := r1.setCell 0 (.int .u8 128)
    rw [show fillB (endTo T 0) (71 - Sha.zeros T - 0) = fillB [128] 71 by
      show fillB ([128] ++ List.replicate (Sha.zeros T) 0 ++ []) _ = _
      rw [List.append_nil, fillB_zeros]
      congr 1
      rw [← hz]; omega]
    exact this
  have HE : Hid (EndIn w (w1.setCell ⟨g5, 0, none⟩ (.int .u8 128)) g g5 T 0 m) := hE
  have HG : Hid (g5 = w.heap.size) := hg5
  have HT : Hid (T = m.length) := hT
  have HZ : Hid (z = Sha.zeros T) := hz
  clear hE hs1 r1 s1 b1 hg5 hT hz hlen hglt
  go_wp2
  go_loopw [19] (fun i W => ∃ k : Nat, k ≤ 8 ∧ i = .int .u64 k ∧ EndIn w W g g5 T k m) (fun i _ => 8 - (intOf i).toNat)
  case atStart => exact ⟨0, Nat.zero_le _, rfl, HE.out⟩
  case round =>
    clear HE c72 c5 f5
    obtain ⟨k, hk, rfl, he⟩ := hrel
    by_cases hlt : k < 8
    · have HE : Hid (EndIn w wr g g5 T k m) := he
      have f5 := he.1.frozen (z + 1 + k)
      obtain ⟨q, e0⟩ : ∃ q, wr.cell? ⟨g5, z + 1 + k, none⟩ = some q := ⟨_, he.1.at _ _ (List.getElem?_eq_getElem (by rw [fillB_length, endTo_length _ _ hk, ← HZ.out]; omega))⟩
      clear he
      go_wp2
      exact ⟨⟨k + 1, by omega, by go_num, HE.out.step hlt HZ.out hz64 hgne HG.out⟩, by simp [intOf]; omega⟩
    · obtain rfl : k = 8 := by omega
      have hsl : ∀ W, (Instr.sliceAt 85 (.pointer (some ⟨g5, 0, none⟩)) none (some (.int .u64 ((z : Int) + 1 + 8))) none).run Tryd.prog W = .ok (.slice (some ⟨g5, 0, none⟩) (z + 1 + 8) 72) W := fun W => slice52_to g5 (z + 1 + 8) (by omega) W
      have hpl : (Sha.pad T).length = z + 1 + 8 := by rw [Sha.pad_length, ← HZ.out]
      have hsli : SliceOff wr g (.slice (some ⟨g5, 0, none⟩) (z + 1 + 8) 72) (Sha.pad T) := by
        refine ⟨some ⟨g5, 0, none⟩, 72, by rw [hpl], by rw [hpl]; omega, Or.inr ⟨g5, 0, rfl, fun h => hgne h.symm, ?_⟩⟩
        have h := he.1
        rw [endTo_all] at h
        exact fillB_bytes h (pad_lt T)
      have hst := he.2.1
      have hbl := he.2.2
      clear he hpl
      go_wp2_with (go_at_call 42; refine (write_any g _ m (Sha.pad T) _ hst hsli (ht.later hbl) hg (by have := HT.out; have := Sha.pad_length T; have := HZ.out; omega)).mono ?_; rintro e w' ⟨rfl, hst2, ho2⟩)
      go_end0
      rw [HT.out] at hst2
      exact ⟨rfl, hst2, (Only.of_below hbl).trans ho2⟩
end Go.Proofs.YtjdmpanemdhbbaaDoor

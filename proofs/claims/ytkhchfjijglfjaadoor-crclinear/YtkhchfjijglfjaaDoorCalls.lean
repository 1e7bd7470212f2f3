/- What More, Sum and the document's own two answer for any slice of bytes, and what 'shown' answers. -/
import Derived.Test.YtkhchfjijglfjaaDoorRef
import Derived.Lib.SlBytesConst
namespace Go.Proofs.YtkhchfjijglfjaaDoor
open Go.RowKit

/-- a slice value that holds just these bytes -/
def SliceIn (w : World) (v : Value) (cs : List Nat) : Prop :=
  ∃ p cap, v = .slice p cs.length cap ∧ cs.length ≤ 9223372036854775807 ∧ (cs = [] ∨ ∃ b off, p = some ⟨b, off, none⟩ ∧ BytesIn w b off cs)

theorem BytesIn.later {w wx : World} {b off : Nat} {cs : List Nat} (hb : Below w.heap.size w wx) (h : BytesIn w b off cs) : BytesIn wx b off cs :=
  ⟨fun j hj => cell_later hb (h.1 j hj), h.2⟩
theorem TabIn.later {w wx : World} (hb : Below w.heap.size w wx) (h : TabIn w) : TabIn wx := fun r => cell_later hb (h r)
theorem SliceIn.later {w wx : World} {v : Value} {cs : List Nat} (hb : Below w.heap.size w wx) (h : SliceIn w v cs) : SliceIn wx v cs := by
  obtain ⟨p, cap, rfl, hl, h⟩ := h
  refine ⟨p, cap, rfl, hl, ?_⟩
  rcases h with h | ⟨b, off, rfl, h⟩
  · exact Or.inl h
  · exact Or.inr ⟨b, off, rfl, h.later hb⟩

set_option maxHeartbeats 400000 in
theorem more_none (s : BitVec 32) (p : Option Addr) (cap : Nat) (w : World) :
    Calls Tryd.prog 11 #[.int .u32 (Crc.U s), .slice p 0 cap] w fun e w' => e = .returned (.int .u32 (Crc.U s)) ∧ w' = w := by
  go_enter Tryd.func11, Tryd.ntmps11
  go_wp2
  go_loop [5, 7, 12] (fun r c i => i = .int .i64 0 ∧ r = .int .u32 (bits .xor .u32 IntKind.u32.max (Crc.U s))) (fun _ _ i => 0)
  case atStart => exact ⟨rfl, rfl⟩
  case round =>
    obtain ⟨rfl, rfl⟩ := hrel
    go_wp2
    go_ret
    exact ⟨by rw [Crc.U_not, Crc.U_not, BitVec.not_not]; rfl, rfl⟩

set_option maxHeartbeats 400000 in
theorem ref_none (s : BitVec 32) (p : Option Addr) (cap : Nat) (w : World) :
    Calls Tryd.prog 12 #[.int .u32 (Crc.U s), .slice p 0 cap] w fun e w' => e = .returned (.int .u32 (Crc.U s)) ∧ w' = w := by
  go_enter Tryd.func12, Tryd.ntmps12
  go_wp2
  go_loop [5, 6, 7] (fun r i _ => i = .int .i64 0 ∧ r = .int .u32 (bits .xor .u32 IntKind.u32.max (Crc.U s))) (fun _ _ _ => 0)
  case atStart => exact ⟨rfl, rfl⟩
  case round =>
    obtain ⟨rfl, rfl⟩ := hrel
    go_wp2
    go_ret
    exact ⟨by rw [Crc.U_not, Crc.U_not, BitVec.not_not]; rfl, rfl⟩

theorem more_any (s : BitVec 32) (v : Value) (cs : List Nat) (w : World) (h : SliceIn w v cs) (ht : TabIn w) :
    Calls Tryd.prog 11 #[.int .u32 (Crc.U s), v] w fun e w' => e = .returned (.int .u32 (Crc.U (Crc.more s cs))) ∧ w = w' := by
  obtain ⟨p, cap, rfl, hl, h⟩ := h
  rcases h with rfl | ⟨b, off, rfl, h⟩
  · rw [Crc.more_nil]
    exact (more_none s p cap w).mono fun e w' h => ⟨h.1, h.2.symm⟩
  · exact (more_some s b off cap cs w hl h ht).mono fun e w' h => ⟨h.1, h.2.symm⟩

theorem ref_any (s : BitVec 32) (v : Value) (cs : List Nat) (w : World) (h : SliceIn w v cs) :
    Calls Tryd.prog 12 #[.int .u32 (Crc.U s), v] w fun e w' => e = .returned (.int .u32 (Crc.U (Crc.more s cs))) ∧ w = w' := by
  obtain ⟨p, cap, rfl, hl, h⟩ := h
  rcases h with rfl | ⟨b, off, rfl, h⟩
  · rw [Crc.more_nil]
    exact (ref_none s p cap w).mono fun e w' h => ⟨h.1, h.2.symm⟩
  · exact (ref_some s b off cap cs w hl h).mono fun e w' h => ⟨h.1, h.2.symm⟩

theorem U_zero : (0 : Int) = Crc.U 0#32 := by decide

/-- from the sum 0 -/
theorem more_any0 (v : Value) (cs : List Nat) (w : World) (h : SliceIn w v cs) (ht : TabIn w) :
    Calls Tryd.prog 11 #[.int .u32 0, v] w fun e w' => e = .returned (.int .u32 (Crc.U (Crc.more 0#32 cs))) ∧ w = w' := by
  rw [U_zero]
  exact more_any 0#32 v cs w h ht
theorem ref_any0 (v : Value) (cs : List Nat) (w : World) (h : SliceIn w v cs) :
    Calls Tryd.prog 12 #[.int .u32 0, v] w fun e w' => e = .returned (.int .u32 (Crc.U (Crc.more 0#32 cs))) ∧ w = w' := by
  rw [U_zero]
  exact ref_any 0#32 v cs w h

set_option maxHeartbeats 400000 in
theorem sum_any (v : Value) (cs : List Nat) (w : World) (h : SliceIn w v cs) (ht : TabIn w) :
    Calls Tryd.prog 9 #[v] w fun e w' => e = .returned (.int .u32 (Crc.U (Crc.more 0#32 cs))) ∧ w = w' := by
  go_enter Tryd.func9, Tryd.ntmps9
  go_wp2_with fail
  refine (more_any0 v cs _ h ht).mono ?_
  rintro e w' ⟨rfl, rfl⟩
  go_wp2
  go_ret
  exact ⟨rfl, rfl⟩
set_option maxHeartbeats 400000 in
theorem refsum_any (v : Value) (cs : List Nat) (w : World) (h : SliceIn w v cs) :
    Calls Tryd.prog 10 #[v] w fun e w' => e = .returned (.int .u32 (Crc.U (Crc.more 0#32 cs))) ∧ w = w' := by
  go_enter Tryd.func10, Tryd.ntmps10
  go_wp2_with fail
  refine (ref_any0 v cs _ h).mono ?_
  rintro e w' ⟨rfl, rfl⟩
  go_wp2
  go_ret
  exact ⟨rfl, rfl⟩

/-- a row that is a new block's cells -/
theorem sliceIn_new (w : World) (cs : List Nat) (hb : ∀ j : Nat, cs.getD j 0 < 256) (hl : cs.length ≤ 9223372036854775807) (cap : Nat) (t : TypeId) (fr : Nat × Nat) :
    SliceIn (w.alloc (.cells (cs.map fun c => Value.int .u8 (c : Nat)).toArray t fr)) (.slice (some ⟨w.heap.size, 0, none⟩) cs.length cap) cs := by
  refine ⟨_, cap, rfl, hl, Or.inr ⟨w.heap.size, 0, rfl, fun j hj => ?_, hb⟩⟩
  have e : ∀ o : Obj, (w.alloc o).heap[w.heap.size]? = some o := fun o => by
    show (w.heap.push o)[w.heap.size]? = _
    simp
  unfold World.cell?
  rw [e]
  simp [hj]

theorem getD_lt (cs : List Nat) (h : ∀ c ∈ cs, c < 256) (j : Nat) : cs.getD j 0 < 256 := by
  by_cases hj : j < cs.length
  · simpa [hj] using h _ (List.getElem_mem hj)
  · simp [hj]

theorem nines (w : World) : SliceIn (w.alloc (.cells #[.int .u8 49, .int .u8 50, .int .u8 51, .int .u8 52, .int .u8 53, .int .u8 54, .int .u8 55, .int .u8 56, .int .u8 57] 5 (9, 10))) (.slice (some ⟨w.heap.size, 0, none⟩) 9 9) [49, 50, 51, 52, 53, 54, 55, 56, 57] :=
  sliceIn_new w [49, 50, 51, 52, 53, 54, 55, 56, 57] (getD_lt _ (by decide)) (by decide) 9 5 (9, 10)
theorem zeros (w : World) : SliceIn (w.alloc (.cells #[.int .u8 0] 5)) (.slice (some ⟨w.heap.size, 0, none⟩) 1 1) [0] :=
  sliceIn_new w [0] (getD_lt _ (by decide)) (by decide) 1 5 _
theorem sliceIn_nil (w : World) : SliceIn w (.slice none 0 0) [] := ⟨none, 0, rfl, by decide, Or.inl rfl⟩
theorem sum_nines : Crc.U (Crc.more 0#32 [49, 50, 51, 52, 53, 54, 55, 56, 57]) = 3421780262 := by decide +kernel
theorem sum_zeros : Crc.U (Crc.more 0#32 [0]) = 3523407757 := by decide +kernel
theorem sum_nil : Crc.U (Crc.more 0#32 []) = 0 := by decide +kernel
theorem U_nines : (3421780262 : Int) = Crc.U 0xcbf43926#32 := by decide +kernel
theorem more_nines (w : World) (ht : TabIn w) :
    Calls Tryd.prog 11 #[.int .u32 3421780262, .slice none 0 0] w fun e w' => e = .returned (.int .u32 3421780262) ∧ w = w' := by
  rw [U_nines]
  have h := more_any 0xcbf43926#32 (.slice none 0 0) [] w (sliceIn_nil w) ht
  rw [Crc.more_nil] at h
  exact h

set_option maxHeartbeats 400000 in
theorem shown_any (w : World) (ht : TabIn w) :
    Calls Tryd.prog 8 #[] w fun e w' => e = .returned (.bool true) ∧ Below w.heap.size w w' := by
  have kc := fun (w : World) (C : Array Value) (n c : Nat) => Lib.run_convert_bytes_const (P := Tryd.prog) w 22 5 C n c Tryd.underlying22 Tryd.underlying5
  have HB1 : Hid (∀ o : Obj, Below w.heap.size w (w.alloc o)) := fun o => (Below.refl _ _).alloc (Nat.le_refl _) o
  have HB2 : Hid (∀ o o' : Obj, Below w.heap.size w ((w.alloc o).alloc o')) := fun o o' => (HB1.out o).alloc (HB1.out o).size o'
  go_enter Tryd.func8, Tryd.ntmps8
  go_wp2_with fail
  refine (sum_any _ _ _ (nines w) (ht.later (HB1.out _))).mono ?_
  rintro e w' ⟨rfl, rfl⟩
  rw [sum_nines]
  go_wp2_with fail
  refine (sum_any _ _ _ (by have := zeros (w.alloc (.cells #[.int .u8 49, .int .u8 50, .int .u8 51, .int .u8 52, .int .u8 53, .int .u8 54, .int .u8 55, .int .u8 56, .int .u8 57] 5 (9, 10))); simpa using this) (ht.later (HB2.out _ _))).mono ?_
  rintro e w' ⟨rfl, rfl⟩
  rw [sum_zeros]
  go_wp2_with fail
  refine (sum_any _ _ _ (sliceIn_nil _) (ht.later (HB2.out _ _))).mono ?_
  rintro e w' ⟨rfl, rfl⟩
  rw [sum_nil]
  go_wp2_with fail
  refine (more_nines _ (ht.later (HB2.out _ _))).mono ?_
  rintro e w' ⟨rfl, rfl⟩
  go_wp2_with fail
  go_ret
  exact ⟨rfl, HB2.out _ _⟩
end Go.Proofs.YtkhchfjijglfjaaDoor

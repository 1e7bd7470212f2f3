/- A State in memory: its cells, what they say of the bytes that it has taken, and what one more run of bytes makes of them. -/
import Derived.Test.YtjdmpanemdhbbaaDoorMixed
namespace Go.Proofs.YtjdmpanemdhbbaaDoor
open Go.RowKit

/-- bytes as cells -/
def bcells (cs : List Nat) : List Value := cs.map fun c => Value.int .u8 (c : Nat)
theorem bcells_length (cs : List Nat) : (bcells cs).length = cs.length := by simp [bcells]
theorem bcells_append (a b : List Nat) : bcells (a ++ b) = bcells a ++ bcells b := by simp [bcells]
theorem bcells_one (cs : List Nat) : ∀ v ∈ bcells cs, v.oneCell' = true := by
  intro v hv
  obtain ⟨c, _, rfl⟩ := List.mem_map.1 hv
  rfl
theorem bcells_at (cs : List Nat) (i : Nat) (h : i < cs.length) : (bcells cs)[i]? = some (.int .u8 (cs.getD i 0 : Nat)) := by simp [bcells, h]

/-- the cells of a State -/
def stCells (h : Sha.W8) (buf : List Nat) (T : Nat) : List Value := wcells h.list ++ (bcells buf ++ [.int .u64 (T : Nat)])
theorem stCells_length (h : Sha.W8) (buf : List Nat) (T : Nat) : (stCells h buf T).length = 9 + buf.length := by
  simp [stCells, wcells_length, bcells_length, Sha.W8.list_length]
  omega
theorem stCells_word (h : Sha.W8) (buf : List Nat) (T i : Nat) (hi : i < 8) : (stCells h buf T)[i]? = some (.int .u32 (Sha.U (h.list.getD i 0))) := by
  unfold stCells
  rw [List.getElem?_append_left (by rw [len8]; exact hi)]
  exact wcells_at h.list i hi
theorem stCells_byte (h : Sha.W8) (buf : List Nat) (T i : Nat) (hi : i < buf.length) : (stCells h buf T)[8 + i]? = some (.int .u8 (buf.getD i 0 : Nat)) := by
  unfold stCells
  rw [List.getElem?_append_right (by rw [len8]; omega), len8, Nat.add_sub_cancel_left, List.getElem?_append_left (by rw [bcells_length]; exact hi)]
  exact bcells_at buf i hi
theorem stCells_taken (h : Sha.W8) (buf : List Nat) (T : Nat) (hb : buf.length = 64) : (stCells h buf T)[72]? = some (.int .u64 (T : Nat)) := by
  unfold stCells
  rw [List.getElem?_append_right (by rw [len8]; omega), len8, List.getElem?_append_right (by rw [bcells_length]; omega), bcells_length, hb]
  rfl
theorem stCells_set (h : Sha.W8) (buf : List Nat) (T T' : Nat) (hb : buf.length = 64) : (stCells h buf T).set 72 (.int .u64 (T' : Nat)) = stCells h buf T' := by
  unfold stCells
  rw [List.set_append_right _ _ (by rw [len8]; omega), len8, List.set_append_right _ _ (by rw [bcells_length]; omega), bcells_length, hb]
  rfl
theorem stCells_words (h h' : Sha.W8) (buf : List Nat) (T : Nat) : splice (stCells h buf T) 0 (wcells h'.list) = stCells h' buf T := by
  unfold splice stCells
  rw [List.take_zero, List.nil_append, Nat.zero_add, len8, List.drop_append_of_le_length (by rw [len8]; exact Nat.le_refl _), List.drop_of_length_le (by rw [len8]; exact Nat.le_refl _), List.nil_append]
theorem stCells_bytes (h : Sha.W8) (buf c : List Nat) (T r : Nat) (hr : r + c.length ≤ buf.length) : splice (stCells h buf T) (8 + r) (bcells c) = stCells h (splice buf r c) T := by
  unfold splice stCells
  have e1 : (wcells h.list).length = 8 := len8 h
  rw [List.take_append, List.drop_append, e1, List.take_of_length_le (by rw [e1]; omega), List.drop_of_length_le (by rw [e1]; omega), Nat.add_sub_cancel_left, bcells_length, List.nil_append, List.append_assoc]
  congr 1
  rw [show 8 + r + c.length - 8 = r + c.length by omega, List.take_append_of_le_length (by rw [bcells_length]; omega), List.drop_append_of_le_length (by rw [bcells_length]; omega)]
  simp [bcells]
theorem stCells_one (h : Sha.W8) (buf : List Nat) (T : Nat) : ∀ v ∈ stCells h buf T, v.oneCell' = true := by
  intro v hv
  rcases List.mem_append.1 hv with hv | hv
  · exact wcells_one _ v hv
  · rcases List.mem_append.1 hv with hv | hv
    · exact bcells_one _ v hv
    · obtain rfl := List.mem_singleton.1 hv
      rfl

/-- a State at block g that has taken these bytes -/
def StIn (w : World) (g : Nat) (m : List Nat) : Prop :=
  ∃ buf : List Nat, Row w g 70 (stCells (Sha.full m) buf m.length) ∧ buf.length = 64 ∧ (∀ c ∈ buf, c < 256) ∧ buf.take (m.length % 64) = m.drop (64 * (m.length / 64))

theorem splice_take {α : Type} (buf c : List α) (r : Nat) (h : r + c.length ≤ buf.length) : (splice buf r c).take (r + c.length) = buf.take r ++ c := by
  unfold splice
  rw [← List.append_assoc, List.take_append_of_le_length (by simp; omega), List.take_of_length_le (by simp; omega)]
theorem splice_lt (buf c : List Nat) (r : Nat) (hb : ∀ x ∈ buf, x < 256) (hc : ∀ x ∈ c, x < 256) : ∀ x ∈ splice buf r c, x < 256 := by
  intro x hx
  unfold splice at hx
  rcases List.mem_append.1 hx with hx | hx
  · exact hb x (List.mem_of_mem_take hx)
  · rcases List.mem_append.1 hx with hx | hx
    · exact hc x hx
    · exact hb x (List.mem_of_mem_drop hx)

/-- a run that does not fill the piece -/
theorem StIn.part {w : World} {g : Nat} {m c buf : List Nat} (hr : Row w g 70 (stCells (Sha.full m) (splice buf (m.length % 64) c) (m.length + c.length))) (hb : buf.length = 64) (hl : ∀ x ∈ buf, x < 256) (hc : ∀ x ∈ c, x < 256)
    (ht : buf.take (m.length % 64) = m.drop (64 * (m.length / 64))) (hlt : m.length % 64 + c.length < 64) : StIn w g (m ++ c) := by
  refine ⟨splice buf (m.length % 64) c, ?_, by rw [length_splice _ _ _ (by omega), hb], splice_lt _ _ _ hl hc, ?_⟩
  · rw [Sha.full_same m c hlt, List.length_append]
    exact hr
  · rw [List.length_append, show (m.length + c.length) % 64 = m.length % 64 + c.length by omega, splice_take _ _ _ (by omega), ht, show (m.length + c.length) / 64 = m.length / 64 by omega, List.drop_append_of_le_length (by omega)]
/-- a run that fills it -/
theorem splice_full {m c buf : List Nat} (hb : buf.length = 64) (ht : buf.take (m.length % 64) = m.drop (64 * (m.length / 64))) (heq : m.length % 64 + c.length = 64) : splice buf (m.length % 64) c = m.drop (64 * (m.length / 64)) ++ c := by
  have h := splice_take buf c (m.length % 64) (by omega)
  rw [heq, List.take_of_length_le (by rw [length_splice _ _ _ (by omega), hb]; exact Nat.le_refl _), ht] at h
  exact h
theorem StIn.fill {w : World} {g : Nat} {m c buf : List Nat} (hr : Row w g 70 (stCells (Sha.comp (Sha.full m) (splice buf (m.length % 64) c)) (splice buf (m.length % 64) c) (m.length + c.length))) (hb : buf.length = 64) (hl : ∀ x ∈ buf, x < 256) (hc : ∀ x ∈ c, x < 256)
    (ht : buf.take (m.length % 64) = m.drop (64 * (m.length / 64))) (heq : m.length % 64 + c.length = 64) : StIn w g (m ++ c) := by
  refine ⟨splice buf (m.length % 64) c, ?_, by rw [length_splice _ _ _ (by omega), hb], splice_lt _ _ _ hl hc, ?_⟩
  · rw [Sha.full_next m c heq, List.length_append, ← splice_full hb ht heq]
    exact hr
  · rw [List.length_append, show (m.length + c.length) % 64 = 0 by omega, List.take_zero, List.drop_of_length_le (by simp; omega)]

/-- of what was there nothing has turned but block g -/
structure Only (g : Nat) (w w' : World) : Prop where
  os : w'.os = w.os
  tape : w'.tape = w.tape
  output : w'.output = w.output
  size : w.heap.size ≤ w'.heap.size
  block : ∀ k, k < w.heap.size → k ≠ g → w'.heap[k]? = w.heap[k]?
theorem Only.refl (g : Nat) (w : World) : Only g w w := ⟨rfl, rfl, rfl, Nat.le_refl _, fun _ _ _ => rfl⟩
theorem Only.trans {g : Nat} {a b c : World} (h : Only g a b) (k : Only g b c) : Only g a c :=
  ⟨k.os.trans h.os, k.tape.trans h.tape, k.output.trans h.output, Nat.le_trans h.size k.size, fun i hi hne => (k.block i (Nat.lt_of_lt_of_le hi h.size) hne).trans (h.block i hi hne)⟩
theorem Only.of_below {g : Nat} {w w' : World} (h : Below w.heap.size w w') : Only g w w' := ⟨h.os, h.tape, h.output, h.size, fun k hk _ => h.block k hk⟩
theorem Only.setRow {g : Nat} {a w : World} (h : Only g a w) (xs : Array Value) : Only g a (w.setRow g xs) :=
  h.trans ⟨rfl, rfl, rfl, by simp [World.setRow], fun k _ hne => Go.setRow_other w g k xs hne⟩
theorem Only.setCell {g : Nat} {a w : World} (h : Only g a w) (i : Nat) (v : Value) : Only g a (w.setCell ⟨g, i, none⟩ v) :=
  h.trans ⟨rfl, rfl, rfl, by simp, fun k _ hne => Below.heap_setCell w _ v k hne⟩
theorem Only.drewN {g : Nat} {a w : World} (h : Only g a w) (n : Nat) : Only g a (w.drewN n) := ⟨h.os, h.tape, h.output, h.size, h.block⟩
theorem Only.below {g B : Nat} {w w' : World} (h : Only g w w') (hB : B ≤ g) (hB' : B ≤ w.heap.size) : Below B w w' :=
  ⟨h.os, h.tape, h.output, h.size, fun k hk => h.block k (by omega) (by omega)⟩
theorem Only.cell {g : Nat} {w w' : World} (h : Only g w w') {b i : Nat} {v : Value} (hb : b ≠ g) (hc : w.cell? ⟨b, i, none⟩ = some v) : w'.cell? ⟨b, i, none⟩ = some v := by
  rw [← hc]
  exact World.cell?_of_block (w := w) (h.block b (block_lt_of_cell hc) hb)
theorem Only.row {g : Nat} {w w' : World} (h : Only g w w') {k : Nat} {t : TypeId} {cs : List Value} (hk : k ≠ g) (hr : Row w k t cs) : Row w' k t cs := by
  unfold Row
  rw [h.block k hr.lt hk]
  exact hr
theorem Only.bytes {g : Nat} {w w' : World} (h : Only g w w') {b off : Nat} {cs : List Nat} (hb : b ≠ g) (hr : BytesIn w b off cs) : BytesIn w' b off cs :=
  ⟨fun j hj => h.cell hb (hr.1 j hj), hr.2⟩
theorem Only.tab {g : Nat} {w w' : World} (h : Only g w w') (hg : 1 < g) (hr : TabIn w) : TabIn w' := fun t ht => h.cell (by omega) (hr t ht)
theorem StIn.later {w w' : World} {B g : Nat} {m : List Nat} (h : StIn w g m) (hb : Below B w w') (hg : g < B) : StIn w' g m := by
  obtain ⟨buf, hr, h⟩ := h
  exact ⟨buf, hr.later hb hg, h⟩
theorem StIn.only {w w' : World} {g k : Nat} {m : List Nat} (h : StIn w k m) (hb : Only g w w') (hg : k ≠ g) : StIn w' k m := by
  obtain ⟨buf, hr, h⟩ := h
  exact ⟨buf, hb.row hg hr, h⟩
theorem StIn.lt {w : World} {g : Nat} {m : List Nat} (h : StIn w g m) : g < w.heap.size := by
  obtain ⟨buf, hr, h⟩ := h
  exact hr.lt

/-- a slice value that holds just these bytes, none of them in block g -/
def SliceOff (w : World) (g : Nat) (v : Value) (cs : List Nat) : Prop :=
  ∃ p cap, v = .slice p cs.length cap ∧ cs.length ≤ cap ∧ (cs = [] ∨ ∃ b off, p = some ⟨b, off, none⟩ ∧ b ≠ g ∧ BytesIn w b off cs)
/-- a slice value that holds just these bytes -/
def SliceIn (w : World) (v : Value) (cs : List Nat) : Prop :=
  ∃ p cap, v = .slice p cs.length cap ∧ (cs.length ≤ cap ∧ cs.length ≤ 9223372036854775807) ∧ (cs = [] ∨ ∃ b off, p = some ⟨b, off, none⟩ ∧ BytesIn w b off cs)
theorem BytesIn.lt {w : World} {b off : Nat} {cs : List Nat} (h : BytesIn w b off cs) (hne : cs ≠ []) : b < w.heap.size :=
  block_lt_of_cell (h.1 0 (by cases cs <;> simp_all))
theorem SliceIn.later {w wx : World} {v : Value} {cs : List Nat} (hb : Below w.heap.size w wx) (h : SliceIn w v cs) : SliceIn wx v cs := by
  obtain ⟨p, cap, rfl, hl, h⟩ := h
  refine ⟨p, cap, rfl, hl, ?_⟩
  rcases h with h | ⟨b, off, rfl, h⟩
  · exact Or.inl h
  · exact Or.inr ⟨b, off, rfl, h.later hb⟩
theorem SliceIn.bytes {w : World} {v : Value} {cs : List Nat} (h : SliceIn w v cs) (j : Nat) : cs.getD j 0 < 256 := by
  obtain ⟨p, cap, rfl, hl, h⟩ := h
  rcases h with rfl | ⟨b, off, rfl, _, hb⟩
  · simp
  · exact hb j
/-- a slice that was there is none of a block that came later -/
theorem SliceIn.off {w wx : World} {v : Value} {cs : List Nat} {g : Nat} (h : SliceIn w v cs) (hg : w.heap.size ≤ g) (hb : Below w.heap.size w wx) : SliceOff wx g v cs := by
  obtain ⟨p, cap, rfl, hl, h⟩ := h
  refine ⟨p, cap, rfl, hl.1, ?_⟩
  rcases h with h | ⟨b, off, rfl, h⟩
  · exact Or.inl h
  · by_cases hne : cs = []
    · exact Or.inl hne
    · exact Or.inr ⟨b, off, rfl, by have := h.lt hne; omega, h.later hb⟩
end Go.Proofs.YtjdmpanemdhbbaaDoor

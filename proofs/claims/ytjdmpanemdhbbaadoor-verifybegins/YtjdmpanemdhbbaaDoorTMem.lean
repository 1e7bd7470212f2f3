/- Rows of hashes in memory: what a slice of hashes holds, what the call owns; a hash in a block of its own; the laws of len, cutting, index, literals, append, array slices, comparison. -/
import Derived.Test.YtjdmpanemdhbbaaDoorAppend
import Derived.Test.YtjdmpanemdhbbaaDoorEql
import Derived.Test.YtjdmpanemdhbbaaDoorWrite
import Derived.Test.YtjdmpanemdhbbaaDoorSum
import Derived.Test.YtjdmpanemdhbbaaDoorTMath
import Derived.Great.BuildSlice
import Derived.OrdersHeld
namespace Go.Proofs.YtjdmpanemdhbbaaDoor
open Go.RowKit

def IsH (h : List Nat) : Prop := h.length = 32 ∧ ∀ c ∈ h, c < 256
def AllH (hs : List (List Nat)) : Prop := ∀ h ∈ hs, IsH h
/-- a hash as a value -/
def hv (h : List Nat) : Value := .agg (bcells h).toArray
theorem IsH.getD {h : List Nat} (hh : IsH h) (j : Nat) : h.getD j 0 < 256 := by
  by_cases hj : j < h.length
  · have := hh.2 h[j] (List.getElem_mem hj)
    simpa [hj] using this
  · simp [hj]
theorem wordBytes_lt (x : BitVec 32) : ∀ c ∈ Sha.wordBytes x, c < 256 := by
  intro c hc
  simp only [Sha.wordBytes, List.mem_cons, List.not_mem_nil, or_false] at hc
  omega
theorem sha_isH (m : List Nat) : IsH (Sha.sha m) := by
  refine ⟨sha_length m, fun c hc => ?_⟩
  unfold Sha.sha Sha.outBytes at hc
  obtain ⟨x, _, hx⟩ := List.mem_flatMap.1 hc
  exact wordBytes_lt x c hx
theorem leaf_isH (b : List Nat) : IsH (Tree.leaf b) := sha_isH _
theorem node_isH (l r : List Nat) : IsH (Tree.node l r) := sha_isH _
theorem AllH.take {hs : List (List Nat)} (h : AllH hs) (k : Nat) : AllH (hs.take k) := fun x hx => h x (List.mem_of_mem_take hx)
theorem AllH.drop {hs : List (List Nat)} (h : AllH hs) (k : Nat) : AllH (hs.drop k) := fun x hx => h x (List.mem_of_mem_drop hx)
theorem AllH.append {a b : List (List Nat)} (h : AllH a) (k : AllH b) : AllH (a ++ b) := fun x hx => (List.mem_append.1 hx).elim (h x) (k x)
theorem AllH.one {h : List Nat} (hh : IsH h) : AllH [h] := fun x hx => by rw [List.mem_singleton.1 hx]; exact hh
theorem AllH.nil : AllH [] := fun _ h => by cases h
theorem AllH.at {hs : List (List Nat)} (h : AllH hs) (i : Nat) (hi : i < hs.length) : IsH (hs.getD i []) := by
  rw [List.getD_eq_getElem?_getD, List.getElem?_eq_getElem hi]
  exact h _ (List.getElem_mem hi)
theorem root_isH : ∀ (n : Nat) (hs : List (List Nat)), hs.length = n → AllH hs → IsH (Tree.root hs) := by
  intro n hs hn ha
  rcases Nat.lt_or_ge hs.length 2 with h | h
  · rcases Nat.lt_or_ge hs.length 1 with h0 | h0
    · rw [Tree.root_none hs (by omega)]
      exact sha_isH _
    · rw [Tree.root_one hs (by omega)]
      exact ha.at 0 (by omega)
  · rw [Tree.root_two hs h]
    exact node_isH _ _
theorem AllH.root {hs : List (List Nat)} (h : AllH hs) : IsH (Tree.root hs) := root_isH _ hs rfl h

theorem flat_length (hs : List (List Nat)) (h : AllH hs) : hs.flatten.length = hs.length * 32 := by
  induction hs with
  | nil => rfl
  | cons x xs ih =>
    rw [List.flatten_cons, List.length_append, ih (fun y hy => h y (List.mem_cons_of_mem _ hy)), (h x (List.mem_cons_self ..)).1, List.length_cons, Nat.add_mul]
    omega
theorem flat_take (hs : List (List Nat)) (h : AllH hs) (k : Nat) : (hs.take k).flatten = hs.flatten.take (k * 32) := by
  induction hs generalizing k with
  | nil => simp
  | cons x xs ih =>
    cases k with
    | zero => simp
    | succ k =>
      have hx := (h x (List.mem_cons_self ..)).1
      rw [List.take_succ_cons, List.flatten_cons, List.flatten_cons, ih (fun y hy => h y (List.mem_cons_of_mem _ hy)), List.take_append, List.take_of_length_le (l := x) (i := (k + 1) * 32) (by omega), show (k + 1) * 32 - x.length = k * 32 by omega]
theorem flat_drop (hs : List (List Nat)) (h : AllH hs) (k : Nat) : (hs.drop k).flatten = hs.flatten.drop (k * 32) := by
  induction hs generalizing k with
  | nil => simp
  | cons x xs ih =>
    cases k with
    | zero => simp
    | succ k =>
      have hx := (h x (List.mem_cons_self ..)).1
      rw [List.drop_succ_cons, List.flatten_cons, ih (fun y hy => h y (List.mem_cons_of_mem _ hy)), List.drop_append, List.drop_of_length_le (l := x) (i := (k + 1) * 32) (by omega), List.nil_append, show (k + 1) * 32 - x.length = k * 32 by omega]
theorem flat_at (hs : List (List Nat)) (h : AllH hs) (i j : Nat) (hi : i < hs.length) (hj : j < 32) : hs.flatten.getD (i * 32 + j) 0 = (hs.getD i []).getD j 0 := by
  induction hs generalizing i with
  | nil => simp at hi
  | cons x xs ih =>
    have hx := (h x (List.mem_cons_self ..)).1
    rw [List.flatten_cons]
    cases i with
    | zero => simp [List.getElem?_append_left, hx, hj]
    | succ i =>
      have := ih (fun y hy => h y (List.mem_cons_of_mem _ hy)) i (by simpa using hi)
      rw [List.getD_eq_getElem?_getD, List.getElem?_append_right (by omega), hx, show (i + 1) * 32 + j - 32 = i * 32 + j by omega, ← List.getD_eq_getElem?_getD, this]
      simp
theorem flat_lt (hs : List (List Nat)) (h : AllH hs) (j : Nat) : hs.flatten.getD j 0 < 256 := by
  by_cases hj : j < hs.flatten.length
  · have hm := List.getElem_mem hj
    obtain ⟨l, hl, hx⟩ := List.mem_flatten.1 hm
    rw [List.getD_eq_getElem?_getD, List.getElem?_eq_getElem hj]
    exact (h l hl).2 _ hx
  · rw [List.getD_eq_getElem?_getD, List.getElem?_eq_none (by omega)]
    decide

/-- a slice value that holds just these hashes -/
def HIn (w : World) (v : Value) (hs : List (List Nat)) : Prop :=
  AllH hs ∧ ∃ p cap, v = .slice p hs.length cap ∧ (hs.length ≤ cap ∧ hs.length ≤ 9223372036854775807) ∧ (hs = [] ∨ ∃ b off, p = some ⟨b, off, none⟩ ∧ BytesIn w b off hs.flatten)
/-- hashes that the call has made -/
def HOwn (w : World) (base : Nat) (v : Value) (hs : List (List Nat)) : Prop := AllH hs ∧ w.ownsRow base 23 32 v hs.length (bcells hs.flatten)
/-- a hash in a block of its own -/
def HIs (w : World) (g : Nat) (h : List Nat) : Prop := IsH h ∧ Row w g 23 (bcells h)

theorem HIn.all {w : World} {v : Value} {hs : List (List Nat)} (h : HIn w v hs) : AllH hs := h.1
theorem HIn.max {w : World} {v : Value} {hs : List (List Nat)} (h : HIn w v hs) : hs.length ≤ 9223372036854775807 := by
  obtain ⟨_, p, cap, rfl, hl, _⟩ := h
  exact hl.2
theorem flat_ne {hs : List (List Nat)} (ha : AllH hs) (h : hs ≠ []) : hs.flatten ≠ [] := by
  intro e
  have := flat_length hs ha
  rw [e] at this
  have h1 : 0 < hs.length := List.length_pos_iff.2 h
  have h2 : ([] : List Nat).length = 0 := rfl
  omega
theorem HIn.later {w wx : World} {v : Value} {hs : List (List Nat)} (hb : Below w.heap.size w wx) (h : HIn w v hs) : HIn wx v hs := by
  obtain ⟨ha, p, cap, rfl, hl, h⟩ := h
  refine ⟨ha, p, cap, rfl, hl, ?_⟩
  rcases h with h | ⟨b, off, rfl, h⟩
  · exact Or.inl h
  · exact Or.inr ⟨b, off, rfl, h.later hb⟩
theorem HIn.nil (w : World) : HIn w (.slice none 0 0) [] := ⟨AllH.nil, none, 0, rfl, ⟨Nat.le_refl _, by decide⟩, Or.inl rfl⟩
theorem HOwn.nil (w : World) (base : Nat) : HOwn w base (.slice none 0 0) [] := ⟨AllH.nil, World.ownsRow_nil w base 23 32⟩
theorem HOwn.new (w : World) (base : Nat) (hb : base ≤ w.heap.size) : HOwn (w.alloc (.cells #[] 23)) base (.slice (some ⟨w.heap.size, 0, none⟩) 0 0) [] := ⟨AllH.nil, World.ownsRow_made w #[] 0 hb (Nat.zero_le _) rfl⟩
theorem HOwn.hin {w : World} {base : Nat} {v : Value} {hs : List (List Nat)} (h : HOwn w base v hs) : HIn w v hs := by
  obtain ⟨ha, h⟩ := h
  refine ⟨ha, ?_⟩
  rcases h.2 with ⟨rfl, h0⟩ | ⟨g, cap, cur, rfl, _, hg, hcap, hmax, hsz, htake⟩
  · obtain rfl : hs = [] := List.length_eq_zero_iff.1 h0
    exact ⟨none, 0, rfl, ⟨Nat.le_refl _, by decide⟩, Or.inl rfl⟩
  · unfold maxLen at hmax
    refine ⟨_, cap, rfl, ⟨hcap, by omega⟩, Or.inr ⟨g, 0, rfl, fun j hj => ?_, flat_lt hs ha⟩⟩
    have h2 := h.cells (g := g) rfl j _ (bcells_at hs.flatten j hj)
    rw [add_none] at h2
    exact h2
theorem HOwn.later {w w' : World} {B base : Nat} {v : Value} {hs : List (List Nat)} (h : HOwn w base v hs) (hb : Below B w w') (hB : w.heap.size ≤ B) : HOwn w' base v hs := by
  refine ⟨h.1, World.ownsRow.kept h.2 (row := none) ⟨hb.os, hb.tape, hb.output, hb.size, fun k hk _ => hb.block k (by omega)⟩ ?_⟩
  cases hv : v.ownBlock with
  | none => exact Or.inl rfl
  | some k => exact Or.inr (by simp)
theorem HOwn.weaken {w : World} {base base' : Nat} {v : Value} {hs : List (List Nat)} (h : HOwn w base v hs) (hb : base' ≤ base) : HOwn w base' v hs := by
  refine ⟨h.1, h.2.1, ?_⟩
  rcases h.2.2 with h | ⟨g, cap, cur, h1, h2, h3⟩
  · exact Or.inl h
  · exact Or.inr ⟨g, cap, cur, h1, Nat.le_trans hb h2, h3⟩
theorem HOwn.all {w : World} {base : Nat} {v : Value} {hs : List (List Nat)} (h : HOwn w base v hs) : AllH hs := h.1

theorem HIs.lt {w : World} {g : Nat} {h : List Nat} (k : HIs w g h) : g < w.heap.size := k.2.lt
theorem HIs.later {w w' : World} {B g : Nat} {h : List Nat} (k : HIs w g h) (hb : Below B w w') (hg : g < B) : HIs w' g h := ⟨k.1, k.2.later hb hg⟩
theorem HIs.next {w w' : World} {g : Nat} {h : List Nat} (k : HIs w g h) (hb : Below w.heap.size w w') : HIs w' g h := k.later hb k.lt
theorem HIs.len {w : World} {g : Nat} {h : List Nat} (k : HIs w g h) : (bcells h).length = 32 := by rw [bcells_length]; exact k.1.1
theorem HIs.other {w w' : World} {g k : Nat} {h : List Nat} (hh : HIs w k h) (ho : Only g w w') (hk : k ≠ g) : HIs w' k h := ⟨hh.1, ho.row hk hh.2⟩
def noH : List Nat := List.replicate 32 0
theorem noH_isH : IsH noH := ⟨by simp [noH], fun c hc => by have := (List.mem_replicate.1 hc).2; omega⟩
theorem noH_cells : zerosU8 32 = bcells noH := by simp [zerosU8, bcells, noH]
theorem below_append {a b c : World} (h : Below a.heap.size a b) (k : Below b.heap.size b c) : Below a.heap.size a c := h.trans (k.mono h.size)

theorem size27 : (Tryd.prog.info? 23).map (·.size) = some 32 := by kernel_rfl
theorem info27 : (Tryd.prog.info? 23).map (fun i => (i.zero, i.size, i.bytes)) = some (some (.agg (zerosU8 32).toArray), 32, 32) := by kernel_rfl
theorem elem24 : Tryd.prog.elem 24 = 23 := by kernel_rfl
theorem under24 : Tryd.prog.underlying 24 = some (.slice (Tryd.prog.elem 24)) := by rw [elem24]; exact Tryd.underlying24
theorem run_size27 (w : World) : (sizeOf 23).run Tryd.prog w = .ok 32 w := by
  obtain ⟨i, hi, hsz⟩ := Option.map_eq_some_iff.1 size27
  simp [sizeOf, typeInfo, hi, hsz]

/-! cutting -/
theorem hsub_in {w : World} {hs : List (List Nat)} (ha : AllH hs) {p : Option Addr} {cap : Nat} (hl : hs.length ≤ cap ∧ hs.length ≤ 9223372036854775807) (hin : hs = [] ∨ ∃ b off, p = some ⟨b, off, none⟩ ∧ BytesIn w b off hs.flatten)
    (l h m : Nat) (h1 : l ≤ h) (h2 : h ≤ hs.length) (h3 : h ≤ m) : HIn w (sliced p l h m 32) ((hs.take h).drop l) := by
  have hlen : ((hs.take h).drop l).length = h - l := by simp; omega
  refine ⟨(ha.take h).drop l, ?_⟩
  unfold sliced
  by_cases hz : h = l
  · have e : (hs.take h).drop l = [] := List.length_eq_zero_iff.1 (by omega)
    rw [e]
    refine ⟨if m = l then p else p.map (·.add (l * 32)), m - l, ?_, ⟨by simp, by simp⟩, Or.inl rfl⟩
    rw [show h - l = ([] : List (List Nat)).length by simp; omega]
  · rcases hin with rfl | ⟨b, off, rfl, hc, hb⟩
    · simp at h2
      omega
    · refine ⟨_, m - l, by rw [hlen], ⟨by omega, by omega⟩, Or.inr ⟨b, off + l * 32, ?_, fun j hj => ?_, flat_lt _ ((ha.take h).drop l)⟩⟩
      · rw [if_neg (by omega), Option.map_some, add_none]
      · have hfl := flat_length _ ((ha.take h).drop l)
        rw [hlen] at hfl
        rw [hfl] at hj
        have h7 : (h - l) * 32 = h * 32 - l * 32 := by omega
        have e : ((hs.take h).drop l).flatten.getD j 0 = hs.flatten.getD (l * 32 + j) 0 := by
          rw [flat_drop _ (ha.take h), flat_take _ ha]
          simp [show l * 32 + j < h * 32 by omega]
        rw [e, Nat.add_assoc]
        refine hc (l * 32 + j) ?_
        rw [flat_length hs ha]
        have : h * 32 ≤ hs.length * 32 := Nat.mul_le_mul_right 32 h2
        omega
/-- l[:k] -/
theorem run_hto {w : World} {v : Value} {hs : List (List Nat)} (hin : HIn w v hs) (k : Nat) (hk : k ≤ hs.length) :
    ∃ v', (∀ w', (Instr.slice 24 v none (some (.int .i64 (k : Nat))) none).run Tryd.prog w' = .ok v' w') ∧ HIn w v' (hs.take k) := by
  obtain ⟨ha, p, cap, rfl, hl, hin⟩ := hin
  refine ⟨sliced p 0 k cap 32, fun w' => ?_, hsub_in ha hl hin 0 k cap (Nat.zero_le _) hk (by omega)⟩
  rw [run_slice_h _ _ _ _ _ under24 _ _ (by omega) (by omega), elem24, run_size27]; rfl
/-- l[k:] -/
theorem run_hfrom {w : World} {v : Value} {hs : List (List Nat)} (hin : HIn w v hs) (k : Nat) (hk : k ≤ hs.length) :
    ∃ v', (∀ w', (Instr.slice 24 v (some (.int .i64 (k : Nat))) none none).run Tryd.prog w' = .ok v' w') ∧ HIn w v' (hs.drop k) := by
  obtain ⟨ha, p, cap, rfl, hl, hin⟩ := hin
  refine ⟨sliced p k hs.length cap 32, fun w' => ?_, ?_⟩
  · rw [run_slice_l _ _ _ _ _ under24 _ _ (by omega) (by omega), elem24, run_size27]; rfl
  · have := hsub_in ha hl hin k hs.length cap hk (Nat.le_refl _) hl.1
    rwa [List.take_length] at this
/-- a row of the call's own, cut short -/
theorem run_hcut {w : World} {base : Nat} {v : Value} {hs : List (List Nat)} (hin : HOwn w base v hs) (k : Nat) (hk : k < hs.length) :
    ∃ v', (∀ w', (Instr.slice 24 v none (some (.int .i64 (k : Nat))) none).run Tryd.prog w' = .ok v' w') ∧ v'.ownBlock = v.ownBlock ∧ HOwn w base v' (hs.take k) := by
  obtain ⟨ha, hxl, hin⟩ := hin
  rcases hin with ⟨rfl, h0⟩ | ⟨g, cap, cur, rfl, hb, hg, hcap, hmax, hsz, htake⟩
  · omega
  · have h63 : hs.length ≤ 9223372036854775807 := by unfold maxLen at hmax; omega
    refine ⟨.slice (some ⟨g, 0, none⟩) k cap, fun w' => ?_, rfl, ha.take k, ?_, Or.inr ⟨g, cap, cur, ?_, hb, hg, ?_, hmax, hsz, ?_⟩⟩
    · rw [run_slice_h _ _ _ _ _ under24 _ _ (by omega) (by omega), elem24, run_size27]
      have : ¬ cap = 0 := by omega
      simp [sliced, add_none]
    · rw [bcells_length, flat_length _ (ha.take k)]
    · rw [List.length_take, Nat.min_eq_left (by omega)]
    · rw [List.length_take]; omega
    · rw [List.length_take, Nat.min_eq_left (by omega), flat_take hs ha]
      have e : bcells (hs.flatten.take (k * 32)) = (bcells hs.flatten).take (k * 32) := by simp [bcells]
      rw [e, ← htake, List.take_take, Nat.min_eq_left (Nat.mul_le_mul_right 32 (by omega))]

/-! index -/
/-- the hash i of a row -/
def HAt (w : World) (p : Value) (h : List Nat) : Prop := IsH h ∧ ∃ b o, p = .pointer (some ⟨b, o, none⟩) ∧ ∀ j, j < 32 → w.cell? ⟨b, o + j, none⟩ = some (.int .u8 (h.getD j 0 : Nat))
theorem run_hindex {w : World} {v : Value} {hs : List (List Nat)} (hin : HIn w v hs) (k : Nat) (hk : k < hs.length) :
    ∃ p, (∀ w', (Instr.indexAt 24 v (.int .i64 (k : Nat))).run Tryd.prog w' = .ok p w') ∧ HAt w p (hs.getD k []) := by
  obtain ⟨ha, p, cap, rfl, hl, hin⟩ := hin
  rcases hin with rfl | ⟨b, off, rfl, hc, _⟩
  · simp at hk
  obtain ⟨i27, hi27, hsz⟩ := Option.map_eq_some_iff.1 size27
  refine ⟨.pointer (some ⟨b, off + k * 32, none⟩), fun w' => by simp [Instr.indexAt, asIntOf, run_underlying Tryd.underlying24, hk, sizeOf, typeInfo, hi27, hsz, add_none], ha.at k hk, b, _, rfl, fun j hj => ?_⟩
  have := flat_length hs ha
  have h2 : (k + 1) * 32 ≤ hs.length * 32 := Nat.mul_le_mul_right 32 hk
  rw [Nat.add_assoc, hc (k * 32 + j) (by omega), flat_at hs ha k j hk hj]
theorem HAt.later {w wx : World} {p : Value} {h : List Nat} (k : HAt w p h) (hb : Below w.heap.size w wx) : HAt wx p h := by
  obtain ⟨hh, b, o, rfl, hc⟩ := k
  exact ⟨hh, b, o, rfl, fun j hj => cell_later hb (hc j hj)⟩
theorem HIs.at {w : World} {g : Nat} {h : List Nat} (k : HIs w g h) : HAt w (.pointer (some ⟨g, 0, none⟩)) h :=
  ⟨k.1, g, 0, rfl, fun j hj => by rw [Nat.zero_add]; exact k.2.at j _ (bcells_at h j (by rw [k.1.1]; exact hj))⟩
theorem run_hload {w : World} {p : Value} {h : List Nat} (k : HAt w p h) : (Instr.loadAt 23 p).run Tryd.prog w = .ok (hv h) w := by
  obtain ⟨hh, b, o, rfl, hc⟩ := k
  have hr := run_loadVar agg25 w b o (bcells h) (by rw [bcells_length]; exact hh.1) (fun j v hv => by
    have hj : j < h.length := by
      have := (List.getElem?_eq_some_iff.1 hv).1
      rwa [bcells_length] at this
    rw [hc j (by rw [← hh.1]; exact hj), ← hv, bcells_at h j hj])
  simp [Instr.loadAt, Instr.sureAddr, hr, hv]

/-! literals -/
theorem fill_hashes (hs : List (List Nat)) (ha : AllH hs) (cells : Array Value) (hn : hs.length * 32 = cells.size) :
    Instr.fill (fun i => some (i * 32, 32)) cells (((hs.map hv).zipIdx 0).map fun x => (x.2, x.1)) = some (bcells hs.flatten).toArray := by
  have h1 : ∀ v ∈ hs.map hv, v.cells.size = 32 := by
    intro v hv'
    obtain ⟨h, hh, rfl⟩ := List.mem_map.1 hv'
    simp [hv, Value.cells, bcells_length, (ha h hh).1]
  rw [Great.fill_whole (by decide) (hs.map hv) cells h1 (by rw [List.length_map]; exact hn)]
  congr 2
  clear hn h1
  induction hs with
  | nil => rfl
  | cons x xs ih =>
    rw [List.map_cons, List.flatMap_cons, List.flatten_cons, bcells_append, ih (fun y hy => ha y (List.mem_cons_of_mem _ hy))]
    rfl
theorem run_hlit (hs : List (List Nat)) (ha : AllH hs) (hpos : hs ≠ []) (hsmall : hs.length ≤ 1000) (parts : Array (Nat × Value)) (hp : parts.toList = ((hs.map hv).zipIdx 0).map fun x => (x.2, x.1)) (w : World) :
    (Instr.buildSlice 24 hs.length parts).run Tryd.prog w = .ok (.slice (some ⟨w.heap.size, 0, none⟩) hs.length hs.length) (w.alloc (.cells (bcells hs.flatten).toArray 23)) := by
  obtain ⟨i, hi, hz0, hz1, hz2⟩ := info_parts info27
  have hl : 0 < hs.length := List.length_pos_iff.2 hpos
  refine run_buildSlice w 24 23 hs.length parts _ i _ Tryd.underlying24 hi hz0 (by rw [hz1]; omega) (by rw [hz1]; omega) ?_
  rw [hp, hz1]
  exact fill_hashes hs ha _ (by simp)
theorem hlit_own (w : World) (base : Nat) (hb : base ≤ w.heap.size) (hs : List (List Nat)) (ha : AllH hs) (hsmall : hs.length ≤ 1000) : HOwn (w.alloc (.cells (bcells hs.flatten).toArray 23)) base (.slice (some ⟨w.heap.size, 0, none⟩) hs.length hs.length) hs := by
  refine ⟨ha, by rw [bcells_length, flat_length hs ha], Or.inr ⟨w.heap.size, hs.length, (bcells hs.flatten).toArray, rfl, hb, ?_, Nat.le_refl _, by unfold maxLen; omega, by simp [bcells_length, flat_length hs ha], ?_⟩⟩
  · show (w.heap.push _)[w.heap.size]? = _
    simp
  · rw [List.take_of_length_le (by simp [bcells_length, flat_length hs ha])]
theorem below_alloc (w : World) (o : Obj) : Below w.heap.size w (w.alloc o) := (Below.refl _ _).alloc (Nat.le_refl _) _

/-! append -/
theorem run_happend {w : World} (base : Nat) (ty : TypeId) (v vx : Value) (hs ys : List (List Nat)) (hown : HOwn w base v hs) (hin : HIn w vx ys) (hsz : (hs.length + ys.length) * 32 ≤ 140737488355328) (hbase : base ≤ w.heap.size) :
    ∃ v' w', (Builtin.append_ #[24, 24] ty #[v, vx]).run Tryd.prog w = .ok v' w' ∧ HOwn w' base v' (hs ++ ys) ∧ w.grownBy w' v.ownBlock := by
  obtain ⟨i, hi, hz0, hz1, hz2⟩ := info_parts info27
  obtain ⟨hay, p, cap, rfl, hl, hin⟩ := hin
  obtain ⟨hah, hown⟩ := hown
  have hgo : ∀ ad : Addr, (∀ j u, (bcells ys.flatten)[j]? = some u → w.cell? (ad.add j) = some u) → p = some ad → ∃ v' w', (Builtin.append_ #[24, 24] ty #[v, .slice p ys.length cap]).run Tryd.prog w = .ok v' w' ∧ HOwn w' base v' (hs ++ ys) ∧ w.grownBy w' v.ownBlock := by
    rintro ad hnews rfl
    obtain ⟨v', w', hr, ho', hg, _⟩ := run_append_own (P := Tryd.prog) (w := w) base 24 ty 23 i (.agg (zerosU8 32).toArray) 32 32 Tryd.underlying24 hi hz0 hz1 hz2 (by simp [Value.cells, zerosU8]) (by decide) v hs.length (bcells hs.flatten) hown
      ad ys.length cap (bcells ys.flatten) (by rw [bcells_length, flat_length ys hay]) hnews (bcells_one _) (by unfold maxLen; omega) (by omega) hbase
    refine ⟨v', w', hr, ⟨hah.append hay, ?_⟩, hg⟩
    rw [List.flatten_append, bcells_append, List.length_append]
    exact ho'
  rcases hin with rfl | ⟨b, off, rfl, hc, _⟩
  · cases p with
    | none =>
      have hrun : (Builtin.append_ #[24, 24] ty #[v, .slice none ([] : List (List Nat)).length cap]).run Tryd.prog w = .ok v w := by
        rcases hown.2 with ⟨rfl, h0⟩ | ⟨g, cap', cur, rfl, _, hg, hcap, hmax, hsz, htake⟩
        · simp [Builtin.append_, run_underlying Tryd.underlying24, sizeOf, typeInfo, hi, Builtin.lenOf, Builtin.firstCells]
        · simp [Builtin.append_, run_underlying Tryd.underlying24, sizeOf, typeInfo, hi, Builtin.lenOf, Builtin.firstCells, hcap, storeCells]
      exact ⟨v, w, hrun, by rw [List.append_nil]; exact ⟨hah, hown⟩, World.grownBy.refl w _⟩
    | some ad => exact hgo ad (by intro j u hu; simp [bcells] at hu) rfl
  · refine hgo ⟨b, off, none⟩ (fun j u hu => ?_) rfl
    have hj : j < ys.flatten.length := by
      have := (List.getElem?_eq_some_iff.1 hu).1
      rwa [bcells_length] at this
    rw [add_none, hc j hj, ← hu, bcells_at _ j hj]
theorem HOwn.below {w w' : World} {base : Nat} {v : Value} {hs : List (List Nat)} (h : HOwn w base v hs) (hg : w.grownBy w' v.ownBlock) (hb : base ≤ w.heap.size) : Below base w w' :=
  (Below.refl base w).grown hg hb fun k hk => (h.2.lt k hk).1

/-! comparison -/
theorem heql (a b : List Nat) (ha : IsH a) (hb : IsH b) (W : World) : (Op.equalIn 10000 23 (hv a) (hv b)).run Tryd.prog W = .ok (decide (a = b)) W := by
  obtain ⟨i, hi, hsz⟩ := Option.map_eq_some_iff.1 info5e
  have key : ∀ (c : List Nat) (_ : IsH c) j, j < 32 → ((part 5 (bcells c).toArray (j * i.size)).run Tryd.prog W = .ok (.int .u8 (c.getD j 0 : Nat)) W) := by
    intro c hc j hj
    have := bcells_at c j (by rw [hc.1]; exact hj)
    simp [part, isAgg, run_underlying Tryd.underlying5, this, hsz]
  have e : (10000 : Nat) = 9998 + 1 + 1 := rfl
  have hs5 : (sizeOf 5).run Tryd.prog W = .ok i.size W := by simp [sizeOf, typeInfo, hi]
  have hq : ∀ x y : Nat, (Op.equalIn (9998 + 1) 5 (.int .u8 (x : Nat)) (.int .u8 (y : Nat))).run Tryd.prog W = .ok (decide (x = y)) W := fun x y => by
    rw [run_equalIn_int W 9998 5 .u8 .u8 x y Tryd.underlying5]
    by_cases h : x = y
    · subst h; simp
    · have : ¬ (x : Int) = (y : Int) := by omega
      simp only [h, decide_false]
      simp [this]
  have hdec : decide (a = b) = decide (∀ j ∈ List.range' 0 32 1, a.getD j 0 = b.getD j 0) := by
    rw [decide_eq_decide]
    constructor
    · rintro rfl j _; rfl
    · intro h
      refine List.ext_getElem (by rw [ha.1, hb.1]) fun j h1 h2 => ?_
      have := h j (List.mem_range'_1.2 ⟨Nat.zero_le _, by rw [ha.1] at h1; omega⟩)
      simpa [h1, h2] using this
  unfold hv
  rw [e, Op.equalIn]
  simp only [Sem.run_bind, run_underlying Tryd.underlying23, Result.andThen_ok, hs5, Std.Legacy.Range.forIn_eq_forIn_range']
  have hL : ∀ j ∈ List.range' 0 32 1, j < 32 := by
    intro j hj
    have := (List.mem_range'_1.1 hj).2
    omega
  rw [hdec]
  clear hdec
  show Result.andThen (Sem.run Tryd.prog (forIn (List.range' 0 32 1) _ _) W) _ = _
  generalize List.range' 0 32 1 = L at hL ⊢
  induction L with
  | nil => simp
  | cons j L ih =>
    have hj := hL j (by simp)
    have hka := key a ha j hj
    have hkb := key b hb j hj
    have ih' := ih (fun x hx => hL x (by simp [hx]))
    simp only [List.forIn_cons, Sem.run_bind, hka, hkb, Result.andThen_ok, hq]
    by_cases h : a.getD j 0 = b.getD j 0
    · simp only [h, decide_true, Bool.not_true, Bool.false_eq_true, if_false, Sem.run_pure, Result.andThen_ok]
      have e2 : decide (∀ x ∈ j :: L, a.getD x 0 = b.getD x 0) = decide (∀ x ∈ L, a.getD x 0 = b.getD x 0) := by
        rw [decide_eq_decide]
        constructor
        · intro hh x hx; exact hh x (List.mem_cons_of_mem _ hx)
        · intro hh x hx
          rcases List.mem_cons.1 hx with rfl | hx
          · exact h
          · exact hh x hx
      rw [e2]
      exact ih'
    · have e2 : decide (∀ x ∈ j :: L, a.getD x 0 = b.getD x 0) = false := by
        rw [decide_eq_false_iff_not]
        intro hh
        exact h (hh j (List.mem_cons_self ..))
      rw [e2]
      simp only [h, decide_false, Bool.not_false, if_true, Sem.run_pure, Result.andThen_ok]
end Go.Proofs.YtjdmpanemdhbbaaDoor

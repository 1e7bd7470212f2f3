/- Hashes and rows of hashes that come in; the struct of a proof; rows of bytes. -/
import Derived.Test.YtjdmpanemdhbbaaDoorOpen
import Derived.Test.YtjdmpanemdhbbaaDoorTMem
import Derived.Deep.Slices
import Derived.Deep.Matrix
namespace Go.Proofs.YtjdmpanemdhbbaaDoor
open Go.ChangeShapes Go.WideShapes Go.ChangeAt Go.RowKit Go.Deep

theorem cells23 : Tryd.prog.cellsOf 23 = 32 := by kernel_rfl
theorem bytes23 : Tryd.prog.bytesOf 23 = 32 := by kernel_rfl
theorem cells24 : Tryd.prog.cellsOf 24 = 1 := by kernel_rfl
theorem cells3 : Tryd.prog.cellsOf 3 = 1 := by kernel_rfl
theorem cells26 : Tryd.prog.cellsOf 26 = 67 := by kernel_rfl
theorem cells57 : Tryd.prog.cellsOf 57 = 1 := by kernel_rfl
section
variable {H : Type} {enc : TypeId × Value → H} {W : World} {base : Nat} {sp : Nat → Bool} {hd : Bool}
/-- THE CELLS OF A HASH -/
theorem trod_hash {fuel : Nat} {cs : List Value} {x : DataW H × List MemPlace} (h : DataW.trod enc Tryd.prog W base sp hd fuel 23 cs = some x) : ∃ b, IsH b ∧ cs = bcells b := by
  obtain ⟨xs, m, _, _, hl, hxl, hf⟩ := DataW.trod_array Tryd.underlying23 h
  rw [cells23] at hl
  have key : ∀ i, i < 32 → ∃ n : Nat, n < 256 ∧ cs[i]? = some (.int .u8 (n : Int)) := by
    intro i hi
    have h1 := hf i hi
    rw [cells5, Nat.mul_one, List.getElem?_eq_getElem (by omega)] at h1
    obtain ⟨n, hn, _, hw⟩ := DataW.trod_int Tryd.underlying5 h1
    have hb : 0 ≤ n ∧ n ≤ 255 := by simpa [Lit.wf, IntKind.min, IntKind.max, IntKind.signed, IntKind.bits] using hw
    have hc : cs[i]? = ((cs.drop i).take 1)[0]? := by simp
    rw [hn] at hc
    refine ⟨n.toNat, by omega, ?_⟩
    rw [hc, Int.toNat_of_nonneg hb.1]
    rfl
  refine ⟨cs.map (fun c => (match c with | .int _ z => z.toNat | _ => 0)), ⟨by rw [List.length_map, hl], fun c hc => ?_⟩, ?_⟩
  · obtain ⟨v, hv, rfl⟩ := List.mem_map.1 hc
    obtain ⟨i, hi, rfl⟩ := List.getElem_of_mem hv
    obtain ⟨n, hn, e⟩ := key i (by omega)
    rw [List.getElem?_eq_getElem hi] at e
    rw [Option.some.inj e]
    simpa using hn
  · refine List.ext_getElem? fun i => ?_
    by_cases hi : i < cs.length
    · obtain ⟨n, hn, e⟩ := key i (by omega)
      simp only [bcells, List.getElem?_map, e, Option.map_some]
      simp
    · rw [List.getElem?_eq_none (by omega), List.getElem?_eq_none (by rw [bcells_length, List.length_map]; omega)]
/-- A HASH THAT CAME IN -/
theorem open_hash {v : Value} {d : DataW H} {p : List MemPlace} {b0 : Nat} (hv' : Value.okWide Tryd.prog W .any b0 23 v) (h : DataW.Trod enc Tryd.prog W base sp hd 23 v d p) : ∃ b, IsH b ∧ v = hv b := by
  simp only [Value.okWide, Tryd.underlying23] at hv'
  obtain ⟨cs, rfl, _, _⟩ := hv'
  obtain ⟨fuel, hf⟩ := h
  obtain ⟨b, hb, e⟩ := trod_hash hf
  refine ⟨b, hb, ?_⟩
  unfold hv
  rw [← e]
  simp [Value.cells]
theorem getD_flat (n : Nat) (B : Nat → List Nat) (hB : ∀ i, i < n → IsH (B i)) : AllH ((List.range n).map B) := fun h hh => by
  obtain ⟨i, hi, rfl⟩ := List.mem_map.1 hh
  exact hB i (List.mem_range.1 hi)
/-- A ROW OF HASHES THAT CAME IN -/
theorem trod_hashes {fuel : Nat} {v : Value} {x : DataW H × List MemPlace} (hf : DataW.trod enc Tryd.prog W base sp hd fuel 24 [v] = some x) : ∃ hs, HIn W v hs ∧ (hs = [] ∨ ∃ elems spare, x.1 = .slice elems spare ∧ elems.length = hs.length) := by
  rcases open_slice Tryd.underlying24 hf with ⟨hcs, _⟩ | ⟨a, len, cap, m, n, D, Pl, hcs, _, hl, hm, hmm, hx, hel⟩
  · simp at hcs
    subst hcs
    exact ⟨[], HIn.nil W, Or.inl rfl⟩
  · simp at hcs
    subst hcs
    have hlen : len ≤ m := by rw [hmm]; split <;> omega
    rw [cells23] at hel
    obtain ⟨B, hB⟩ := choose_lt (α := List Nat) (p := fun i b => IsH b ∧ W.cells? base (a.add (i * 32)) 32 = some (bcells b)) (n := len) (fun i hi => by
      obtain ⟨cs', h1, h2⟩ := hel i (by omega)
      obtain ⟨b, hb, rfl⟩ := trod_hash h2
      exact ⟨b, hb, h1⟩)
    unfold maxLen at hm
    have ha := getD_flat len B (fun i hi => (hB i hi).1)
    refine ⟨(List.range len).map B, ⟨ha, some a, cap, by simp, ⟨by simpa using hl, by simp; omega⟩, ?_⟩, Or.inr ⟨_, _, congrArg Prod.fst hx, by simp⟩⟩
    by_cases h0 : len = 0
    · subst h0
      exact Or.inl (by simp)
    · right
      have hplain : ∃ b off, a = ⟨b, off, none⟩ := by
        obtain ⟨hb0, hc0⟩ := hB 0 (by omega)
        obtain ⟨_, _, hc⟩ := World.cells?_some hc0
        have h1 := hc 0 (by decide)
        rw [bcells_at (B 0) 0 (by rw [hb0.1]; decide)] at h1
        obtain ⟨ab, ao, sp'⟩ := a
        have hsp : sp' = none := by simpa [Addr.add] using World.cell?_spot h1
        subst hsp
        exact ⟨ab, ao, rfl⟩
      obtain ⟨b, off, rfl⟩ := hplain
      refine ⟨b, off, rfl, fun j hj => ?_, flat_lt _ ha⟩
      rw [flat_length _ ha, List.length_map, List.length_range] at hj
      have hi : j / 32 < len := by omega
      obtain ⟨hbi, hci⟩ := hB (j / 32) hi
      obtain ⟨_, _, hc⟩ := World.cells?_some hci
      have h1 := hc (j % 32) (by omega)
      rw [bcells_at (B (j / 32)) (j % 32) (by rw [hbi.1]; omega), add_none, add_none] at h1
      have h2 := flat_at ((List.range len).map B) ha (j / 32) (j % 32) (by simpa using hi) (by omega)
      rw [show j / 32 * 32 + j % 32 = j by omega] at h2
      rw [h2]
      have h3 : ((List.range len).map B).getD (j / 32) [] = B (j / 32) := by simp [hi]
      rw [h3, ← h1, show off + j / 32 * 32 + j % 32 = off + j by omega]
theorem open_hashes {v : Value} {d : DataW H} {p : List MemPlace} {b0 : Nat} (hv' : Value.okWide Tryd.prog W .any b0 24 v) (h : DataW.Trod enc Tryd.prog W base sp hd 24 v d p) : ∃ hs, HIn W v hs ∧ (hs = [] ∨ ∃ elems spare, d = .slice elems spare ∧ elems.length = hs.length) := by
  obtain ⟨a0, len0, cap0, rfl⟩ := okWide_slice Tryd.underlying24 hv'
  obtain ⟨fuel, hf⟩ := h
  exact trod_hashes (by simpa [Value.cells] using hf)
/-- WHAT THE FORM's OWN REACH GIVES of a row of hashes -/
theorem reachH {ts : List TypeId} {ds : List (DataW H)} (h : (DataW.weightsEach Tryd.prog ts ds).all (· ≤ reachBytes) = true) {j : Nat} {d : DataW H} {hs : List (List Nat)} (ht : ts[j]? = some 24) (hd : ds[j]? = some d)
    (hc : hs = [] ∨ ∃ elems spare, d = .slice elems spare ∧ elems.length = hs.length) : hs.length * 32 ≤ 140737488351232 := by
  rcases hc with rfl | ⟨elems, spare, rfl, hl⟩
  · simp
  · have := sized_slice h ht hd Tryd.underlying24
    rw [bytes23] at this
    unfold reachBytes at this
    omega
/-- the struct of a proof, as a value -/
def rawCells (m n : Int) (a b : List Nat) (v : Value) : List Value := .int .i64 m :: .int .i64 n :: (bcells a ++ (bcells b ++ [v]))
def rawV (m n : Int) (a b : List Nat) (v : Value) : Value := .agg (rawCells m n a b v).toArray
theorem und26 : ∃ f0 f1 f2 f3 f4 : Field, Tryd.prog.underlying 26 = some (.struct #[f0, f1, f2, f3, f4]) ∧ (f0.type = 3 ∧ f0.offset = 0) ∧ (f1.type = 3 ∧ f1.offset = 1) ∧ (f2.type = 23 ∧ f2.offset = 2) ∧ (f3.type = 23 ∧ f3.offset = 34) ∧ (f4.type = 24 ∧ f4.offset = 66) :=
  ⟨_, _, _, _, _, Tryd.underlying26, ⟨rfl, rfl⟩, ⟨rfl, rfl⟩, ⟨rfl, rfl⟩, ⟨rfl, rfl⟩, rfl, rfl⟩
theorem cut5 (cs : List Value) (x0 x1 xs ys z) (hl : cs.length = 67) (h0 : (cs.drop 0).take 1 = [x0]) (h1 : (cs.drop 1).take 1 = [x1]) (h2 : (cs.drop 2).take 32 = xs) (h3 : (cs.drop 34).take 32 = ys) (h4 : (cs.drop 66).take 1 = [z]) : cs = x0 :: x1 :: (xs ++ (ys ++ [z])) := by
  have e1 : cs = cs.take 1 ++ (cs.drop 1).take 1 ++ (cs.drop 2).take 32 ++ (cs.drop 34).take 32 ++ cs.drop 66 := by
    have a1 : cs = cs.take 66 ++ cs.drop 66 := (List.take_append_drop 66 cs).symm
    have a2 : cs.take 66 = cs.take 34 ++ (cs.drop 34).take 32 := by rw [← List.take_add]
    have a3 : cs.take 34 = cs.take 2 ++ (cs.drop 2).take 32 := by rw [← List.take_add]
    have a4 : cs.take 2 = cs.take 1 ++ (cs.drop 1).take 1 := by rw [← List.take_add]
    rw [← a4, ← a3, ← a2]
    exact a1
  have h4' : cs.drop 66 = [z] := by rw [← h4, List.take_of_length_le (by simp; omega)]
  rw [List.drop_zero] at h0
  rw [e1, h0, h1, h2, h3, h4']
  simp
/-- THE STRUCT OF A PROOF THAT CAME IN -/
theorem open_raw {v : Value} {d : DataW H} {p : List MemPlace} {b0 : Nat} (hv' : Value.okWide Tryd.prog W .any b0 26 v) (h : DataW.Trod enc Tryd.prog W base sp hd 26 v d p) :
    ∃ m n a b vp hs, v = rawV m n a b vp ∧ IsH a ∧ IsH b ∧ HIn W vp hs ∧ (-9223372036854775808 ≤ m ∧ m ≤ 9223372036854775807) ∧ (-9223372036854775808 ≤ n ∧ n ≤ 9223372036854775807) ∧ ∃ d0 d1 d2 d3 d4, d = .agg [d0, d1, d2, d3, d4] ∧ (hs = [] ∨ ∃ elems spare, d4 = .slice elems spare ∧ elems.length = hs.length) := by
  obtain ⟨f0, f1, f2, f3, f4, hu, ⟨t0, o0⟩, ⟨t1, o1⟩, ⟨t2, o2⟩, ⟨t3, o3⟩, ⟨t4, o4⟩⟩ := und26
  obtain ⟨cs, rfl, hsz⟩ := okWide_struct hu hv'
  obtain ⟨fuel, hf⟩ := h
  obtain ⟨xs, n, _, hx, hl, hlen, hfs⟩ := DataW.trod_struct hu hf
  match xs, hlen with
  | [y0, y1, y2, y3, y4], _ =>
    have g0 := hfs 0 f0 rfl
    have g1 := hfs 1 f1 rfl
    have g2 := hfs 2 f2 rfl
    have g3 := hfs 3 f3 rfl
    have g4 := hfs 4 f4 rfl
    rw [t0, o0, cells3] at g0
    rw [t1, o1, cells3] at g1
    rw [t2, o2, cells23] at g2
    rw [t3, o3, cells23] at g3
    rw [t4, o4, cells24] at g4
    obtain ⟨m, e0, _, w0⟩ := DataW.trod_int Tryd.underlying3 g0
    obtain ⟨k, e1, _, w1⟩ := DataW.trod_int Tryd.underlying3 g1
    obtain ⟨a, ha, e2⟩ := trod_hash g2
    obtain ⟨b, hb, e3⟩ := trod_hash g3
    have hc67 : (Value.agg cs).cells.toList.length = 67 := by rw [hl, cells26]
    have hsl : ∃ z, ((Value.agg cs).cells.toList.drop 66).take 1 = [z] := by
      refine List.length_eq_one_iff.1 ?_
      rw [List.length_take, List.length_drop, hc67]
      rfl
    obtain ⟨z, ez⟩ := hsl
    have g4' : DataW.trod enc Tryd.prog W base sp hd n 24 [z] = some y4 := by rw [← ez]; exact g4
    obtain ⟨hs, hin, hsz4⟩ := trod_hashes g4'
    have hcs := cut5 _ _ _ _ _ z hc67 e0 e1 e2 e3 ez
    refine ⟨m, k, a, b, z, hs, ?_, ha, hb, hin, by simpa [Lit.wf, IntKind.min, IntKind.max, IntKind.signed, IntKind.bits] using w0, by simpa [Lit.wf, IntKind.min, IntKind.max, IntKind.signed, IntKind.bits] using w1, y0.1, y1.1, y2.1, y3.1, y4.1, by have := congrArg Prod.fst hx; simpa using this, hsz4⟩
    unfold rawV rawCells
    rw [← hcs]
    simp [Value.cells]
/-- WHAT THE FORM's OWN REACH GIVES of its row -/
theorem reach_raw {ts : List TypeId} {ds : List (DataW H)} (h : (DataW.weightsEach Tryd.prog ts ds).all (· ≤ reachBytes) = true) {j : Nat} {d0 d1 d2 d3 d4 : DataW H} (ht : ts[j]? = some 26) (hd : ds[j]? = some (.agg [d0, d1, d2, d3, d4])) {hs : List (List Nat)}
    (hc : hs = [] ∨ ∃ elems spare, d4 = .slice elems spare ∧ elems.length = hs.length) : hs.length * 32 ≤ 140737488351232 := by
  obtain ⟨f0, f1, f2, f3, f4, hu, ⟨t0, o0⟩, ⟨t1, o1⟩, ⟨t2, o2⟩, ⟨t3, o3⟩, ⟨t4, o4⟩⟩ := und26
  have hin : ∀ x ∈ DataW.weightsEach Tryd.prog [3, 3, 23, 23, 24] [d0, d1, d2, d3, d4], x ≤ reachBytes := by
    intro x hx
    have hm : x ∈ DataW.weights Tryd.prog 26 (.agg [d0, d1, d2, d3, d4] : DataW H) := by
      simp only [DataW.weights, hu]
      simpa [t0, t1, t2, t3, t4] using hx
    have := List.all_eq_true.1 h _ (DataW.weights_mem_each ht hd x hm)
    simpa using this
  have hall : (DataW.weightsEach Tryd.prog [3, 3, 23, 23, 24] [d0, d1, d2, d3, d4]).all (· ≤ reachBytes) = true := List.all_eq_true.2 fun x hx => by simpa using hin x hx
  exact reachH hall (j := 4) rfl rfl hc
end
end Go.Proofs.YtjdmpanemdhbbaaDoor

/- A slice of slices of bytes that comes in: its rows, and how many bytes they hold together. -/
import Derived.Test.YtjdmpanemdhbbaaDoorOpenH
import Derived.Test.YtjdmpanemdhbbaaDoorRows6
import Derived.Deep.Matrix
namespace Go.Proofs.YtjdmpanemdhbbaaDoor
open Go.ChangeShapes Go.WideShapes Go.ChangeAt Go.RowKit Go.Deep

theorem bytes57 : Tryd.prog.bytesOf 57 = 24 := by kernel_rfl
theorem bulk_rows {H : Type} (f : Nat → DataW H) (g : Nat → List Nat) (rs : List Nat) (h : ∀ r ∈ rs, (g r).length + 1 ≤ Rows.uptoBulk (f r)) : (rs.map g).flatten.length + rs.length ≤ Rows.uptoBulkAll (rs.map f) := by
  induction rs with
  | nil => simp [Rows.uptoBulkAll]
  | cons r rs ih =>
    have h1 := h r (by simp)
    have h2 := ih (fun x hx => h x (by simp [hx]))
    simp only [List.map_cons, List.flatten_cons, List.length_append, List.length_cons, Rows.uptoBulkAll]
    omega
theorem weightsAll_mem {H : Type} {e : TypeId} {l : List (DataW H)} {d : DataW H} (h : d ∈ l) : ∀ n ∈ d.weights Tryd.prog e, n ∈ DataW.weightsAll Tryd.prog e l := by
  intro n hn
  induction l with
  | nil => cases h
  | cons x xs ih =>
    simp only [DataW.weightsAll]
    rcases List.mem_cons.1 h with rfl | h
    · exact List.mem_append_left _ hn
    · exact List.mem_append_right _ (ih h)
/-- A SLICE OF SLICES OF BYTES THAT CAME IN -/
theorem open_rows {H : Type} {enc : TypeId × Value → H} {W : World} {v : Value} {d : DataW H} {p : List MemPlace} {base : Nat}
    (hv : Value.okWide Tryd.prog W .any base 32 v) (h : DataW.Trod enc Tryd.prog W 0 (fun _ => true) true 32 v d p) : ∃ L, ListIn W v L ∧ L.flatten.length + L.length ≤ Rows.uptoBulk d ∧ ((DataW.weights Tryd.prog 32 d).all (· ≤ reachBytes) = true → L.length * 24 ≤ 140737488351232 ∧ ∀ c ∈ L, c.length ≤ 140737488351232) := by
  obtain ⟨a0, len0, cap0, rfl⟩ := okWide_slice Tryd.underlying32 hv
  obtain ⟨fuel, hf⟩ := h
  rcases open_int_rows Tryd.underlying32 Tryd.underlying57 Tryd.underlying5 cells57 cells5 hf with ⟨hcs, _⟩ | ⟨a, len, cap, A, Ls, C, Z, hcs, _, hl, hm, hx, hrow⟩
  · simp [Value.cells] at hcs
    obtain ⟨rfl, rfl, rfl⟩ := hcs
    exact ⟨[], ⟨none, 0, rfl, by decide, Or.inl rfl⟩, by simp, (fun _ => ⟨by simp, fun c hc => by cases hc⟩)⟩
  · simp [Value.cells] at hcs
    obtain ⟨rfl, rfl, rfl⟩ := hcs
    unfold maxLen at hm
    have hbd : ∀ r, r < cap0 → ∀ z ∈ Z r, 0 ≤ z ∧ z ≤ 255 := fun r hr z hz => by
      have := (hrow r hr).2.2.2.2.1 z hz
      simpa [Lit.wf, IntKind.min, IntKind.max, IntKind.signed, IntKind.bits] using this
    have hgl : ∀ r, r < cap0 → (((Z r).take (Ls r)).map Int.toNat).length = Ls r := fun r hr => by
      have h1 := (hrow r hr).2.1
      have h2 := (hrow r hr).2.2.2.1
      rw [List.length_map, List.length_take]
      omega
    refine ⟨(List.range len0).map fun r => ((Z r).take (Ls r)).map Int.toNat, ⟨some a, cap0, by simp, by simp; omega, ?_⟩, ?_, ?_⟩
    · by_cases h0 : len0 = 0
      · subst h0
        exact Or.inl (by simp)
      · right
        have hplain : ∃ b off, a = ⟨b, off, none⟩ := by
          have h1 := (hrow 0 (by omega)).1
          obtain ⟨ab, ao, sp⟩ := a
          have hsp : sp = none := by simpa [Addr.add] using World.cell?_spot h1
          subst hsp
          exact ⟨ab, ao, rfl⟩
        obtain ⟨b, off, rfl⟩ := hplain
        refine ⟨b, off, rfl, fun i hi => ?_⟩
        have hi' : i < len0 := by simpa using hi
        have hic : i < cap0 := by omega
        obtain ⟨hcell, hlc, hcm, hzl, hwz, hnone, hsome⟩ := hrow i hic
        rw [add_none] at hcell
        refine ⟨_, hcell, ?_⟩
        have hget : ((List.range len0).map fun r => ((Z r).take (Ls r)).map Int.toNat).getD i [] = ((Z i).take (Ls i)).map Int.toNat := by simp [hi']
        rw [hget]
        refine ⟨A i, C i, by rw [hgl i hic], ⟨by rw [hgl i hic]; exact hlc, by rw [hgl i hic]; unfold maxLen at hcm; omega⟩, ?_⟩
        by_cases hz0 : Ls i = 0
        · exact Or.inl (by rw [hz0]; simp)
        · right
          cases hA : A i with
          | none => have := hnone hA; omega
          | some a' =>
            obtain ⟨_, hc'⟩ := hsome a' hA
            obtain ⟨b', off', rfl, hc⟩ := ints_at (zs := Z i) (fun c hc2 => hc' c (by omega)) (by omega)
            refine ⟨b', off', rfl, fun j hj => ?_, fun j => ?_⟩
            · rw [hgl i hic] at hj
              have hj' : j < (Z i).length := by omega
              rw [hc j hj']
              have h2 := hbd i hic (Z i)[j] (List.getElem_mem hj')
              simp [hj, hj', Int.toNat_of_nonneg h2.1]
            · by_cases hj : j < (((Z i).take (Ls i)).map Int.toNat).length
              · have hz := List.getElem_mem hj
                obtain ⟨y, hy, e⟩ := List.mem_map.1 hz
                have := hbd i hic y (List.mem_of_mem_take hy)
                have e2 : (((Z i).take (Ls i)).map Int.toNat).getD j 0 = (((Z i).take (Ls i)).map Int.toNat)[j] := by rw [List.getD_eq_getElem?_getD, List.getElem?_eq_getElem hj]; rfl
                rw [e2, ← e]
                omega
              · rw [List.getD_eq_getElem?_getD, List.getElem?_eq_none (by omega)]
                decide
    · have hd := congrArg Prod.fst hx
      simp only at hd
      rw [hd]
      simp only [Rows.uptoBulk]
      have hb := bulk_rows (fun r => (intRow .u8 (A r) (Ls r) (Z r) : DataW H)) (fun r => ((Z r).take (Ls r)).map Int.toNat) (List.range len0) (fun r hr => by
        have hrl := List.mem_range.1 hr
        rw [hgl r (by omega)]
        obtain ⟨hcell, hlc, hcm, hzl, hwz, hnone, hsome⟩ := hrow r (by omega)
        cases hA : A r with
        | none =>
          have := hnone hA
          simp only [intRow, Rows.uptoBulk]
          omega
        | some a' =>
          simp only [intRow, Rows.uptoBulk]
          have h1 := bulk_length (H := H) (lits .u8 ((Z r).take (Ls r)))
          have h2 : (lits (H := H) .u8 ((Z r).take (Ls r))).length = Ls r := by simp [lits]; omega
          omega)
      simp only [List.length_map]
      omega
    · intro hw
      refine ⟨?_, fun c hc => ?_⟩
      · have hd := congrArg Prod.fst hx
        simp only at hd
        rw [hd] at hw
        simp only [DataW.weights, Tryd.underlying32, bytes57] at hw
        have h2 := List.all_eq_true.1 hw _ (List.mem_cons_self ..)
        simp only [List.length_map, List.length_range, decide_eq_true_eq] at h2 ⊢
        unfold reachBytes at h2
        omega
      obtain ⟨r, hr, rfl⟩ := List.mem_map.1 hc
      have hrl := List.mem_range.1 hr
      have hd := congrArg Prod.fst hx
      simp only at hd
      rw [hd] at hw
      rw [hgl r (by omega)]
      obtain ⟨hcell, hlc, hcm, hzl, hwz, hnone, hsome⟩ := hrow r (by omega)
      cases hA : A r with
      | none =>
        have := hnone hA
        omega
      | some a' =>
        have hm : ((lits (H := H) .u8 ((Z r).take (Ls r))).length + (lits (H := H) .u8 ((Z r).drop (Ls r))).length) * 1 ∈ DataW.weightsAll Tryd.prog 57 ((List.range len0).map fun r => (intRow .u8 (A r) (Ls r) (Z r) : DataW H)) := by
          refine weightsAll_mem (d := intRow .u8 (A r) (Ls r) (Z r)) (List.mem_map.2 ⟨r, hr, rfl⟩) _ ?_
          rw [hA]
          simp only [intRow, DataW.weights, Tryd.underlying57, bytes5]
          exact List.mem_cons_self ..
        have h2 := List.all_eq_true.1 hw _ (show _ ∈ DataW.weights Tryd.prog 32 _ by
          simp only [DataW.weights, Tryd.underlying32]
          exact List.mem_cons_of_mem _ (List.mem_append_left _ hm))
        have h3 : (lits (H := H) .u8 ((Z r).take (Ls r))).length = Ls r := by simp [lits]; omega
        have h4 : ((lits (H := H) .u8 ((Z r).take (Ls r))).length + (lits (H := H) .u8 ((Z r).drop (Ls r))).length) * 1 ≤ reachBytes := by simpa using h2
        unfold reachBytes at h4
        omega
/-- WHAT THE FORM's OWN REACH GIVES of the rows -/
theorem reach_rows {H : Type} {ts : List TypeId} {ds : List (DataW H)} (h : (DataW.weightsEach Tryd.prog ts ds).all (· ≤ reachBytes) = true) {j : Nat} {d : DataW H} (ht : ts[j]? = some 32) (hd : ds[j]? = some d) : (DataW.weights Tryd.prog 32 d).all (· ≤ reachBytes) = true :=
  List.all_eq_true.2 fun x hx => List.all_eq_true.1 h _ (DataW.weights_mem_each ht hd x hx)
theorem flat_each {L : List (List Nat)} {N : Nat} (h : L.flatten.length + L.length ≤ N) : ∀ c ∈ L, c.length ≤ N := by
  induction L generalizing N with
  | nil => intro c hc; cases hc
  | cons x xs ih =>
    intro c hc
    rw [List.flatten_cons, List.length_append, List.length_cons] at h
    rcases List.mem_cons.1 hc with rfl | hc
    · omega
    · exact ih (N := N) (by omega) c hc
end Go.Proofs.YtjdmpanemdhbbaaDoor

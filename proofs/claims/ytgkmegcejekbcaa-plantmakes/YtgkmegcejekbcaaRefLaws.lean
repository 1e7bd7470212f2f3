/- The document's own plant: how many sectors a device may have; what 'append' of numbers to nothing makes. -/
import Derived.Test.YtgkmegcejekbcaaNewBad
import Derived.Test.YtgkmegcejekbcaaShape
import Derived.Deep.CutRange
namespace Go.Proofs.Ytgkmegcejekbcaa
open Go.RowKit Go.Maps

/-- a plant of the document's own, in memory -/
def refCells (va vb hv : Value) : List Value := [va, vb, hv, .slice none 0 0, .bool false, .bool false, .int .i64 0, .int .i64 0, .int .i64 0]
theorem agg56 : AggT 56 9 := ⟨Or.inl ⟨_, Try.underlying56⟩, by kernel_rfl⟩

theorem IntsIn.kept {w w' : World} {v : Value} {l : List Int} (h : IntsIn w v l) (hb : ∀ b, v.ownBlock = some b → w'.heap[b]? = w.heap[b]?) : IntsIn w' v l := by
  obtain ⟨p, cap, rfl, h1, h2, h⟩ := h
  refine ⟨p, cap, rfl, h1, h2, ?_⟩
  rcases h with h | ⟨b, off, rfl, h⟩
  · exact Or.inl h
  · refine Or.inr ⟨b, off, rfl, fun j hj => ?_⟩
    rw [← h j hj]
    exact World.cell?_of_block (w := w) (hb b rfl)

set_option maxHeartbeats 400000 in
theorem most_disk (w : World) (g : Nat) (va vb hv : Value) (ds : List Int) (hr : Row w g 56 (refCells va vb hv)) (ha : IntsIn w va ds) (i : Nat) (hi : i < ds.length) :
    Calls Try.prog 39 #[ptr g, .int .i64 (i : Nat)] w fun e w' => e = .returned (.int .i64 (ds.getD i 0)) ∧ w = w' := by
  obtain ⟨b, off, cap, hva, hc⟩ := ha.cell i hi
  obtain ⟨p, cap', hvs, hl⟩ := ha.shape
  rw [hva] at hr
  have k0 := hr.at 0 _ rfl
  obtain ⟨n, hn⟩ : ∃ n, n = ds.length := ⟨_, rfl⟩
  rw [← hn] at k0 hi hl
  generalize ds.getD i 0 = x at hc ⊢
  clear hr ha hva hvs hn
  go_enter Try.func39, Try.ntmps39
  go_wp2
  go_ret
  exact ⟨rfl, rfl⟩
set_option maxHeartbeats 400000 in
theorem most_tape (w : World) (g : Nat) (va vb hv : Value) (ds ts : List Int) (hr : Row w g 56 (refCells va vb hv)) (ha : IntsIn w va ds) (hb : IntsIn w vb ts) (i : Nat) (hi : i < ts.length) :
    Calls Try.prog 39 #[ptr g, .int .i64 ((ds.length + i : Nat) : Int)] w fun e w' => e = .returned (.int .i64 (ts.getD i 0)) ∧ ∃ n, w' = w.drewN n := by
  obtain ⟨b, off, cap, hvb, hc⟩ := hb.cell i hi
  obtain ⟨p, cap', hvs, hl⟩ := ha.shape
  obtain ⟨p2, cap2, _, hl2⟩ := hb.shape
  rw [hvb, hvs] at hr
  have k0 := hr.at 0 _ rfl
  have k1 := hr.at 1 _ rfl
  obtain ⟨n, hn⟩ : ∃ n, n = ds.length := ⟨_, rfl⟩
  obtain ⟨m, hm⟩ : ∃ m, m = ts.length := ⟨_, rfl⟩
  rw [← hn] at k0 hl ⊢
  rw [← hm] at k1 hl2 hi
  generalize ts.getD i 0 = x at hc ⊢
  clear hr ha hb hvb hvs hn hm
  rw [show ((n + i : Nat) : Int) = (n : Int) + (i : Int) by omega]
  have t1 : decide ((n : Int) + (i : Int) < (n : Int)) = false := by simp; omega
  have e1 : (n : Int) + (i : Int) - (n : Int) = (i : Int) := by omega
  go_enter Try.func39, Try.ntmps39
  go_wp2
  go_quiet (fail)
  go_wp2
  go_ret
  exact ⟨rfl, _, rfl⟩

/-- append of numbers to a row of nothing: nothing that was there turns -/
theorem app_ints {w : World} (ty : TypeId) (g : Nat) (hg : Row w g 3 []) (vx : Value) (xs : List Int) (hx : IntsIn w vx xs) (hsz : xs.length ≤ 17592186043904) :
    ∃ v' w', (Builtin.append_ #[22, 22] ty #[.slice (some ⟨g, 0, none⟩) 0 0, vx]).run Try.prog w = .ok v' w' ∧ IntsIn w' v' xs ∧ Below w.heap.size w w' ∧ (∀ q, v'.ownBlock = some q → q < w'.heap.size) := by
  obtain ⟨i, hi, hz0, hz1, hz2⟩ := info_parts info3
  obtain ⟨p, cap, rfl, h1, h2, h⟩ := hx
  by_cases h0 : xs = []
  · subst h0
    refine ⟨.slice (some ⟨g, 0, none⟩) 0 0, w, ?_, ⟨_, 0, rfl, Nat.le_refl _, by decide, Or.inl rfl⟩, Below.refl _ _, fun q hq => by injection hq with hq; rw [← hq]; exact hg.lt⟩
    cases p with
    | none => simp [Builtin.append_, run_underlying Try.underlying22, sizeOf, typeInfo, hi, Builtin.lenOf, Builtin.firstCells, storeCells]
    | some ad => simp [Builtin.append_, run_underlying Try.underlying22, sizeOf, typeInfo, hi, Builtin.lenOf, Builtin.firstCells, loadCells, loadCellsFrom, storeCells]
  · rcases h with rfl | ⟨b, off, rfl, hc⟩
    · exact absurd rfl h0
    have hpos : 0 < xs.length := by cases xs <;> simp_all
    have hcl : (xs.map (Value.int .i64)).length = xs.length * i.size := by rw [hz1]; simp
    have hnews : ∀ j u, (xs.map (Value.int .i64))[j]? = some u → w.cell? ((⟨b, off, none⟩ : Addr).add j) = some u := by
      intro j u hu
      have hj : j < xs.length := by
        have := (List.getElem?_eq_some_iff.1 hu).1
        simpa using this
      rw [add_none, hc j hj, ← hu]
      simp [hj]
    have hr2 := run_append_grow (P := Try.prog) w 22 ty 3 i (.int .i64 0) Try.underlying22 hi hz0 ⟨g, 0, none⟩ 0 0 [] (by simp) (by intro j u hu; simp at hu) ⟨b, off, none⟩ xs.length cap (xs.map (Value.int .i64)) hcl hnews (by omega) (by omega) (growslice_fits (by omega) (by rw [hz2]; omega))
    have hown : w.ownsRow g 3 1 (.slice (some ⟨g, 0, none⟩) 0 0) 0 [] := ⟨by simp, Or.inr ⟨g, 0, #[], rfl, Nat.le_refl _, hg, Nat.le_refl _, by unfold maxLen; omega, rfl, rfl⟩⟩
    obtain ⟨v', w', hr, ho, _, _⟩ := run_append_own (P := Try.prog) (w := w) g 22 ty 3 i (.int .i64 0) 1 8 Try.underlying22 hi hz0 hz1 hz2 rfl (by decide) _ 0 [] hown
      ⟨b, off, none⟩ xs.length cap (xs.map (Value.int .i64)) (by simp) hnews (by intro u hu; obtain ⟨x, _, rfl⟩ := List.mem_map.1 hu; rfl) (by unfold maxLen; omega) (by omega) (Nat.le_of_lt hg.lt)
    rw [hr] at hr2
    injection hr2 with e1 e2
    refine ⟨v', w', hr, ?_, ?_, fun q hq => (ho.lt q hq).2⟩
    · rcases ho.2 with ⟨rfl, hz⟩ | ⟨k, cap2, cur, rfl, _, hk, hcap, hmax, _, _⟩
      · omega
      · refine ⟨_, cap2, by rw [Nat.zero_add], by omega, by omega, Or.inr ⟨k, 0, rfl, fun j hj => ?_⟩⟩
        have h3 := ho.cells (g := k) rfl j (.int .i64 (xs.getD j 0)) (by simp [hj])
        rw [add_none] at h3
        exact h3
    · rw [e2]
      exact (show Below w.heap.size w w.drew from ⟨rfl, rfl, rfl, Nat.le_refl _, fun _ _ => rfl⟩).alloc (Nat.le_refl _) _
end Go.Proofs.Ytgkmegcejekbcaa

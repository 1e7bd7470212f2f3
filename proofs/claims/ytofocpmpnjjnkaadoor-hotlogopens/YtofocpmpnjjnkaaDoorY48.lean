/- Layer 14: places that come in. -/
import Derived.Test.YtofocpmpnjjnkaaDoorY47
import Derived.Test.YtofocpmpnjjnkaaDoorY45
namespace Go.Proofs.YtofocpmpnjjnkaaDoor
open Go.ChangeShapes Go.WideShapes Go.ChangeAt Go.RowKit Go.Deep

theorem cells30p : Tryd.prog.cellsOf 30 = 4 := by kernel_rfl
theorem cells4p : Tryd.prog.cellsOf 4 = 1 := by kernel_rfl
theorem bytes30p : Tryd.prog.bytesOf 30 = 32 := by kernel_rfl
theorem und30p : ∃ f0 f1 f2 f3 : Field, Tryd.prog.underlying 30 = some (.struct #[f0, f1, f2, f3]) ∧ (f0.type = 3 ∧ f0.offset = 0) ∧ (f1.type = 3 ∧ f1.offset = 1) ∧ (f2.type = 3 ∧ f2.offset = 2) ∧ (f3.type = 4 ∧ f3.offset = 3) :=
  ⟨_, _, _, _, Tryd.underlying30, ⟨rfl, rfl⟩, ⟨rfl, rfl⟩, ⟨rfl, rfl⟩, rfl, rfl⟩
set_option maxRecDepth 100000 in
/-- one place, from its four cells -/
theorem open_place {H : Type} {enc : TypeId × Value → H} {W : World} {cs : List Value} {y : DataW H × List MemPlace} {n : Nat} (hf : DataW.trod enc Tryd.prog W 0 (fun _ => true) true n 30 cs = some y) : ∃ x : Pq, cs = x.cells ∧ x.ok := by
  obtain ⟨f0, f1, f2, f3, hu, ⟨t0, o0⟩, ⟨t1, o1⟩, ⟨t2, o2⟩, t3, o3⟩ := und30p
  obtain ⟨xs, m, _, hxy, hl, hxl, hx⟩ := DataW.trod_struct hu hf
  rw [cells30p] at hl
  match cs, hl, xs, hxl with
  | [v0, v1, v2, v3], _, [y0, y1, y2, y3], _ =>
    have g0 := hx 0 f0 rfl
    have g1 := hx 1 f1 rfl
    have g2 := hx 2 f2 rfl
    have g3 := hx 3 f3 rfl
    simp only [t0, t1, t2, t3, o0, o1, o2, o3, cells3, cells4p] at g0 g1 g2 g3
    simp at g0 g1 g2 g3
    obtain ⟨z0, rfl, i0⟩ := open_i64 g0
    obtain ⟨z1, rfl, i1⟩ := open_i64 g1
    obtain ⟨z2, rfl, i2⟩ := open_i64 g2
    obtain ⟨b, hb, _⟩ := DataW.trod_bool Tryd.underlying4 g3
    simp at hb
    subst hb
    exact ⟨⟨z0, z1, z2, b⟩, rfl, i0, i1, i2⟩
set_option maxRecDepth 100000 in
theorem open_places {H : Type} {enc : TypeId × Value → H} {W : World} {v : Value} {d : DataW H} {p : List MemPlace} {base : Nat}
    (hv : Value.okWide Tryd.prog W .any base 43 v) (h : DataW.Trod enc Tryd.prog W 0 (fun _ => true) true 43 v d p) : ∃ L : List Pq, (L.length ≤ 140737488355328 → PlsIn W v L) ∧ (L = [] ∨ ∃ elems spare, d = .slice elems spare ∧ elems.length = L.length) := by
  obtain ⟨a0, len0, cap0, rfl⟩ := okWide_slice Tryd.underlying43 hv
  obtain ⟨fuel, hf⟩ := h
  rcases open_slice Tryd.underlying43 hf with ⟨hcs, _⟩ | ⟨a, len, cap, m, n, D, Pl, hcs, _, hl, hm, hmm, hx, hrow⟩
  · simp [Value.cells] at hcs
    obtain ⟨rfl, rfl, rfl⟩ := hcs
    exact ⟨[], fun _ => plsNil W, Or.inl rfl⟩
  · simp [Value.cells] at hcs
    obtain ⟨rfl, rfl, rfl⟩ := hcs
    have hd := congrArg Prod.fst hx
    simp only at hd
    have hlm : len0 ≤ m := by rw [hmm]; split <;> omega
    obtain ⟨F, hF⟩ := choose_lt (α := Pq) (n := len0) (p := fun i o => W.cells? 0 (a.add (i * 4)) 4 = some o.cells ∧ o.ok) (fun i hi => by
      obtain ⟨cs', h1, h2⟩ := hrow i (by omega)
      rw [cells30p] at h1
      obtain ⟨o, ho, hin⟩ := open_place h2
      exact ⟨o, by rw [← ho]; exact h1, hin⟩)
    refine ⟨(List.range len0).map F, fun hb => ⟨some a, cap0, by simp, by simp; omega, hb, ?_, fun o ho => ?_⟩, Or.inr ⟨_, _, hd, by simp⟩⟩
    · by_cases h0 : len0 = 0
      · subst h0
        exact Or.inl (by simp)
      · right
        obtain ⟨_, _, hcell0⟩ := World.cells?_some (hF 0 (by omega)).1
        have hplain : ∃ b off, a = ⟨b, off, none⟩ := by
          have h1 := hcell0 0 (by omega)
          obtain ⟨ab, ao, sp⟩ := a
          have h1' : W.cell? ⟨ab, ao, sp⟩ = some (.int .i64 (F 0).dv) := by
            simpa [Addr.add, Pq.cells, plC] using h1
          have hsp : sp = none := by simpa [Addr.add] using World.cell?_spot h1'
          subst hsp
          exact ⟨ab, ao, rfl⟩
        obtain ⟨b, off, rfl⟩ := hplain
        refine ⟨b, off, rfl, fun i hi j hj => ?_⟩
        rw [List.length_map, List.length_range] at hi
        obtain ⟨_, _, hcell⟩ := World.cells?_some (hF i hi).1
        have h1 := hcell j (by omega)
        rw [add_none, add_none] at h1
        have e : ((List.range len0).map F).getD i default = F i := by simp [hi]
        rw [e, ← h1, Nat.add_assoc]
    · obtain ⟨i, hi, rfl⟩ := List.mem_map.1 ho
      exact (hF i (List.mem_range.1 hi)).2
theorem reach_pls {H : Type} {ts : List TypeId} {ds : List (DataW H)} (h : (DataW.weightsEach Tryd.prog ts ds).all (· ≤ reachBytes) = true) {j : Nat} {d : DataW H} {cs : List Pq} (ht : ts[j]? = some 43) (hd : ds[j]? = some d)
    (hc : cs = [] ∨ ∃ elems spare, d = .slice elems spare ∧ elems.length = cs.length) : cs.length ≤ 4398046511104 := by
  rcases hc with rfl | ⟨elems, spare, rfl, hl⟩
  · simp
  · have := sized_slice h ht hd Tryd.underlying43
    rw [bytes30p] at this
    unfold reachBytes at this
    omega
end Go.Proofs.YtofocpmpnjjnkaaDoor

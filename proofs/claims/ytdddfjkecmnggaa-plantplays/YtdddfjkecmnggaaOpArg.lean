/- The calls that come in: a slice of structs. -/
import Derived.Test.YtdddfjkecmnggaaOpenShape
import Derived.Test.YtdddfjkecmnggaaLawSt
import Derived.Deep.Slices
namespace Go.Proofs.Ytdddfjkecmnggaa
open Go.ChangeShapes Go.WideShapes Go.ChangeAt Go.RowKit Go.Deep

theorem cells39 : Try.prog.cellsOf 39 = 7 := by kernel_rfl
theorem cells22 : Try.prog.cellsOf 22 = 1 := by kernel_rfl
theorem und39 : ∃ f0 f1 f2 f3 f4 f5 f6 : Field, Try.prog.underlying 39 = some (.struct #[f0, f1, f2, f3, f4, f5, f6]) ∧ (f0.type = 3 ∧ f0.offset = 0) ∧ (f1.type = 3 ∧ f1.offset = 1) ∧ (f2.type = 3 ∧ f2.offset = 2) ∧ (f3.type = 3 ∧ f3.offset = 3) ∧ (f4.type = 3 ∧ f4.offset = 4) ∧ (f5.type = 5 ∧ f5.offset = 5) ∧ f6.type = 22 ∧ f6.offset = 6 :=
  ⟨_, _, _, _, _, _, _, Try.underlying39, ⟨rfl, rfl⟩, ⟨rfl, rfl⟩, ⟨rfl, rfl⟩, ⟨rfl, rfl⟩, ⟨rfl, rfl⟩, ⟨rfl, rfl⟩, rfl, rfl⟩
instance : Inhabited OpD := ⟨⟨0, 0, 0, 0, 0, 0, .slice none 0 0, []⟩⟩
/-- a slice of calls -/
def OpsIn (W : World) (v : Value) (L : List OpD) : Prop :=
  ∃ p cap, v = .slice p L.length cap ∧ L.length ≤ 1048576 ∧ (L = [] ∨ ∃ b off, p = some ⟨b, off, none⟩ ∧ ∀ i, i < L.length → ∀ j, j < 7 → W.cell? ⟨b, off + (i * 7 + j), none⟩ = (L.getD i default).cells[j]?) ∧ ∀ o ∈ L, OpIn W o
theorem open_i64 {H : Type} {enc : TypeId × Value → H} {W : World} {v : Value} {y : DataW H × List MemPlace} {n : Nat} (hf : DataW.trod enc Try.prog W 0 (fun _ => true) true n 3 [v] = some y) : ∃ z, v = .int .i64 z ∧ I64 z := by
  obtain ⟨z, hz, _, hw⟩ := DataW.trod_int Try.underlying3 hf
  refine ⟨z, by simpa using hz, ?_⟩
  have h : (-9223372036854775808 ≤ z ∧ z ≤ 9223372036854775807) := by simpa [Lit.wf, IntKind.min, IntKind.max, IntKind.signed, IntKind.bits] using hw
  exact h
set_option maxRecDepth 100000 in
/-- one call, from its seven cells -/
theorem open_op {H : Type} {enc : TypeId × Value → H} {W : World} {cs : List Value} {y : DataW H × List MemPlace} {n : Nat} (hf : DataW.trod enc Try.prog W 0 (fun _ => true) true n 39 cs = some y) (hk : Rows.uptoBulk y.1 ≤ 1048576) : ∃ o : OpD, cs = o.cells ∧ OpIn W o := by
  obtain ⟨f0, f1, f2, f3, f4, f5, f6, hu, ⟨t0, o0⟩, ⟨t1, o1⟩, ⟨t2, o2⟩, ⟨t3, o3⟩, ⟨t4, o4⟩, ⟨t5, o5⟩, t6, o6⟩ := und39
  obtain ⟨xs, m, _, hxy, hl, hxl, hx⟩ := DataW.trod_struct hu hf
  rw [cells39] at hl
  match cs, hl, xs, hxl with
  | [v0, v1, v2, v3, v4, v5, v6], _, [y0, y1, y2, y3, y4, y5, y6], _ =>
    have g0 := hx 0 f0 rfl
    have g1 := hx 1 f1 rfl
    have g2 := hx 2 f2 rfl
    have g3 := hx 3 f3 rfl
    have g4 := hx 4 f4 rfl
    have g5 := hx 5 f5 rfl
    have g6 := hx 6 f6 rfl
    simp only [t0, t1, t2, t3, t4, t5, t6, o0, o1, o2, o3, o4, o5, o6, cells3, cells5, cells22] at g0 g1 g2 g3 g4 g5 g6
    simp at g0 g1 g2 g3 g4 g5 g6
    obtain ⟨z0, rfl, i0⟩ := open_i64 g0
    obtain ⟨z1, rfl, i1⟩ := open_i64 g1
    obtain ⟨z2, rfl, i2⟩ := open_i64 g2
    obtain ⟨z3, rfl, i3⟩ := open_i64 g3
    obtain ⟨z4, rfl, i4⟩ := open_i64 g4
    obtain ⟨z5, h5, _, w5⟩ := DataW.trod_int Try.underlying5 g5
    have h5' : v5 = .int .u8 z5 := by simpa using h5
    subst h5'
    have b5 : 0 ≤ z5 ∧ z5 ≤ 255 := by simpa [Lit.wf, IntKind.min, IntKind.max, IntKind.signed, IntKind.bits] using w5
    obtain ⟨ks, hks, hd⟩ := open_field g6
    rw [hxy] at hk
    simp only [List.map_cons, List.map_nil, Rows.uptoBulk, Rows.uptoBulkAll] at hk
    have hlen : ks.length ≤ 1048576 := by
      rcases hd with rfl | ⟨elems, spare, e, he⟩
      · simp
      · rw [e] at hk
        simp only [Rows.uptoBulk] at hk
        have := bulk_length elems
        omega
    refine ⟨⟨z0, z1, z2, z3, z4, z5.toNat, v6, ks⟩, ?_, ⟨i0, i1, i2, i3, i4, (by show z5.toNat < 256; omega), hks (by omega)⟩⟩
    simp [OpD.cells, opCells, Int.toNat_of_nonneg b5.1]
theorem bulk_mem {H : Type} {l : List (DataW H)} {d : DataW H} (h : d ∈ l) : Rows.uptoBulk d ≤ Rows.uptoBulkAll l := by
  induction l with
  | nil => cases h
  | cons x r ih =>
    simp only [Rows.uptoBulkAll]
    rcases List.mem_cons.1 h with rfl | h
    · omega
    · have := ih h
      omega
set_option maxRecDepth 100000 in
/-- A SLICE OF CALLS THAT CAME IN -/
theorem open_ops {H : Type} {enc : TypeId × Value → H} {W : World} {v : Value} {d : DataW H} {p : List MemPlace} {base : Nat}
    (hv : Value.okWide Try.prog W .any base 35 v) (h : DataW.Trod enc Try.prog W 0 (fun _ => true) true 35 v d p) (hk : Rows.uptoBulk d ≤ 1048576) : ∃ L, OpsIn W v L := by
  obtain ⟨a0, len0, cap0, rfl⟩ := okWide_slice Try.underlying35 hv
  obtain ⟨fuel, hf⟩ := h
  rcases open_slice Try.underlying35 hf with ⟨hcs, _⟩ | ⟨a, len, cap, m, n, D, Pl, hcs, _, hl, hm, hmm, hx, hrow⟩
  · simp [Value.cells] at hcs
    obtain ⟨rfl, rfl, rfl⟩ := hcs
    exact ⟨[], none, 0, rfl, by simp, Or.inl rfl, fun o ho => by cases ho⟩
  · simp [Value.cells] at hcs
    obtain ⟨rfl, rfl, rfl⟩ := hcs
    have hd := congrArg Prod.fst hx
    simp only at hd
    rw [hd] at hk
    simp only [Rows.uptoBulk] at hk
    have hlm : len0 ≤ m := by rw [hmm]; split <;> omega
    have hb := bulk_length ((List.range len0).map D)
    rw [List.length_map, List.length_range] at hb
    obtain ⟨F, hF⟩ := choose_lt (α := OpD) (n := len0) (p := fun i o => W.cells? 0 (a.add (i * 7)) 7 = some o.cells ∧ OpIn W o) (fun i hi => by
      obtain ⟨cs', h1, h2⟩ := hrow i (by omega)
      rw [cells39] at h1
      have hmem : D i ∈ (List.range len0).map D := List.mem_map.2 ⟨i, List.mem_range.2 hi, rfl⟩
      have := bulk_mem hmem
      obtain ⟨o, ho, hin⟩ := open_op h2 (by show Rows.uptoBulk (D i) ≤ _; omega)
      exact ⟨o, by rw [← ho]; exact h1, hin⟩)
    refine ⟨(List.range len0).map F, some a, cap0, by simp, by simp; omega, ?_, fun o ho => ?_⟩
    · by_cases h0 : len0 = 0
      · subst h0
        exact Or.inl (by simp)
      · right
        obtain ⟨_, _, hcell0⟩ := World.cells?_some (hF 0 (by omega)).1
        have hplain : ∃ b off, a = ⟨b, off, none⟩ := by
          have h1 := hcell0 0 (by omega)
          obtain ⟨ab, ao, sp⟩ := a
          have h1' : W.cell? ⟨ab, ao, sp⟩ = some (.int .i64 (F 0).k) := by
            simpa [Addr.add, OpD.cells, opCells] using h1
          have hsp : sp = none := by simpa [Addr.add] using World.cell?_spot h1'
          subst hsp
          exact ⟨ab, ao, rfl⟩
        obtain ⟨b, off, rfl⟩ := hplain
        refine ⟨b, off, rfl, fun i hi j hj => ?_⟩
        rw [List.length_map, List.length_range] at hi
        obtain ⟨_, _, hcell⟩ := World.cells?_some (hF i hi).1
        have h1 := hcell j (by omega)
        rw [add_none, add_none] at h1
        have e : ((List.range len0).map F).getD i default = F i := by simp [hi]
        rw [e, ← h1, Nat.add_assoc]
    · obtain ⟨i, hi, rfl⟩ := List.mem_map.1 ho
      exact (hF i (List.mem_range.1 hi)).2
end Go.Proofs.Ytdddfjkecmnggaa

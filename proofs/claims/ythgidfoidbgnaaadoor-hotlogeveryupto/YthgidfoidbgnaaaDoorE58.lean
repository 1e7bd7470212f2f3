/- Layer 14: scripts that come in. -/
import Derived.Test.YthgidfoidbgnaaaDoorE56
import Derived.Test.YthgidfoidbgnaaaDoorE46
namespace Go.Proofs.YthgidfoidbgnaaaDoor
open Go.ChangeShapes Go.WideShapes Go.ChangeAt Go.RowKit Go.Deep

set_option maxRecDepth 100000 in
theorem bytes_field {H : Type} {enc : TypeId × Value → H} {W : World} {v : Value} {y : DataW H × List MemPlace} {n : Nat} (hf : DataW.trod enc Tryd.prog W 0 (fun _ => true) true n 28 [v] = some y) : ∃ cs, SliceIn W v cs ∧ (cs = [] ∨ ∃ elems spare, y.1 = .slice elems spare ∧ elems.length = cs.length) := by
 rcases open_ints Tryd.underlying28 Tryd.underlying5 cells5 hf with ⟨hcs, _⟩ | ⟨x, l, c, zs, hcs, _, hl, hm, hz, hx, hcell, hwz⟩
 ·simp at hcs
  subst hcs
  exact ⟨[], ⟨none, 0, rfl, by simp, Or.inl rfl⟩, Or.inl rfl⟩
 ·simp at hcs
  subst hcs
  have hz' : zs.length = c := by simpa using hz
  unfold maxLen at hm
  have hlen : ((zs.take l).map Int.toNat).length = l := by simp; omega
  have hbd : ∀ z ∈ zs, 0 ≤ z ∧ z ≤ 255 := fun z hz => by
   have := hwz z hz
   simpa [Lit.wf, IntKind.min, IntKind.max, IntKind.signed, IntKind.bits] using this
  by_cases h0 : l = 0
  ·subst h0
   exact ⟨[], ⟨some x, c, rfl, by simp, Or.inl rfl⟩, Or.inl rfl⟩
  ·obtain ⟨b, off, rfl, hc⟩ := ints_at hcell (by omega)
   refine ⟨(zs.take l).map Int.toNat, ⟨some ⟨b, off, none⟩, c, by rw [hlen], by omega, Or.inr ⟨b, off, rfl, fun j hj => ?_, fun j => ?_⟩⟩, Or.inr ⟨_, _, congrArg Prod.fst hx, by simp [lits]⟩⟩
   ·rw [hlen] at hj
    have h1 := hc j (by omega)
    rw [h1]
    have hj' : j < zs.length := by omega
    have h2 := hbd zs[j] (List.getElem_mem hj')
    simp [hj, hj', Int.toNat_of_nonneg h2.1]
   ·apply Fr.Frame.getD_lt
    intro z hz
    obtain ⟨y, hy, rfl⟩ := List.mem_map.1 hz
    have := hbd y (List.mem_of_mem_take hy)
    omega
theorem bulk_sl {H : Type} {d : DataW H} {α : Type} {l : List α} (hd : l = [] ∨ ∃ elems spare, d = .slice elems spare ∧ elems.length = l.length) (hk : Rows.uptoBulk d ≤ 1048576) : l.length ≤ 1048576 := by
 rcases hd with rfl | ⟨elems, spare, e, he⟩
 ·simp
 ·rw [e] at hk
  simp only [Rows.uptoBulk] at hk
  have := bulk_length elems
  omega
theorem und33h : ∃ f0 f1 f2 f3 f4 : Field, Tryd.prog.underlying 33 = some (.struct #[f0, f1, f2, f3, f4]) ∧ (f0.type = 3 ∧ f0.offset = 0) ∧ (f1.type = 3 ∧ f1.offset = 1) ∧ (f2.type = 28 ∧ f2.offset = 2) ∧ (f3.type = 30 ∧ f3.offset = 3) ∧ (f4.type = 31 ∧ f4.offset = 7) :=
 ⟨_, _, _, _, _, Tryd.underlying33, ⟨rfl, rfl⟩, ⟨rfl, rfl⟩, ⟨rfl, rfl⟩, ⟨rfl, rfl⟩, rfl, rfl⟩
set_option maxRecDepth 100000 in
/-- one thing to be done, from its eight cells -/
theorem open_opH {H : Type} {enc : TypeId × Value → H} {W : World} {cs : List Value} {y : DataW H × List MemPlace} {n : Nat} (hf : DataW.trod enc Tryd.prog W 0 (fun _ => true) true n 33 cs = some y) (hk : Rows.uptoBulk y.1 ≤ 1048576) : ∃ o : OpD, cs = o.cells ∧ o.ok W := by
 obtain ⟨f0, f1, f2, f3, f4, hu, ⟨t0, o0⟩, ⟨t1, o1⟩, ⟨t2, o2⟩, ⟨t3, o3⟩, t4, o4⟩ := und33h
 obtain ⟨xs, m, _, hxy, hl, hxl, hx⟩ := DataW.trod_struct hu hf
 rw [cells33] at hl
 match cs, hl, xs, hxl with
 | [v0, v1, v2, v3, v4, v5, v6, v7], _, [y0, y1, y2, y3, y4], _ =>
  have g0 := hx 0 f0 rfl
  have g1 := hx 1 f1 rfl
  have g2 := hx 2 f2 rfl
  have g3 := hx 3 f3 rfl
  have g4 := hx 4 f4 rfl
  simp only [t0, t1, t2, t3, t4, o0, o1, o2, o3, o4, cells3, cells28, cells30p, cells31] at g0 g1 g2 g3 g4
  simp at g0 g1 g2 g3 g4
  obtain ⟨z0, rfl, i0⟩ := open_i64 g0
  obtain ⟨z1, rfl, i1⟩ := open_i64 g1
  obtain ⟨L, hL, hLb⟩ := bytes_field g2
  obtain ⟨px, hpx, hok⟩ := open_place g3
  obtain ⟨ks, hks, hd⟩ := open_field g4
  rw [hxy] at hk
  simp only [List.map_cons, List.map_nil, Rows.uptoBulk, Rows.uptoBulkAll] at hk
  have hl1 := bulk_sl hLb (by omega)
  have hl2 := bulk_sl hd (by omega)
  have e : [v3, v4, v5, v6] = [.int .i64 px.dv, .int .i64 px.at_, .int .i64 px.ln, .bool px.bd] := hpx
  injection e with e3 e
  injection e with e4 e
  injection e with e5 e
  injection e with e6 e
  subst e3 e4 e5 e6
  exact ⟨⟨z0, z1, v2, px, v7, L, ks⟩, rfl, ⟨i0, i1, hok, fun W' hb => hL.later hb, by show L.length ≤ _; omega, hks (by omega)⟩⟩
set_option maxRecDepth 100000 in
/-- A SLICE OF CALLS THAT CAME IN -/
theorem open_opsH {H : Type} {enc : TypeId × Value → H} {W : World} {v : Value} {d : DataW H} {p : List MemPlace} {base : Nat}
  (hv : Value.okWide Tryd.prog W .any base 22 v) (h : DataW.Trod enc Tryd.prog W 0 (fun _ => true) true 22 v d p) (hk : Rows.uptoBulk d ≤ 1048576) : ∃ L, OpsIn W v L := by
 obtain ⟨a0, len0, cap0, rfl⟩ := okWide_slice Tryd.underlying22 hv
 obtain ⟨fuel, hf⟩ := h
 rcases open_slice Tryd.underlying22 hf with ⟨hcs, _⟩ | ⟨a, len, cap, m, n, D, Pl, hcs, _, hl, hm, hmm, hx, hrow⟩
 ·simp [Value.cells] at hcs
  obtain ⟨rfl, rfl, rfl⟩ := hcs
  exact ⟨[], none, 0, rfl, by simp, by simp, Or.inl rfl, fun o ho => by cases ho⟩
 ·simp [Value.cells] at hcs
  obtain ⟨rfl, rfl, rfl⟩ := hcs
  have hd := congrArg Prod.fst hx
  simp only at hd
  rw [hd] at hk
  simp only [Rows.uptoBulk] at hk
  have hlm : len0 ≤ m := by rw [hmm]; split <;> omega
  have hb := bulk_length ((List.range len0).map D)
  rw [List.length_map, List.length_range] at hb
  obtain ⟨F, hF⟩ := choose_lt (α := OpD) (n := len0) (p := fun i o => W.cells? 0 (a.add (i * 8)) 8 = some o.cells ∧ o.ok W) (fun i hi => by
   obtain ⟨cs', h1, h2⟩ := hrow i (by omega)
   rw [cells33] at h1
   have hmem : D i ∈ (List.range len0).map D := List.mem_map.2 ⟨i, List.mem_range.2 hi, rfl⟩
   have := bulk_mem hmem
   obtain ⟨o, ho, hin⟩ := open_opH h2 (by show Rows.uptoBulk (D i) ≤ _; omega)
   exact ⟨o, by rw [← ho]; exact h1, hin⟩)
  refine ⟨(List.range len0).map F, some a, cap0, by simp, by simp; omega, by simp; omega, ?_, fun o ho => ?_⟩
  ·by_cases h0 : len0 = 0
   ·subst h0
    exact Or.inl (by simp)
   ·right
    obtain ⟨_, _, hcell0⟩ := World.cells?_some (hF 0 (by omega)).1
    have hplain : ∃ b off, a = ⟨b, off, none⟩ := by
     have h1 := hcell0 0 (by omega)
     obtain ⟨ab, ao, sp⟩ := a
     have h1' : W.cell? ⟨ab, ao, sp⟩ = some (.int .i64 (F 0).k) := by
      simpa [Addr.add, OpD.cells, opC] using h1
     have hsp : sp = none := by simpa [Addr.add] using World.cell?_spot h1'
     subst hsp
     exact ⟨ab, ao, rfl⟩
    obtain ⟨b, off, rfl⟩ := hplain
    refine ⟨b, off, rfl, fun i hi j hj => ?_⟩
    rw [List.length_map, List.length_range] at hi
    obtain ⟨_, _, hcell⟩ := World.cells?_some (hF i hi).1
    have h1 := hcell j (by omega)
    rw [add_none, add_none] at h1
    have e : ((List.range len0).map F).getD i default = F i := by simp [hi]
    rw [e, ← h1, Nat.add_assoc]
  ·obtain ⟨i, hi, rfl⟩ := List.mem_map.1 ho
   exact (hF i (List.mem_range.1 hi)).2
end Go.Proofs.YthgidfoidbgnaaaDoor

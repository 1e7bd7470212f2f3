/- What comes in: records, rows of records, what is done to them. -/
import Derived.Test.YtobolkllplmmcabT17
import Derived.Test.YtobolkllplmmcabRows
import Derived.Test.YtobolkllplmmcabChecked
import Derived.ProofKit
import Derived.OpenShut
import Derived.ChangeOld
import Derived.Below
import Derived.SizedLaws
import Derived.Deep.DeepHandedRow
import Derived.LaidLaws
import Derived.Deep.Slices
import Derived.Deep.Matrix
namespace Go.Proofs.Ytobolkllplmmcab
open Go.ChangeShapes Go.WideShapes Go.ChangeAt Go.RowKit Go.Deep

theorem own : ownKnob Try.prog.godebug = none := by kernel_rfl
theorem laidOut : laidOutB Try.prog = true := by kernel_rfl
theorem cells5 : Try.prog.cellsOf 5 = 1 := by kernel_rfl
theorem cells3 : Try.prog.cellsOf 3 = 1 := by kernel_rfl
theorem bytes3 : Try.prog.bytesOf 3 = 8 := by kernel_rfl
theorem bytes47 : Try.prog.bytesOf 36 = 32 := by kernel_rfl
theorem bytes26 : Try.prog.bytesOf 26 = 104 := by kernel_rfl
def laidOn (W : World) : World := W
theorem cells23 : Try.prog.cellsOf 23 = 32 := by kernel_rfl
theorem cells24 : Try.prog.cellsOf 24 = 1 := by kernel_rfl
theorem cells9 : Try.prog.cellsOf 9 = 1 := by kernel_rfl
theorem cells4 : Try.prog.cellsOf 4 = 1 := by kernel_rfl
theorem cells47 : Try.prog.cellsOf 36 = 4 := by kernel_rfl
theorem cells26 : Try.prog.cellsOf 26 = 39 := by kernel_rfl
section
variable {H : Type} {enc : TypeId × Value → H} {W : World} {base : Nat} {sp : Nat → Bool} {hd : Bool}
/-- THE CELLS OF A HASH -/
theorem trod_hash {fuel : Nat} {cs : List Value} {x : DataW H × List MemPlace} (h : DataW.trod enc Try.prog W base sp hd fuel 23 cs = some x) : ∃ b, IsH b ∧ cs = bcells b := by
  obtain ⟨xs, m, _, _, hl, hxl, hf⟩ := DataW.trod_array Try.underlying23 h
  rw [cells23] at hl
  have key : ∀ i, i < 32 → ∃ n : Nat, n < 256 ∧ cs[i]? = some (.int .u8 (n : Int)) := by
    intro i hi
    have h1 := hf i hi
    rw [cells5, Nat.mul_one, List.getElem?_eq_getElem (by omega)] at h1
    obtain ⟨n, hn, _, hw⟩ := DataW.trod_int Try.underlying5 h1
    have hb : 0 ≤ n ∧ n ≤ 255 := by simpa [Lit.wf, IntKind.min, IntKind.max, IntKind.signed, IntKind.bits] using hw
    have hc : cs[i]? = ((cs.drop i).take 1)[0]? := by simp
    rw [hn] at hc
    refine ⟨n.toNat, by omega, ?_⟩
    rw [hc, Int.toNat_of_nonneg hb.1]
    rfl
  refine ⟨cs.map (fun c => (match c with | .int _ z => z.toNat | _ => 0)), ⟨by rw [List.length_map, hl], fun c hc => ?_⟩, ?_⟩
  · obtain ⟨v, hv, rfl⟩ := List.mem_map.1 hc
    obtain ⟨i, hi, rfl⟩ := List.getElem_of_mem hv
    obtain ⟨n, hn, e⟩ := key i (by omega)
    rw [List.getElem?_eq_getElem hi] at e
    rw [Option.some.inj e]
    simpa using hn
  · refine List.ext_getElem? fun i => ?_
    by_cases hi : i < cs.length
    · obtain ⟨n, hn, e⟩ := key i (by omega)
      simp only [bcells, List.getElem?_map, e, Option.map_some]
      simp
    · rw [List.getElem?_eq_none (by omega), List.getElem?_eq_none (by rw [bcells_length, List.length_map]; omega)]
/-- A HASH THAT CAME IN -/

theorem und47 : ∃ f0 f1 f2 f3 : Field, Try.prog.underlying 36 = some (.struct #[f0, f1, f2, f3]) ∧ (f0.type = 3 ∧ f0.offset = 0) ∧ (f1.type = 3 ∧ f1.offset = 1) ∧ (f2.type = 3 ∧ f2.offset = 2) ∧ (f3.type = 4 ∧ f3.offset = 3) :=
  ⟨_, _, _, _, Try.underlying36, ⟨rfl, rfl⟩, ⟨rfl, rfl⟩, ⟨rfl, rfl⟩, rfl, rfl⟩
/-- THE CELLS OF A PLACE -/
theorem trod_place {fuel : Nat} {cs : List Value} {x : DataW H × List MemPlace} (h : DataW.trod enc Try.prog W base sp hd fuel 36 cs = some x) : ∃ p, cs = pcells p := by
  obtain ⟨f0, f1, f2, f3, hu, ⟨t0, o0⟩, ⟨t1, o1⟩, ⟨t2, o2⟩, ⟨t3, o3⟩⟩ := und47
  obtain ⟨xs, n, _, hx, hl, hlen, hfs⟩ := DataW.trod_struct hu h
  rw [cells47] at hl
  match xs, hlen with
  | [y0, y1, y2, y3], _ =>
    have g0 := hfs 0 f0 rfl
    have g1 := hfs 1 f1 rfl
    have g2 := hfs 2 f2 rfl
    have g3 := hfs 3 f3 rfl
    rw [t0, o0, cells3] at g0
    rw [t1, o1, cells3] at g1
    rw [t2, o2, cells3] at g2
    rw [t3, o3, cells4] at g3
    obtain ⟨a, e0, _, _⟩ := DataW.trod_int Try.underlying3 g0
    obtain ⟨b, e1, _, _⟩ := DataW.trod_int Try.underlying3 g1
    obtain ⟨c, e2, _, _⟩ := DataW.trod_int Try.underlying3 g2
    obtain ⟨d, e3, _⟩ := DataW.trod_bool Try.underlying4 g3
    refine ⟨⟨a, b, c, d⟩, ?_⟩
    match cs, hl with
    | [z0, z1, z2, z3], _ =>
      simp at e0 e1 e2 e3
      simp [pcells, e0, e1, e2, e3]
/-- A ROW OF PLACES -/
theorem trod_places {fuel : Nat} {v : Value} {x : DataW H × List MemPlace} (hf : DataW.trod enc Try.prog W base sp hd fuel 24 [v] = some x) : ∃ ps, PlIn W v ps ∧ (ps = [] ∨ ∃ elems spare, x.1 = .slice elems spare ∧ elems.length = ps.length) := by
  rcases open_slice Try.underlying24 hf with ⟨hcs, _⟩ | ⟨a, len, cap, m, n, D, Pl, hcs, _, hl, hm, hmm, hx, hel⟩
  · simp at hcs
    subst hcs
    exact ⟨[], PlIn.nil W, Or.inl rfl⟩
  · simp at hcs
    subst hcs
    have hlen : len ≤ m := by rw [hmm]; split <;> omega
    rw [cells47] at hel
    haveI : Inhabited Pc := ⟨⟨0, 0, 0, false⟩⟩
    obtain ⟨B, hB⟩ := choose_lt (α := Pc) (p := fun i b => W.cells? base (a.add (i * 4)) 4 = some (pcells b)) (n := len) (fun i hi => by
      obtain ⟨cs', h1, h2⟩ := hel i (by omega)
      obtain ⟨b, rfl⟩ := trod_place h2
      exact ⟨b, h1⟩)
    unfold maxLen at hm
    refine ⟨(List.range len).map B, ⟨some a, cap, by simp, ⟨by simpa using hl, by simp; omega⟩, ?_⟩, Or.inr ⟨_, _, congrArg Prod.fst hx, by simp⟩⟩
    by_cases h0 : len = 0
    · subst h0
      exact Or.inl (by simp)
    · right
      have hplain : ∃ b off, a = ⟨b, off, none⟩ := by
        have hc0 := hB 0 (by omega)
        obtain ⟨_, _, hc⟩ := World.cells?_some hc0
        have h1 := hc 0 (by decide)
        rw [show (pcells (B 0))[0]? = some (.int .i64 (B 0).dev) from rfl] at h1
        obtain ⟨ab, ao, sp'⟩ := a
        have hsp : sp' = none := by simpa [Addr.add] using World.cell?_spot h1
        subst hsp
        exact ⟨ab, ao, rfl⟩
      obtain ⟨b, off, rfl⟩ := hplain
      refine ⟨b, off, rfl, fun j hj => ?_⟩
      rw [List.length_map, List.length_range] at hj
      have hi : j / 4 < len := by omega
      have hci := hB (j / 4) hi
      obtain ⟨_, _, hc⟩ := World.cells?_some hci
      have h1 := hc (j % 4) (by omega)
      rw [add_none, add_none] at h1
      have h2 := pcs_at ((List.range len).map B) (j / 4) (B (j / 4)) (by simp [hi]) (j % 4) (by omega)
      rw [show j / 4 * 4 + j % 4 = j by omega] at h2
      rw [h2, ← h1, show off + j / 4 * 4 + j % 4 = off + j by omega]
theorem und26 : ∃ f0 f1 f2 f3 f4 f5 f6 f7 : Field, Try.prog.underlying 26 = some (.struct #[f0, f1, f2, f3, f4, f5, f6, f7]) ∧ (f0.type = 9 ∧ f0.offset = 0) ∧ (f1.type = 3 ∧ f1.offset = 1) ∧ (f2.type = 23 ∧ f2.offset = 2) ∧ (f3.type = 3 ∧ f3.offset = 34) ∧ (f4.type = 3 ∧ f4.offset = 35) ∧ (f5.type = 4 ∧ f5.offset = 36) ∧ (f6.type = 4 ∧ f6.offset = 37) ∧ (f7.type = 24 ∧ f7.offset = 38) :=
  ⟨_, _, _, _, _, _, _, _, Try.underlying26, ⟨rfl, rfl⟩, ⟨rfl, rfl⟩, ⟨rfl, rfl⟩, ⟨rfl, rfl⟩, ⟨rfl, rfl⟩, ⟨rfl, rfl⟩, ⟨rfl, rfl⟩, rfl, rfl⟩
theorem cut8 (cs : List Value) (x0 x1 xs x3 x4 x5 x6 z) (hl : cs.length = 39) (h0 : (cs.drop 0).take 1 = [x0]) (h1 : (cs.drop 1).take 1 = [x1]) (h2 : (cs.drop 2).take 32 = xs) (h3 : (cs.drop 34).take 1 = [x3]) (h4 : (cs.drop 35).take 1 = [x4]) (h5 : (cs.drop 36).take 1 = [x5]) (h6 : (cs.drop 37).take 1 = [x6]) (h7 : (cs.drop 38).take 1 = [z]) : cs = x0 :: x1 :: (xs ++ [x3, x4, x5, x6, z]) := by
  have a7 : cs = cs.take 38 ++ (cs.drop 38).take 1 := by rw [← List.take_add, List.take_of_length_le (by omega)]
  have a6 : cs.take 38 = cs.take 37 ++ (cs.drop 37).take 1 := by rw [← List.take_add]
  have a5 : cs.take 37 = cs.take 36 ++ (cs.drop 36).take 1 := by rw [← List.take_add]
  have a4 : cs.take 36 = cs.take 35 ++ (cs.drop 35).take 1 := by rw [← List.take_add]
  have a3 : cs.take 35 = cs.take 34 ++ (cs.drop 34).take 1 := by rw [← List.take_add]
  have a2 : cs.take 34 = cs.take 2 ++ (cs.drop 2).take 32 := by rw [← List.take_add]
  have a1 : cs.take 2 = cs.take 1 ++ (cs.drop 1).take 1 := by rw [← List.take_add]
  rw [List.drop_zero] at h0
  rw [a7, a6, a5, a4, a3, a2, a1, h0, h1, h2, h3, h4, h5, h6, h7]
  simp
/-- THE CELLS OF A RECORD -/
theorem trod_rec {fuel : Nat} {cs : List Value} {x : DataW H × List MemPlace} (hf : DataW.trod enc Try.prog W base sp hd fuel 26 cs = some x) :
    ∃ r vc, cs = rcells r vc ∧ Fits W r vc ∧ ∃ d0 d1 d2 d3 d4 d5 d6 d7, x.1 = .agg [d0, d1, d2, d3, d4, d5, d6, d7] ∧ (r.cp = [] ∨ ∃ elems spare, d7 = .slice elems spare ∧ elems.length = r.cp.length) := by
  obtain ⟨f0, f1, f2, f3, f4, f5, f6, f7, hu, ⟨t0, o0⟩, ⟨t1, o1⟩, ⟨t2, o2⟩, ⟨t3, o3⟩, ⟨t4, o4⟩, ⟨t5, o5⟩, ⟨t6, o6⟩, ⟨t7, o7⟩⟩ := und26
  obtain ⟨xs, n, _, hx, hl, hlen, hfs⟩ := DataW.trod_struct hu hf
  match xs, hlen with
  | [y0, y1, y2, y3, y4, y5, y6, y7], _ =>
    have g0 := hfs 0 f0 rfl
    have g1 := hfs 1 f1 rfl
    have g2 := hfs 2 f2 rfl
    have g3 := hfs 3 f3 rfl
    have g4 := hfs 4 f4 rfl
    have g5 := hfs 5 f5 rfl
    have g6 := hfs 6 f6 rfl
    have g7 := hfs 7 f7 rfl
    rw [t0, o0, cells9] at g0
    rw [t1, o1, cells3] at g1
    rw [t2, o2, cells23] at g2
    rw [t3, o3, cells3] at g3
    rw [t4, o4, cells3] at g4
    rw [t5, o5, cells4] at g5
    rw [t6, o6, cells4] at g6
    rw [t7, o7, cells24] at g7
    obtain ⟨s, e0, _, _⟩ := DataW.trod_string Try.underlying9 g0
    obtain ⟨a1, e1, _, _⟩ := DataW.trod_int Try.underlying3 g1
    obtain ⟨b, hb, e2⟩ := trod_hash g2
    obtain ⟨a3, e3, _, _⟩ := DataW.trod_int Try.underlying3 g3
    obtain ⟨a4, e4, _, _⟩ := DataW.trod_int Try.underlying3 g4
    obtain ⟨a5, e5, _⟩ := DataW.trod_bool Try.underlying4 g5
    obtain ⟨a6, e6, _⟩ := DataW.trod_bool Try.underlying4 g6
    have hc39 : cs.length = 39 := by rw [hl, cells26]
    have hsl : ∃ z, (cs.drop 38).take 1 = [z] := by
      refine List.length_eq_one_iff.1 ?_
      rw [List.length_take, List.length_drop, hc39]
      rfl
    obtain ⟨z, ez⟩ := hsl
    have g7' : DataW.trod enc Try.prog W base sp hd n 24 [z] = some y7 := by rw [← ez]; exact g7
    obtain ⟨ps, hin, hdat⟩ := trod_places g7'
    have hcs := cut8 _ _ _ _ _ _ _ _ z hc39 e0 e1 e2 e3 e4 e5 e6 ez
    refine ⟨⟨s, a1, b, a3, a4, a5, a6, ps⟩, z, hcs, ⟨hb.1, hb.2, hin⟩, y0.1, y1.1, y2.1, y3.1, y4.1, y5.1, y6.1, y7.1, by have := congrArg Prod.fst hx; simpa using this, hdat⟩
/-- THE RECORD THAT CAME IN -/
theorem open_rec {v : Value} {d : DataW H} {p : List MemPlace} {b0 : Nat} (hv' : Value.okWide Try.prog W .any b0 26 v) (h : DataW.Trod enc Try.prog W base sp hd 26 v d p) :
    ∃ r vc, v = .agg (rcells r vc).toArray ∧ Fits W r vc ∧ ∃ d0 d1 d2 d3 d4 d5 d6 d7, d = .agg [d0, d1, d2, d3, d4, d5, d6, d7] ∧ (r.cp = [] ∨ ∃ elems spare, d7 = .slice elems spare ∧ elems.length = r.cp.length) := by
  obtain ⟨_, _, _, _, _, _, _, _, hu, _⟩ := und26
  obtain ⟨cs, rfl, hsz⟩ := okWide_struct hu hv'
  obtain ⟨fuel, hf⟩ := h
  obtain ⟨r, vc, hcs, hfit, hd'⟩ := trod_rec hf
  refine ⟨r, vc, ?_, hfit, hd'⟩
  rw [← hcs]
  simp [Value.cells]
/-- ITS PLACES, WITHIN THE FORM's OWN REACH -/
theorem reach_rec {ts : List TypeId} {ds : List (DataW H)} (h : (DataW.weightsEach Try.prog ts ds).all (· ≤ reachBytes) = true) {j : Nat} {d : DataW H} (ht : ts[j]? = some 26) (hd : ds[j]? = some d) {r : Rc}
    (hc : ∃ d0 d1 d2 d3 d4 d5 d6 d7, d = .agg [d0, d1, d2, d3, d4, d5, d6, d7] ∧ (r.cp = [] ∨ ∃ elems spare, d7 = .slice elems spare ∧ elems.length = r.cp.length)) : (r.cp.length + 1) * 32 ≤ 140737488355328 := by
  obtain ⟨d0, d1, d2, d3, d4, d5, d6, d7, rfl, hc⟩ := hc
  obtain ⟨f0, f1, f2, f3, f4, f5, f6, f7, hu, ⟨t0, o0⟩, ⟨t1, o1⟩, ⟨t2, o2⟩, ⟨t3, o3⟩, ⟨t4, o4⟩, ⟨t5, o5⟩, ⟨t6, o6⟩, ⟨t7, o7⟩⟩ := und26
  have hin : ∀ x ∈ DataW.weightsEach Try.prog [9, 3, 23, 3, 3, 4, 4, 24] [d0, d1, d2, d3, d4, d5, d6, d7], x ≤ reachBytes := by
    intro x hx
    have hm : x ∈ DataW.weights Try.prog 26 (.agg [d0, d1, d2, d3, d4, d5, d6, d7] : DataW H) := by
      simp only [DataW.weights, hu]
      simpa [t0, t1, t2, t3, t4, t5, t6, t7] using hx
    have := List.all_eq_true.1 h _ (DataW.weights_mem_each ht hd x hm)
    simpa using this
  have hall : (DataW.weightsEach Try.prog [9, 3, 23, 3, 3, 4, 4, 24] [d0, d1, d2, d3, d4, d5, d6, d7]).all (· ≤ reachBytes) = true := List.all_eq_true.2 fun x hx => by simpa using hin x hx
  rcases hc with hc | ⟨elems, spare, rfl, hl⟩
  · rw [hc]
    decide
  · have := sized_slice hall (j := 7) rfl rfl Try.underlying24
    rw [bytes47] at this
    unfold reachBytes at this
    omega
set_option maxRecDepth 100000 in
/-- RECORDS THAT CAME IN -/
theorem open_recs {v : Value} {d : DataW H} {p : List MemPlace} {b0 : Nat} (hv' : Value.okWide Try.prog W .any b0 40 v) (h : DataW.Trod enc Try.prog W base sp hd 40 v d p) :
    ∃ l : List Rv, RsIn W v l ∧ (∀ x ∈ l, Fits W x.r x.v) ∧ (l = [] ∨ ∃ elems spare, d = .slice elems spare ∧ elems.length = l.length) := by
  obtain ⟨a0, len0, cap0, rfl⟩ := okWide_slice Try.underlying40 hv'
  obtain ⟨fuel, hf⟩ := h
  rcases open_slice Try.underlying40 hf with ⟨hcs, _⟩ | ⟨a, len, cap, m, n, D, Pl, hcs, _, hl, hm, hmm, hx, hel⟩
  · simp [Value.cells] at hcs
    obtain ⟨rfl, rfl, rfl⟩ := hcs
    exact ⟨[], ⟨none, 0, rfl, ⟨Nat.le_refl _, by decide⟩, (fun x hx => by cases hx), Or.inl rfl⟩, (fun x hx => by cases hx), Or.inl rfl⟩
  · simp [Value.cells] at hcs
    obtain ⟨rfl, rfl, rfl⟩ := hcs
    have hlen : len0 ≤ m := by rw [hmm]; split <;> omega
    rw [cells26] at hel
    haveI : Inhabited Rv := ⟨⟨rz, .slice none 0 0⟩⟩
    obtain ⟨B, hB⟩ := choose_lt (α := Rv) (p := fun i b => W.cells? base (a.add (i * 39)) 39 = some (rcells b.r b.v) ∧ Fits W b.r b.v) (n := len0) (fun i hi => by
      obtain ⟨cs', h1, h2⟩ := hel i (by omega)
      obtain ⟨r, vc, rfl, hfit, _⟩ := trod_rec h2
      exact ⟨⟨r, vc⟩, h1, hfit⟩)
    unfold maxLen at hm
    have hfit : ∀ x ∈ (List.range len0).map B, Fits W x.r x.v := by
      intro x hx
      obtain ⟨i, hi, rfl⟩ := List.mem_map.1 hx
      exact (hB i (List.mem_range.1 hi)).2
    have hok : AllOk ((List.range len0).map B) := fun x hx => (hfit x hx).rok
    refine ⟨(List.range len0).map B, ⟨some a, cap0, by simp, ⟨by simpa using hl, by simp; omega⟩, hok, ?_⟩, hfit, Or.inr ⟨_, _, congrArg Prod.fst hx, by simp⟩⟩
    by_cases h0 : len0 = 0
    · subst h0
      exact Or.inl (by simp)
    · right
      have hplain : ∃ b off, a = ⟨b, off, none⟩ := by
        have hc0 := (hB 0 (by omega)).1
        obtain ⟨_, _, hc⟩ := World.cells?_some hc0
        have h1 := hc 0 (by decide)
        rw [rc0] at h1
        obtain ⟨ab, ao, sp'⟩ := a
        have hsp : sp' = none := by simpa [Addr.add] using World.cell?_spot h1
        subst hsp
        exact ⟨ab, ao, rfl⟩
      obtain ⟨b, off, rfl⟩ := hplain
      refine ⟨b, off, rfl, fun j hj => ?_⟩
      rw [List.length_map, List.length_range] at hj
      have hi : j / 39 < len0 := by omega
      obtain ⟨hci, hfi⟩ := hB (j / 39) hi
      obtain ⟨_, _, hc⟩ := World.cells?_some hci
      have h1 := hc (j % 39) (by omega)
      rw [add_none, add_none] at h1
      have h2 := rvs_at ((List.range len0).map B) hok (j / 39) (B (j / 39)) (by simp [hi]) (j % 39) (by omega)
      rw [show j / 39 * 39 + j % 39 = j by omega] at h2
      rw [h2, ← h1, show off + j / 39 * 39 + j % 39 = off + j by omega]
theorem reach_recs {ts : List TypeId} {ds : List (DataW H)} (h : (DataW.weightsEach Try.prog ts ds).all (· ≤ reachBytes) = true) {j : Nat} {d : DataW H} {l : List Rv} (ht : ts[j]? = some 40) (hd : ds[j]? = some d)
    (hc : l = [] ∨ ∃ elems spare, d = .slice elems spare ∧ elems.length = l.length) : (l.length + 1) * 104 ≤ 140737488355328 := by
  rcases hc with rfl | ⟨elems, spare, rfl, hl⟩
  · decide
  · have := sized_slice h ht hd Try.underlying40
    rw [bytes26] at this
    unfold reachBytes at this
    omega
set_option maxRecDepth 100000 in
/-- NUMBERS THAT CAME IN -/
theorem open_nums {v : Value} {d : DataW H} {p : List MemPlace} {b0 : Nat} (hv' : Value.okWide Try.prog W .any b0 27 v) (h : DataW.Trod enc Try.prog W base sp hd 27 v d p) : ∃ l : List Int, NsIn W v l := by
  obtain ⟨a0, len0, cap0, rfl⟩ := okWide_slice Try.underlying27 hv'
  obtain ⟨fuel, hf⟩ := h
  rcases open_ints Try.underlying27 Try.underlying3 cells3 hf with ⟨hcs, _⟩ | ⟨x, l, c, zs, hcs, _, hl, hm, hz, hx, hcell, hwz⟩
  · simp [Value.cells] at hcs
    obtain ⟨rfl, rfl, rfl⟩ := hcs
    exact ⟨[], none, 0, rfl, by decide, fun i k hi => by simp at hi⟩
  · simp [Value.cells] at hcs
    obtain ⟨rfl, rfl, rfl⟩ := hcs
    have hlz : len0 ≤ zs.length := by rw [hz]; split <;> omega
    have hlen : (zs.take len0).length = len0 := by simp; omega
    unfold maxLen at hm
    refine ⟨zs.take len0, some x, cap0, by rw [hlen], by rw [hlen]; omega, fun i k hi => ?_⟩
    have hi' : i < len0 := by rw [← hlen]; exact (List.getElem?_eq_some_iff.1 hi).1
    obtain ⟨b, off, rfl, hc⟩ := ints_at hcell (by omega)
    obtain ⟨i5, hi5, hsz⟩ := Option.map_eq_some_iff.1 s3
    refine ⟨b, off + i, fun w' => by simp [Instr.indexAt, asIntOf, run_underlying und49, hi', sizeOf, typeInfo, hi5, hsz, add_none], ?_⟩
    have h1 := hc i (by omega)
    rw [h1]
    rw [List.getElem?_take, if_pos hi'] at hi
    rw [List.getD_eq_getElem?_getD, hi]
    rfl
end
end Go.Proofs.Ytobolkllplmmcab

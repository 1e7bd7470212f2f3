/- Layer 9: arrays held against one another. Layer 9: the head that a sector has. -/
import Derived.Test.YtkpnflgnhhfjoaaDoorZ19
import Derived.Laws.StructEq
namespace Go.Proofs.YtkpnflgnhhfjoaaDoor
open Go.RowKit Go.Maps

theorem heqA {T N : Nat} (hu : Tryd.prog.underlying T = some (.array N 5)) (a b : List Nat) (ha : a.length = N) (hb : b.length = N) (W : World) : (Op.equalIn 10000 T (.agg (bcells a).toArray) (.agg (bcells b).toArray)).run Tryd.prog W = .ok (decide (a = b)) W := by
  obtain ⟨i, hi, hsz⟩ := Option.map_eq_some_iff.1 info5
  have key : ∀ (c : List Nat) (_ : c.length = N) j, j < N → ((part 5 (bcells c).toArray (j * i.size)).run Tryd.prog W = .ok (.int .u8 (c.getD j 0 : Nat)) W) := by
    intro c hc j hj
    have := bcells_at c j (by rw [hc]; exact hj)
    simp [part, isAgg, run_underlying Tryd.underlying5, this, hsz]
  have e : (10000 : Nat) = 9998 + 1 + 1 := rfl
  have hs5 : (sizeOf 5).run Tryd.prog W = .ok i.size W := by simp [sizeOf, typeInfo, hi]
  have hq : ∀ x y : Nat, (Op.equalIn (9998 + 1) 5 (.int .u8 (x : Nat)) (.int .u8 (y : Nat))).run Tryd.prog W = .ok (decide (x = y)) W := fun x y => by
    rw [run_equalIn_int W 9998 5 .u8 .u8 x y Tryd.underlying5]
    by_cases h : x = y
    · subst h; simp
    · have : ¬ (x : Int) = (y : Int) := by omega
      simp only [h, decide_false]
      simp [this]
  have hdec : decide (a = b) = decide (∀ j ∈ List.range' 0 N 1, a.getD j 0 = b.getD j 0) := by
    rw [decide_eq_decide]
    constructor
    · rintro rfl j _; rfl
    · intro h
      refine List.ext_getElem (by rw [ha, hb]) fun j h1 h2 => ?_
      have := h j (List.mem_range'_1.2 ⟨Nat.zero_le _, by rw [ha] at h1; omega⟩)
      simpa [h1, h2] using this
  rw [e, Op.equalIn]
  simp only [Sem.run_bind, run_underlying hu, Result.andThen_ok, hs5, Std.Legacy.Range.forIn_eq_forIn_range']
  have hL : ∀ j ∈ List.range' 0 N 1, j < N := by
    intro j hj
    have := (List.mem_range'_1.1 hj).2
    omega
  rw [hdec]
  clear hdec
  have hz : [:N].size = N := by simp [Std.Legacy.Range.size]
  rw [hz]
  show Result.andThen (Sem.run Tryd.prog (forIn (List.range' 0 N 1) _ _) W) _ = _
  generalize List.range' 0 N 1 = L at hL ⊢
  induction L with
  | nil => simp
  | cons j L ih =>
    have hj := hL j (by simp)
    have hka := key a ha j hj
    have hkb := key b hb j hj
    have ih' := ih (fun x hx => hL x (by simp [hx]))
    simp only [List.forIn_cons, Sem.run_bind, hka, hkb, Result.andThen_ok, hq]
    by_cases h : a.getD j 0 = b.getD j 0
    · simp only [h, decide_true, Bool.not_true, Bool.false_eq_true, if_false, Sem.run_pure, Result.andThen_ok]
      have e2 : decide (∀ x ∈ j :: L, a.getD x 0 = b.getD x 0) = decide (∀ x ∈ L, a.getD x 0 = b.getD x 0) := by
        rw [decide_eq_decide]
        constructor
        · intro hh x hx; exact hh x (List.mem_cons_of_mem _ hx)
        · intro hh x hx
          rcases List.mem_cons.1 hx with rfl | hx
          · exact h
          · exact hh x hx
      rw [e2]
      exact ih'
    · have e2 : decide (∀ x ∈ j :: L, a.getD x 0 = b.getD x 0) = false := by
        rw [decide_eq_false_iff_not]
        intro hh
        exact h (hh j (List.mem_cons_self ..))
      rw [e2]
      simp only [h, decide_false, Bool.not_false, if_true, Sem.run_pure, Result.andThen_ok]

theorem run_eqA {w : World} {a : Act} {o : Oper} {T N : Nat} (hu : Tryd.prog.underlying T = some (.array N 5)) (hm : Tryd.prog.eqGuardType Tryd.prog.depth T = false) (x y : Operand) (ho : o.op = .binOp .eql T x y T) (h h' : List Nat) (hh : h.length = N) (hh' : h'.length = N) (hx : a.eval x = .agg (bcells h).toArray) (hy : a.eval y = .agg (bcells h').toArray) : (execOp a.eval o).run Tryd.prog w = .ok (.value (.bool (decide (h = h')))) w := by
  have he := heqA hu h h' hh hh' w
  simp [execOp, ho, hx, hy, run_eqGuard_agg w .eql T x y _ _ hm, run_eql_struct w T, he]
theorem eqG122 : Tryd.prog.eqGuardType Tryd.prog.depth 122 = false := by kernel_rfl
theorem eqG91 : Tryd.prog.eqGuardType Tryd.prog.depth 91 = false := by kernel_rfl
section
variable {ops : Array Oper} {Q : Exit → Act → World → Prop} {a : Act} {w : World} {listed : Array Bool} {fuel : Nat} {S : World → Prop}
theorem twoH {i j : Nat} (hr : Region.ready .any ops listed = [i, j]) (h : wpOp Tryd.prog ops Q i (fun a' w' => S w' ∧ wpAnyH Tryd.prog .any ops Q S fuel (listed.setIfInBounds i true) a' w') a w) (h' : wpOp Tryd.prog ops Q j (fun a' w' => S w' ∧ wpAnyH Tryd.prog .any ops Q S fuel (listed.setIfInBounds j true) a' w') a w) : wpAnyH Tryd.prog .any ops Q S (fuel + 1) listed a w :=
  wpAnyH_all (rs := [i, j]) hr (by simp) fun k hk => by
    rcases List.mem_cons.1 hk with rfl | hk
    · exact h
    · obtain rfl := List.mem_singleton.1 hk; exact h'
end
theorem run_build78 (w : World) (n : Nat) (r : Int) : (Instr.build 78 #[(0, .int .u64 (n : Nat)), (1, .int .i64 r)]).run Tryd.prog w = .ok (.agg (hdCells ⟨n, r, noneP⟩).toArray) w := by kernel_rfl
theorem run_build78Op {w : World} {a : Act} {o : Oper} (x y : Operand) (ho : o.op = .build 78 #[(0, x), (1, y)]) (n : Nat) (r : Int) (hx : a.eval x = .int .u64 (n : Nat)) (hy : a.eval y = .int .i64 r) : (execOp a.eval o).run Tryd.prog w = .ok (.value (.agg (hdCells ⟨n, r, noneP⟩).toArray)) w := by
  simp only [execOp, ho, List.map_toArray, List.map_cons, List.map_nil, hx, hy, run_build78, Sem.run_bind, Sem.run_pure, Result.andThen_ok]
theorem run_build78z (w : World) : (Instr.build 78 #[]).run Tryd.prog w = .ok (.agg (hdCells ⟨0, 0, noneP⟩).toArray) w := by kernel_rfl
theorem run_build78zOp {w : World} {a : Act} {o : Oper} (ho : o.op = .build 78 #[]) : (execOp a.eval o).run Tryd.prog w = .ok (.value (.agg (hdCells ⟨0, 0, noneP⟩).toArray)) w := by
  simp only [execOp, ho, List.map_toArray, List.map_nil, run_build78z, Sem.run_bind, Sem.run_pure, Result.andThen_ok]
theorem hdCells_splice (n : Nat) (r : Int) (v u : List Nat) (h : v.length = u.length) : splice (hdCells ⟨n, r, v⟩) 2 (bcells u) = hdCells ⟨n, r, u⟩ := by
  simp [splice, hdCells, bcells, h]
  omega
theorem eN78 : EntersF 78 := Go.Proofs.enters_of Tryd.func78 (by kernel_rfl) rfl
theorem eN79 : EntersF 79 := Go.Proofs.enters_of Tryd.func79 (by kernel_rfl) rfl
theorem eN37 : EntersF 37 := Go.Proofs.enters_of Tryd.func37 (by kernel_rfl) rfl
theorem eN76 : EntersF 76 := Go.Proofs.enters_of Tryd.func76 (by kernel_rfl) rfl
theorem eN65 : EntersF 65 := Go.Proofs.enters_of Tryd.func65 (by kernel_rfl) rfl
theorem eN38 : EntersF 38 := Go.Proofs.enters_of Tryd.func38 (by kernel_rfl) rfl
theorem eN66 : EntersF 66 := Go.Proofs.enters_of Tryd.func66 (by kernel_rfl) rfl
theorem eN39 : EntersF 39 := Go.Proofs.enters_of Tryd.func39 (by kernel_rfl) rfl
theorem eN40 : EntersF 40 := Go.Proofs.enters_of Tryd.func40 (by kernel_rfl) rfl
theorem eN69 : EntersF 69 := Go.Proofs.enters_of Tryd.func69 (by kernel_rfl) rfl
theorem eN41 : EntersF 41 := Go.Proofs.enters_of Tryd.func41 (by kernel_rfl) rfl
theorem eN42 : EntersF 42 := Go.Proofs.enters_of Tryd.func42 (by kernel_rfl) rfl
theorem eN54 : EntersF 54 := Go.Proofs.enters_of Tryd.func54 (by kernel_rfl) rfl
theorem eN55 : EntersF 55 := Go.Proofs.enters_of Tryd.func55 (by kernel_rfl) rfl
theorem eN56 : EntersF 56 := Go.Proofs.enters_of Tryd.func56 (by kernel_rfl) rfl
theorem eN70 : EntersF 70 := Go.Proofs.enters_of Tryd.func70 (by kernel_rfl) rfl
theorem eN31 : EntersF 31 := Go.Proofs.enters_of Tryd.func31 (by kernel_rfl) rfl
theorem eN33 : EntersF 33 := Go.Proofs.enters_of Tryd.func33 (by kernel_rfl) rfl
theorem eN34 : EntersF 34 := Go.Proofs.enters_of Tryd.func34 (by kernel_rfl) rfl
theorem eN64 : EntersF 64 := Go.Proofs.enters_of Tryd.func64 (by kernel_rfl) rfl
end Go.Proofs.YtkpnflgnhhfjoaaDoor

namespace Go.Proofs.YtkpnflgnhhfjoaaDoor
open Go.RowKit Go.Maps
open Fr.Frame (be val)

set_option maxHeartbeats 8000000 in
set_option maxRecDepth 100000 in
theorem headOf_any (w : World) (ht : Fr.TabIn w) (s : List Nat) (hs : Sec s) : Calls Tryd.prog 78 #[.agg (bcells s).toArray] w fun e w' => e = .returned (.tuple #[.agg (hdCells (hdOf s)).toArray, .bool (hdOk s)]) ∧ Below w.heap.size w w' := by
  have hwf := hdOf_wf hs.1 hs.2
  obtain ⟨num, hnum⟩ : ∃ num, num = val ((s.drop 4).take 8) := ⟨_, rfl⟩
  obtain ⟨rt, hrt⟩ : ∃ rt, rt = val ((s.drop 2).take 2) := ⟨_, rfl⟩
  obtain ⟨u, hu⟩ : ∃ u, u = (s.drop 12).take 48 := ⟨_, rfl⟩
  obtain ⟨root, hroot⟩ : ∃ root : Int, root = (rt : Int) - 1 := ⟨_, rfl⟩
  obtain ⟨H, hH⟩ : ∃ H, H = hdOf s := ⟨_, rfl⟩
  have HH : Hid (H = ⟨num, root, u⟩) := by show _ = _; rw [hH, hnum, hroot, hrt, hu]; rfl
  obtain ⟨ok, hok⟩ : ∃ ok, ok = hdOk s := ⟨_, rfl⟩
  have HOK : Hid (decide (hdSec H = s) = ok) := by show _ = _; rw [hok, hH]; rfl
  have hrl : rt < 65536 := by
    have h1 := hwf.hi
    have h2 : (hdOf s).root = (rt : Int) - 1 := by rw [hrt]; rfl
    omega
  have hul : u.length = 48 := by rw [hu]; exact hwf.used.1
  have HW : Hid (H.WF) := by show H.WF; rw [hH]; exact hwf
  have HLS : Hid ((hdSec H).length = 64) := hdSec_length HW.out
  have HT : Hid (Fr.TabIn w) := ht
  have HS : Hid (Sec s) := hs
  have HN1 : Hid (num = val ((s.drop 4).take 8)) := hnum
  have HN2 : Hid (rt = val ((s.drop 2).take 2)) := hrt
  have hs64 : s.length = 64 := hs.1
  have HU : Hid (∀ j, j < 48 → (bcells s)[12 + j]? = some (.int .u8 (u.getD j 0 : Nat))) := fun j hj => by
    rw [hu, bat (by omega)]
    simp [List.getD_eq_getElem?_getD, hj]
  have HR : Hid (root = (rt : Int) - 1) := hroot
  obtain ⟨PQ, hPQ⟩ : ∃ PQ : Ending → World → Prop, PQ = fun (e : Ending) (w' : World) => e = .returned (.tuple #[.agg (hdCells H).toArray, .bool ok]) ∧ Below w.heap.size w w' := ⟨_, rfl⟩
  have HPQ : Hid (PQ = fun (e : Ending) (w' : World) => e = .returned (.tuple #[.agg (hdCells H).toArray, .bool ok]) ∧ Below w.heap.size w w') := hPQ
  rw [← hH, ← hok, ← hPQ]
  clear hwf hnum hrt hu hroot hH hok ht hs hPQ
  go_enter Tryd.func78, Tryd.ntmps78
  go_upto_region 0 with fail
  refine wp_region_lit ?_
  refine wpList_box (.tmp 0) rfl rfl (bcells s) rfl ?_
  intro w1 r1 z1 b1
  obtain ⟨q1, hq1⟩ : ∃ q, q = w.heap.size := ⟨_, rfl⟩
  have R1 : Hid (Loc w w1 [(q1, 122, bcells s)]) := by rw [hq1]; exact (Loc.nil (Below.refl _ w)).add r1 (Nat.le_refl _) b1
  rw [← hq1]
  clear r1 b1 hq1 z1
  simp only [Act.put, aS, aC, aZ]
  refine wpList_alloc' (hdCells ⟨0, 0, noneP⟩) zero78 rfl rfl ?_
  intro w2 r2 z2 b2
  obtain ⟨q2, hq2⟩ : ∃ q, q = w1.heap.size := ⟨_, rfl⟩
  have R2 : Hid (Loc w w2 [(q1, 122, bcells s), (q2, 78, hdCells ⟨0, 0, noneP⟩)]) := by rw [hq2]; exact R1.out.add r2 (Nat.le_refl _) b2
  rw [← hq2]
  clear r2 b2 hq2 z2 R1
  simp only [Act.put, aS, aC, aZ]
  refine wl_as (.const (.bool false)) rfl rfl (.bool false) rfl ?_
  simp only [Act.put, aS, aC, aZ]
  refine wpList_nil ?_
  go_upto_region 1 with fail
  refine wp_region_held (S := fun X => Row X q1 122 (bcells s) ∧ Row X q2 78 (hdCells ⟨0, 0, noneP⟩)) (by kernel_rfl) ?_
  show wpAnyH _ _ _ _ _ 9 (Array.replicate 9 false) _ _
  obtain ⟨X, hX⟩ : ∃ X : World, X = { w2 with drawn := w2.drawn + 1 } := ⟨_, rfl⟩
  rw [← hX]
  have hL : Loc w X [(q1, 122, bcells s), (q2, 78, hdCells ⟨0, 0, noneP⟩)] := by rw [hX]; exact R2.out.drew
  clear R2
  clear hX
  refine takeH (i := 0) (some 5) rfl rfl (by kernel_rfl) (by kernel_rfl) (by kernel_rfl) (fun _ _ _ h => h) (gRun rfl (.slice (some ⟨q1, 0 + 4, none⟩) (8) (60)) fun _ h => run_slA arr122 (.tmp 1) (some (.const (.int .i64 4))) (some (.const (.int .i64 12))) rfl q1 (0) 4 12 rfl ⟨(Or.inr rfl), (Or.inr rfl), by omega, by omega, by omega⟩) ⟨hL.at 0 rfl, hL.at 1 rfl⟩ ?_
  simp only [Act.put, aS, aC, aZ]
  refine takeH (i := 2) (some 7) rfl rfl (by kernel_rfl) (by kernel_rfl) (by kernel_rfl) (fun _ _ _ h => h) (gRun rfl (.slice (some ⟨q1, 0 + 2, none⟩) (2) (62)) fun _ h => run_slA arr122 (.tmp 1) (some (.const (.int .i64 2))) (some (.const (.int .i64 4))) rfl q1 (0) 2 4 rfl ⟨(Or.inr rfl), (Or.inr rfl), by omega, by omega, by omega⟩) ⟨hL.at 0 rfl, hL.at 1 rfl⟩ ?_
  simp only [Act.put, aS, aC, aZ]
  refine twoH (i := 1) (j := 7) (by kernel_rfl) ?_ ?_
  · refine opCallG (some 6) rfl rfl rfl 77 _ (run_call eN77 [.tmp 5] _ rfl [(.slice (some ⟨q1, 0 + 4, none⟩) (8) (60))] rfl) ?_
    refine (number_at (off := 4) (k := 8) (cap := 60) (hL.at 0 rfl) HS.out.2 (by omega) (by decide) (by decide)).mono ?_
    rintro e w3 ⟨rfl, e3⟩
    subst e3
    refine ⟨_, rfl, ?_⟩
    rw [← HN1.out]
    refine ⟨⟨hL.at 0 rfl, hL.at 1 rfl⟩, ?_⟩
    simp only [Act.put, aS, aC, aZ]
    refine twoH (i := 3) (j := 7) (by kernel_rfl) ?_ ?_
    · refine opCallG (some 8) rfl rfl rfl 77 _ (run_call eN77 [.tmp 7] _ rfl [(.slice (some ⟨q1, 0 + 2, none⟩) (2) (62))] rfl) ?_
      refine (number_at (off := 2) (k := 2) (cap := 62) (hL.at 0 rfl) HS.out.2 (by omega) (by decide) (by decide)).mono ?_
      rintro e w3 ⟨rfl, e3⟩
      subst e3
      refine ⟨_, rfl, ?_⟩
      rw [← HN2.out]
      refine ⟨⟨hL.at 0 rfl, hL.at 1 rfl⟩, ?_⟩
      simp only [Act.put, aS, aC, aZ]
      refine takeH (i := 4) (some 9) rfl rfl (by kernel_rfl) (by kernel_rfl) (by kernel_rfl) (fun _ _ _ h => h) (gRun rfl (.int .i64 (rt : Nat)) fun _ h => run_u64i64 (.tmp 8) rfl rt (by omega) rfl) ⟨hL.at 0 rfl, hL.at 1 rfl⟩ ?_
      simp only [Act.put, aS, aC, aZ]
      refine takeH (i := 5) (some 10) rfl rfl (by kernel_rfl) (by kernel_rfl) (by kernel_rfl) (fun _ _ _ h => h) (gRun rfl (.int .i64 root) fun _ h => run_addI (.tmp 9) (.const (.int .i64 (-1))) rfl (rt : Nat) (-1) root (by have := HR.out; omega) (by have := HR.out; omega) (by have := HR.out; omega) rfl rfl) ⟨hL.at 0 rfl, hL.at 1 rfl⟩ ?_
      simp only [Act.put, aS, aC, aZ]
      refine takeH (i := 6) (some 11) rfl rfl (by kernel_rfl) (by kernel_rfl) (by kernel_rfl) (fun _ _ _ h => h) (gRun rfl (.agg (hdCells ⟨num, root, noneP⟩).toArray) fun _ h => run_build78Op (.tmp 6) (.tmp 10) rfl num root rfl rfl) ⟨hL.at 0 rfl, hL.at 1 rfl⟩ ?_
      simp only [Act.put, aS, aC, aZ]
      refine oneH (i := 7) (by kernel_rfl) ?_
      refine opValueG (some 4) rfl rfl rfl (ptr X.heap.size) _ (run_allocA (hdCells ⟨0, 0, noneP⟩) zero78 rfl) ?_
      have k4 := hL.box 78 (hdCells ⟨0, 0, noneP⟩)
      obtain ⟨w4, hw4⟩ : ∃ w4, w4 = X.alloc (.cells (hdCells ⟨0, 0, noneP⟩).toArray 78) := ⟨_, rfl⟩
      obtain ⟨q4, hq4⟩ : ∃ q4, q4 = X.heap.size := ⟨_, rfl⟩
      rw [← hw4, ← hq4] at k4
      rw [← hw4, ← hq4]
      clear hL hw4 hq4
      have hL : Loc w w4 [(q1, 122, bcells s), (q2, 78, hdCells ⟨0, 0, noneP⟩), (q4, 78, hdCells ⟨0, 0, noneP⟩)] := k4
      clear k4
      refine ⟨⟨hL.at 0 rfl, hL.at 1 rfl⟩, ?_⟩
      simp only [Act.put, aS, aC, aZ]
      refine oneH (i := 8) (by kernel_rfl) ?_
      refine opSkipZ rfl rfl rfl _ (run_storeL ag78 (.tmp 4) (.tmp 11) rfl hL 2 rfl 0 rfl (hdCells ⟨num, root, noneP⟩) rfl (hdCells_length uset_none) (by rw [hdCells_length uset_none, hdCells_length uset_none]; decide) (hdCells_one _)).1 ?_
      have k5 := hL.lay 2 rfl 0 (hdCells ⟨num, root, noneP⟩)
      rw [splice_all _ _ (by rw [hdCells_length uset_none, hdCells_length uset_none])] at k5 ⊢
      obtain ⟨w5, hw5⟩ : ∃ w5, w5 = w4.setRow q4 (hdCells ⟨num, root, noneP⟩).toArray := ⟨_, rfl⟩
      rw [← hw5] at k5 ⊢
      clear hL hw5
      have hL : Loc w w5 [(q1, 122, bcells s), (q2, 78, hdCells ⟨0, 0, noneP⟩), (q4, 78, hdCells ⟨num, root, noneP⟩)] := k5
      clear k5
      refine ⟨⟨hL.at 0 rfl, hL.at 1 rfl⟩, ?_⟩
      refine wpAnyH_done (by kernel_rfl) ?_ _
      have R5 : Hid (Loc w w5 [(q1, 122, bcells s), (q2, 78, hdCells ⟨0, 0, noneP⟩), (q4, 78, hdCells ⟨num, root, noneP⟩)]) := hL
      clear hL
      go_upto_region 2 with fail
      refine wp_region_until (S := fun X => Loc w X [(q1, 122, bcells s), (q2, 78, hdCells ⟨0, 0, noneP⟩), (q4, 78, hdCells ⟨num, root, noneP⟩)]) 3 (by kernel_rfl) ?_
      show wpAnyU _ _ _ _ _ _ 4 (Array.replicate 4 false) _ _
      obtain ⟨Y, hX⟩ : ∃ Y : World, Y = { w5 with drawn := w5.drawn + 1 } := ⟨_, rfl⟩
      rw [← hX]
      have hL : Loc w Y [(q1, 122, bcells s), (q2, 78, hdCells ⟨0, 0, noneP⟩), (q4, 78, hdCells ⟨num, root, noneP⟩)] := by rw [hX]; exact R5.out.drew
      clear R5
      clear hX
      refine takeV (i := 0) [1, 3] (some 12) rfl rfl (by kernel_rfl) (by kernel_rfl) (by kernel_rfl) (by kernel_rfl) (fun _ _ _ h => h) (gRun rfl (.pointer (some ⟨q4, 0 + 2, none⟩)) fun _ h => run_fieldOp' f78_2 (.tmp 4) rfl q4 (0) rfl) hL ?_
      simp only [Act.put, aS, aC, aZ]
      refine takeV (i := 1) [3] (some 13) rfl rfl (by kernel_rfl) (by kernel_rfl) (by kernel_rfl) (by kernel_rfl) (fun _ _ _ h => h) (gRun rfl (.slice (some ⟨q4, 0 + 2 + 0, none⟩) 48 48) fun _ h => run_slA arr76 (.tmp 12) none none rfl q4 (0 + 2) 0 48 rfl ⟨(Or.inl ⟨rfl, rfl⟩), (Or.inl ⟨rfl, rfl⟩), by omega, by omega, by omega⟩) hL ?_
      simp only [Act.put, aS, aC, aZ]
      refine takeV (i := 2) [3] (some 14) rfl rfl (by kernel_rfl) (by kernel_rfl) (by kernel_rfl) (by kernel_rfl) (fun _ _ _ h => h) (gRun rfl (.slice (some ⟨q1, 0 + 12, none⟩) (48) (52)) fun _ h => run_slA arr122 (.tmp 1) (some (.const (.int .i64 12))) (some (.const (.int .i64 60))) rfl q1 (0) 12 60 rfl ⟨(Or.inr rfl), (Or.inr rfl), by omega, by omega, by omega⟩) hL ?_
      simp only [Act.put, aS, aC, aZ]
      refine oneU (i := 3) (by kernel_rfl) ?_
      refine opValueG (some 15) rfl rfl rfl (.int .i64 (48 : Nat)) _ (run_copyL (.tmp 13) (.tmp 14) rfl hL 2 rfl 2 48 48 q1 12 48 52 48 rfl rfl u hul rfl (fun j hj => rows_at hL 0 rfl (12 + j) _ (HU.out j (by omega))) (by rw [hdCells_length uset_none]; decide)).1 ?_
      have k6 := hL.lay 2 rfl 2 (bcells u)
      rw [hdCells_splice _ _ _ _ (by rw [hul]; exact uset_none.1), ← HH.out] at k6
      rw [hdCells_splice _ _ _ _ (by rw [hul]; exact uset_none.1), ← HH.out]
      obtain ⟨w6, hw6⟩ : ∃ w6, w6 = Y.setRow q4 (hdCells H).toArray := ⟨_, rfl⟩
      rw [← hw6] at k6 ⊢
      clear hL hw6
      have R6 : Hid (Loc w w6 [(q1, 122, bcells s), (q2, 78, hdCells ⟨0, 0, noneP⟩), (q4, 78, hdCells H)]) := k6
      clear k6
      refine ⟨fun h => absurd (show true = false from h) (by decide), ?_⟩
      simp only [Act.put, aS, aC, aZ]
      refine wpAnyU_done (by kernel_rfl) ?_ _
      go_upto_region 3 with fail
      refine wp_region_held (S := fun X => Row X q1 122 (bcells s) ∧ Row X q4 78 (hdCells H)) (by kernel_rfl) ?_
      show wpAnyH _ _ _ _ _ 7 (Array.replicate 7 false) _ _
      obtain ⟨Z, hX⟩ : ∃ Z : World, Z = { w6 with drawn := w6.drawn + 1 } := ⟨_, rfl⟩
      rw [← hX]
      have hL : Loc w Z [(q1, 122, bcells s), (q2, 78, hdCells ⟨0, 0, noneP⟩), (q4, 78, hdCells H)] := by rw [hX]; exact R6.out.drew
      clear R6
      clear hX
      refine takeH (i := 0) (some 16) rfl rfl (by kernel_rfl) (by kernel_rfl) (by kernel_rfl) (fun _ _ _ h => h) (gRun rfl (.agg (hdCells H).toArray) fun _ h => run_loadA ag78 (.tmp 4) rfl q4 (0) rfl (hdCells H) (hdCells_length HW.out.used) (fun j v hv => by rw [Nat.zero_add]; exact h.2.at j v hv)) ⟨hL.at 0 rfl, hL.at 2 rfl⟩ ?_
      simp only [Act.put, aS, aC, aZ]
      refine takeH (i := 1) (some 17) rfl rfl (by kernel_rfl) (by kernel_rfl) (by kernel_rfl) (fun _ _ _ h => h) (gRun rfl (.agg (hdCells H).toArray) fun _ h => run_loadA ag78 (.tmp 4) rfl q4 (0) rfl (hdCells H) (hdCells_length HW.out.used) (fun j v hv => by rw [Nat.zero_add]; exact h.2.at j v hv)) ⟨hL.at 0 rfl, hL.at 2 rfl⟩ ?_
      simp only [Act.put, aS, aC, aZ]
      refine takeH (i := 3) (some 19) rfl rfl (by kernel_rfl) (by kernel_rfl) (by kernel_rfl) (fun _ _ _ h => h) (gRun rfl (.agg (bcells s).toArray) fun _ h => run_loadA ag122 (.tmp 1) rfl q1 (0) rfl (bcells s) (by rw [bcells_length]; exact HS.out.1) (fun j v hv => by rw [Nat.zero_add]; exact h.1.at j v hv)) ⟨hL.at 0 rfl, hL.at 2 rfl⟩ ?_
      simp only [Act.put, aS, aC, aZ]
      refine oneH (i := 2) (by kernel_rfl) ?_
      refine opCallG (some 18) rfl rfl rfl 68 _ (run_call eN68 [.tmp 17] _ rfl [(.agg (hdCells H).toArray)] rfl) ?_
      refine (sector_any _ (Fr.TabIn.later hL.below HT.out) H HW.out).mono ?_
      rintro e w7 ⟨rfl, b7⟩
      refine ⟨_, rfl, ?_⟩
      have k7 := hL.later b7
      clear hL b7
      have hL : Loc w w7 [(q1, 122, bcells s), (q2, 78, hdCells ⟨0, 0, noneP⟩), (q4, 78, hdCells H)] := k7
      clear k7
      refine ⟨⟨hL.at 0 rfl, hL.at 2 rfl⟩, ?_⟩
      simp only [Act.put, aS, aC, aZ]
      refine takeH (i := 4) (some 20) rfl rfl (by kernel_rfl) (by kernel_rfl) (by kernel_rfl) (fun _ _ _ h => h) (gRun rfl (.bool ok) fun _ h => (run_eqA arr122 eqG122 (.tmp 18) (.tmp 19) rfl (hdSec H) s HLS.out hs64 rfl rfl).trans (by rw [HOK.out])) ⟨hL.at 0 rfl, hL.at 2 rfl⟩ ?_
      simp only [Act.put, aS, aC, aZ]
      refine oneH (i := 5) (by kernel_rfl) ?_
      refine opSkipZ rfl rfl rfl _ (run_storeL ag78 (.tmp 2) (.tmp 16) rfl hL 1 rfl 0 rfl (hdCells H) rfl (hdCells_length HW.out.used) (by rw [hdCells_length HW.out.used, hdCells_length (h := ⟨0, 0, noneP⟩) uset_none]; decide) (hdCells_one _)).1 ?_
      have k8 := hL.lay 1 rfl 0 (hdCells H)
      rw [splice_all _ _ (by rw [hdCells_length HW.out.used, hdCells_length (h := ⟨0, 0, noneP⟩) uset_none])] at k8 ⊢
      obtain ⟨w8, hw8⟩ : ∃ w8, w8 = w7.setRow q2 (hdCells H).toArray := ⟨_, rfl⟩
      rw [← hw8] at k8 ⊢
      clear hL hw8
      have hL : Loc w w8 [(q1, 122, bcells s), (q2, 78, hdCells H), (q4, 78, hdCells H)] := k8
      clear k8
      refine ⟨⟨hL.at 0 rfl, hL.at 2 rfl⟩, ?_⟩
      refine takeH (i := 6) (some 3) rfl rfl (by kernel_rfl) (by kernel_rfl) (by kernel_rfl) (fun _ _ _ h => h) (gRun rfl (.bool ok) fun _ h => run_asZ (.tmp 20) rfl (.bool ok) rfl) ⟨hL.at 0 rfl, hL.at 2 rfl⟩ ?_
      simp only [Act.put, aS, aC, aZ]
      refine wpAnyH_done (by kernel_rfl) ?_ _
      have R9 : Hid (Loc w w8 [(q1, 122, bcells s), (q2, 78, hdCells H), (q4, 78, hdCells H)]) := hL
      clear hL
      go_wp2_with fail
      rw [HPQ.out]
      exact bodyPost_ret (results_cell_tmp ag78 Tryd.results78 _ _ q2 78 rfl (hdCells H) (hdCells_length HW.out.used) (R9.out.at 1 rfl)) rfl ⟨rfl, R9.out.below⟩
    · refine opValueG (some 4) rfl rfl rfl (ptr X.heap.size) _ (run_allocA (hdCells ⟨0, 0, noneP⟩) zero78 rfl) ?_
      have k4 := hL.box 78 (hdCells ⟨0, 0, noneP⟩)
      obtain ⟨w4, hw4⟩ : ∃ w4, w4 = X.alloc (.cells (hdCells ⟨0, 0, noneP⟩).toArray 78) := ⟨_, rfl⟩
      obtain ⟨q4, hq4⟩ : ∃ q4, q4 = X.heap.size := ⟨_, rfl⟩
      rw [← hw4, ← hq4] at k4
      rw [← hw4, ← hq4]
      clear hL hw4 hq4
      have hL : Loc w w4 [(q1, 122, bcells s), (q2, 78, hdCells ⟨0, 0, noneP⟩), (q4, 78, hdCells ⟨0, 0, noneP⟩)] := k4
      clear k4
      refine ⟨⟨hL.at 0 rfl, hL.at 1 rfl⟩, ?_⟩
      simp only [Act.put, aS, aC, aZ]
      refine oneH (i := 3) (by kernel_rfl) ?_
      refine opCallG (some 8) rfl rfl rfl 77 _ (run_call eN77 [.tmp 7] _ rfl [(.slice (some ⟨q1, 0 + 2, none⟩) (2) (62))] rfl) ?_
      refine (number_at (off := 2) (k := 2) (cap := 62) (hL.at 0 rfl) HS.out.2 (by omega) (by decide) (by decide)).mono ?_
      rintro e w3 ⟨rfl, e3⟩
      subst e3
      refine ⟨_, rfl, ?_⟩
      rw [← HN2.out]
      refine ⟨⟨hL.at 0 rfl, hL.at 1 rfl⟩, ?_⟩
      simp only [Act.put, aS, aC, aZ]
      refine takeH (i := 4) (some 9) rfl rfl (by kernel_rfl) (by kernel_rfl) (by kernel_rfl) (fun _ _ _ h => h) (gRun rfl (.int .i64 (rt : Nat)) fun _ h => run_u64i64 (.tmp 8) rfl rt (by omega) rfl) ⟨hL.at 0 rfl, hL.at 1 rfl⟩ ?_
      simp only [Act.put, aS, aC, aZ]
      refine takeH (i := 5) (some 10) rfl rfl (by kernel_rfl) (by kernel_rfl) (by kernel_rfl) (fun _ _ _ h => h) (gRun rfl (.int .i64 root) fun _ h => run_addI (.tmp 9) (.const (.int .i64 (-1))) rfl (rt : Nat) (-1) root (by have := HR.out; omega) (by have := HR.out; omega) (by have := HR.out; omega) rfl rfl) ⟨hL.at 0 rfl, hL.at 1 rfl⟩ ?_
      simp only [Act.put, aS, aC, aZ]
      refine takeH (i := 6) (some 11) rfl rfl (by kernel_rfl) (by kernel_rfl) (by kernel_rfl) (fun _ _ _ h => h) (gRun rfl (.agg (hdCells ⟨num, root, noneP⟩).toArray) fun _ h => run_build78Op (.tmp 6) (.tmp 10) rfl num root rfl rfl) ⟨hL.at 0 rfl, hL.at 1 rfl⟩ ?_
      simp only [Act.put, aS, aC, aZ]
      refine oneH (i := 8) (by kernel_rfl) ?_
      refine opSkipZ rfl rfl rfl _ (run_storeL ag78 (.tmp 4) (.tmp 11) rfl hL 2 rfl 0 rfl (hdCells ⟨num, root, noneP⟩) rfl (hdCells_length uset_none) (by rw [hdCells_length uset_none, hdCells_length uset_none]; decide) (hdCells_one _)).1 ?_
      have k5 := hL.lay 2 rfl 0 (hdCells ⟨num, root, noneP⟩)
      rw [splice_all _ _ (by rw [hdCells_length uset_none, hdCells_length uset_none])] at k5 ⊢
      obtain ⟨w5, hw5⟩ : ∃ w5, w5 = w4.setRow q4 (hdCells ⟨num, root, noneP⟩).toArray := ⟨_, rfl⟩
      rw [← hw5] at k5 ⊢
      clear hL hw5
      have hL : Loc w w5 [(q1, 122, bcells s), (q2, 78, hdCells ⟨0, 0, noneP⟩), (q4, 78, hdCells ⟨num, root, noneP⟩)] := k5
      clear k5
      refine ⟨⟨hL.at 0 rfl, hL.at 1 rfl⟩, ?_⟩
      refine wpAnyH_done (by kernel_rfl) ?_ _
      have R5 : Hid (Loc w w5 [(q1, 122, bcells s), (q2, 78, hdCells ⟨0, 0, noneP⟩), (q4, 78, hdCells ⟨num, root, noneP⟩)]) := hL
      clear hL
      go_upto_region 2 with fail
      refine wp_region_until (S := fun X => Loc w X [(q1, 122, bcells s), (q2, 78, hdCells ⟨0, 0, noneP⟩), (q4, 78, hdCells ⟨num, root, noneP⟩)]) 3 (by kernel_rfl) ?_
      show wpAnyU _ _ _ _ _ _ 4 (Array.replicate 4 false) _ _
      obtain ⟨Y, hX⟩ : ∃ Y : World, Y = { w5 with drawn := w5.drawn + 1 } := ⟨_, rfl⟩
      rw [← hX]
      have hL : Loc w Y [(q1, 122, bcells s), (q2, 78, hdCells ⟨0, 0, noneP⟩), (q4, 78, hdCells ⟨num, root, noneP⟩)] := by rw [hX]; exact R5.out.drew
      clear R5
      clear hX
      refine takeV (i := 0) [1, 3] (some 12) rfl rfl (by kernel_rfl) (by kernel_rfl) (by kernel_rfl) (by kernel_rfl) (fun _ _ _ h => h) (gRun rfl (.pointer (some ⟨q4, 0 + 2, none⟩)) fun _ h => run_fieldOp' f78_2 (.tmp 4) rfl q4 (0) rfl) hL ?_
      simp only [Act.put, aS, aC, aZ]
      refine takeV (i := 1) [3] (some 13) rfl rfl (by kernel_rfl) (by kernel_rfl) (by kernel_rfl) (by kernel_rfl) (fun _ _ _ h => h) (gRun rfl (.slice (some ⟨q4, 0 + 2 + 0, none⟩) 48 48) fun _ h => run_slA arr76 (.tmp 12) none none rfl q4 (0 + 2) 0 48 rfl ⟨(Or.inl ⟨rfl, rfl⟩), (Or.inl ⟨rfl, rfl⟩), by omega, by omega, by omega⟩) hL ?_
      simp only [Act.put, aS, aC, aZ]
      refine takeV (i := 2) [3] (some 14) rfl rfl (by kernel_rfl) (by kernel_rfl) (by kernel_rfl) (by kernel_rfl) (fun _ _ _ h => h) (gRun rfl (.slice (some ⟨q1, 0 + 12, none⟩) (48) (52)) fun _ h => run_slA arr122 (.tmp 1) (some (.const (.int .i64 12))) (some (.const (.int .i64 60))) rfl q1 (0) 12 60 rfl ⟨(Or.inr rfl), (Or.inr rfl), by omega, by omega, by omega⟩) hL ?_
      simp only [Act.put, aS, aC, aZ]
      refine oneU (i := 3) (by kernel_rfl) ?_
      refine opValueG (some 15) rfl rfl rfl (.int .i64 (48 : Nat)) _ (run_copyL (.tmp 13) (.tmp 14) rfl hL 2 rfl 2 48 48 q1 12 48 52 48 rfl rfl u hul rfl (fun j hj => rows_at hL 0 rfl (12 + j) _ (HU.out j (by omega))) (by rw [hdCells_length uset_none]; decide)).1 ?_
      have k6 := hL.lay 2 rfl 2 (bcells u)
      rw [hdCells_splice _ _ _ _ (by rw [hul]; exact uset_none.1), ← HH.out] at k6
      rw [hdCells_splice _ _ _ _ (by rw [hul]; exact uset_none.1), ← HH.out]
      obtain ⟨w6, hw6⟩ : ∃ w6, w6 = Y.setRow q4 (hdCells H).toArray := ⟨_, rfl⟩
      rw [← hw6] at k6 ⊢
      clear hL hw6
      have R6 : Hid (Loc w w6 [(q1, 122, bcells s), (q2, 78, hdCells ⟨0, 0, noneP⟩), (q4, 78, hdCells H)]) := k6
      clear k6
      refine ⟨fun h => absurd (show true = false from h) (by decide), ?_⟩
      simp only [Act.put, aS, aC, aZ]
      refine wpAnyU_done (by kernel_rfl) ?_ _
      go_upto_region 3 with fail
      refine wp_region_held (S := fun X => Row X q1 122 (bcells s) ∧ Row X q4 78 (hdCells H)) (by kernel_rfl) ?_
      show wpAnyH _ _ _ _ _ 7 (Array.replicate 7 false) _ _
      obtain ⟨Z, hX⟩ : ∃ Z : World, Z = { w6 with drawn := w6.drawn + 1 } := ⟨_, rfl⟩
      rw [← hX]
      have hL : Loc w Z [(q1, 122, bcells s), (q2, 78, hdCells ⟨0, 0, noneP⟩), (q4, 78, hdCells H)] := by rw [hX]; exact R6.out.drew
      clear R6
      clear hX
      refine takeH (i := 0) (some 16) rfl rfl (by kernel_rfl) (by kernel_rfl) (by kernel_rfl) (fun _ _ _ h => h) (gRun rfl (.agg (hdCells H).toArray) fun _ h => run_loadA ag78 (.tmp 4) rfl q4 (0) rfl (hdCells H) (hdCells_length HW.out.used) (fun j v hv => by rw [Nat.zero_add]; exact h.2.at j v hv)) ⟨hL.at 0 rfl, hL.at 2 rfl⟩ ?_
      simp only [Act.put, aS, aC, aZ]
      refine takeH (i := 1) (some 17) rfl rfl (by kernel_rfl) (by kernel_rfl) (by kernel_rfl) (fun _ _ _ h => h) (gRun rfl (.agg (hdCells H).toArray) fun _ h => run_loadA ag78 (.tmp 4) rfl q4 (0) rfl (hdCells H) (hdCells_length HW.out.used) (fun j v hv => by rw [Nat.zero_add]; exact h.2.at j v hv)) ⟨hL.at 0 rfl, hL.at 2 rfl⟩ ?_
      simp only [Act.put, aS, aC, aZ]
      refine takeH (i := 3) (some 19) rfl rfl (by kernel_rfl) (by kernel_rfl) (by kernel_rfl) (fun _ _ _ h => h) (gRun rfl (.agg (bcells s).toArray) fun _ h => run_loadA ag122 (.tmp 1) rfl q1 (0) rfl (bcells s) (by rw [bcells_length]; exact HS.out.1) (fun j v hv => by rw [Nat.zero_add]; exact h.1.at j v hv)) ⟨hL.at 0 rfl, hL.at 2 rfl⟩ ?_
      simp only [Act.put, aS, aC, aZ]
      refine oneH (i := 2) (by kernel_rfl) ?_
      refine opCallG (some 18) rfl rfl rfl 68 _ (run_call eN68 [.tmp 17] _ rfl [(.agg (hdCells H).toArray)] rfl) ?_
      refine (sector_any _ (Fr.TabIn.later hL.below HT.out) H HW.out).mono ?_
      rintro e w7 ⟨rfl, b7⟩
      refine ⟨_, rfl, ?_⟩
      have k7 := hL.later b7
      clear hL b7
      have hL : Loc w w7 [(q1, 122, bcells s), (q2, 78, hdCells ⟨0, 0, noneP⟩), (q4, 78, hdCells H)] := k7
      clear k7
      refine ⟨⟨hL.at 0 rfl, hL.at 2 rfl⟩, ?_⟩
      simp only [Act.put, aS, aC, aZ]
      refine takeH (i := 4) (some 20) rfl rfl (by kernel_rfl) (by kernel_rfl) (by kernel_rfl) (fun _ _ _ h => h) (gRun rfl (.bool ok) fun _ h => (run_eqA arr122 eqG122 (.tmp 18) (.tmp 19) rfl (hdSec H) s HLS.out hs64 rfl rfl).trans (by rw [HOK.out])) ⟨hL.at 0 rfl, hL.at 2 rfl⟩ ?_
      simp only [Act.put, aS, aC, aZ]
      refine oneH (i := 5) (by kernel_rfl) ?_
      refine opSkipZ rfl rfl rfl _ (run_storeL ag78 (.tmp 2) (.tmp 16) rfl hL 1 rfl 0 rfl (hdCells H) rfl (hdCells_length HW.out.used) (by rw [hdCells_length HW.out.used, hdCells_length (h := ⟨0, 0, noneP⟩) uset_none]; decide) (hdCells_one _)).1 ?_
      have k8 := hL.lay 1 rfl 0 (hdCells H)
      rw [splice_all _ _ (by rw [hdCells_length HW.out.used, hdCells_length (h := ⟨0, 0, noneP⟩) uset_none])] at k8 ⊢
      obtain ⟨w8, hw8⟩ : ∃ w8, w8 = w7.setRow q2 (hdCells H).toArray := ⟨_, rfl⟩
      rw [← hw8] at k8 ⊢
      clear hL hw8
      have hL : Loc w w8 [(q1, 122, bcells s), (q2, 78, hdCells H), (q4, 78, hdCells H)] := k8
      clear k8
      refine ⟨⟨hL.at 0 rfl, hL.at 2 rfl⟩, ?_⟩
      refine takeH (i := 6) (some 3) rfl rfl (by kernel_rfl) (by kernel_rfl) (by kernel_rfl) (fun _ _ _ h => h) (gRun rfl (.bool ok) fun _ h => run_asZ (.tmp 20) rfl (.bool ok) rfl) ⟨hL.at 0 rfl, hL.at 2 rfl⟩ ?_
      simp only [Act.put, aS, aC, aZ]
      refine wpAnyH_done (by kernel_rfl) ?_ _
      have R9 : Hid (Loc w w8 [(q1, 122, bcells s), (q2, 78, hdCells H), (q4, 78, hdCells H)]) := hL
      clear hL
      go_wp2_with fail
      rw [HPQ.out]
      exact bodyPost_ret (results_cell_tmp ag78 Tryd.results78 _ _ q2 78 rfl (hdCells H) (hdCells_length HW.out.used) (R9.out.at 1 rfl)) rfl ⟨rfl, R9.out.below⟩
  · refine opValueG (some 4) rfl rfl rfl (ptr X.heap.size) _ (run_allocA (hdCells ⟨0, 0, noneP⟩) zero78 rfl) ?_
    have k4 := hL.box 78 (hdCells ⟨0, 0, noneP⟩)
    obtain ⟨w4, hw4⟩ : ∃ w4, w4 = X.alloc (.cells (hdCells ⟨0, 0, noneP⟩).toArray 78) := ⟨_, rfl⟩
    obtain ⟨q4, hq4⟩ : ∃ q4, q4 = X.heap.size := ⟨_, rfl⟩
    rw [← hw4, ← hq4] at k4
    rw [← hw4, ← hq4]
    clear hL hw4 hq4
    have hL : Loc w w4 [(q1, 122, bcells s), (q2, 78, hdCells ⟨0, 0, noneP⟩), (q4, 78, hdCells ⟨0, 0, noneP⟩)] := k4
    clear k4
    refine ⟨⟨hL.at 0 rfl, hL.at 1 rfl⟩, ?_⟩
    simp only [Act.put, aS, aC, aZ]
    refine oneH (i := 1) (by kernel_rfl) ?_
    refine opCallG (some 6) rfl rfl rfl 77 _ (run_call eN77 [.tmp 5] _ rfl [(.slice (some ⟨q1, 0 + 4, none⟩) (8) (60))] rfl) ?_
    refine (number_at (off := 4) (k := 8) (cap := 60) (hL.at 0 rfl) HS.out.2 (by omega) (by decide) (by decide)).mono ?_
    rintro e w3 ⟨rfl, e3⟩
    subst e3
    refine ⟨_, rfl, ?_⟩
    rw [← HN1.out]
    refine ⟨⟨hL.at 0 rfl, hL.at 1 rfl⟩, ?_⟩
    simp only [Act.put, aS, aC, aZ]
    refine oneH (i := 3) (by kernel_rfl) ?_
    refine opCallG (some 8) rfl rfl rfl 77 _ (run_call eN77 [.tmp 7] _ rfl [(.slice (some ⟨q1, 0 + 2, none⟩) (2) (62))] rfl) ?_
    refine (number_at (off := 2) (k := 2) (cap := 62) (hL.at 0 rfl) HS.out.2 (by omega) (by decide) (by decide)).mono ?_
    rintro e w3 ⟨rfl, e3⟩
    subst e3
    refine ⟨_, rfl, ?_⟩
    rw [← HN2.out]
    refine ⟨⟨hL.at 0 rfl, hL.at 1 rfl⟩, ?_⟩
    simp only [Act.put, aS, aC, aZ]
    refine takeH (i := 4) (some 9) rfl rfl (by kernel_rfl) (by kernel_rfl) (by kernel_rfl) (fun _ _ _ h => h) (gRun rfl (.int .i64 (rt : Nat)) fun _ h => run_u64i64 (.tmp 8) rfl rt (by omega) rfl) ⟨hL.at 0 rfl, hL.at 1 rfl⟩ ?_
    simp only [Act.put, aS, aC, aZ]
    refine takeH (i := 5) (some 10) rfl rfl (by kernel_rfl) (by kernel_rfl) (by kernel_rfl) (fun _ _ _ h => h) (gRun rfl (.int .i64 root) fun _ h => run_addI (.tmp 9) (.const (.int .i64 (-1))) rfl (rt : Nat) (-1) root (by have := HR.out; omega) (by have := HR.out; omega) (by have := HR.out; omega) rfl rfl) ⟨hL.at 0 rfl, hL.at 1 rfl⟩ ?_
    simp only [Act.put, aS, aC, aZ]
    refine takeH (i := 6) (some 11) rfl rfl (by kernel_rfl) (by kernel_rfl) (by kernel_rfl) (fun _ _ _ h => h) (gRun rfl (.agg (hdCells ⟨num, root, noneP⟩).toArray) fun _ h => run_build78Op (.tmp 6) (.tmp 10) rfl num root rfl rfl) ⟨hL.at 0 rfl, hL.at 1 rfl⟩ ?_
    simp only [Act.put, aS, aC, aZ]
    refine oneH (i := 8) (by kernel_rfl) ?_
    refine opSkipZ rfl rfl rfl _ (run_storeL ag78 (.tmp 4) (.tmp 11) rfl hL 2 rfl 0 rfl (hdCells ⟨num, root, noneP⟩) rfl (hdCells_length uset_none) (by rw [hdCells_length uset_none, hdCells_length uset_none]; decide) (hdCells_one _)).1 ?_
    have k5 := hL.lay 2 rfl 0 (hdCells ⟨num, root, noneP⟩)
    rw [splice_all _ _ (by rw [hdCells_length uset_none, hdCells_length uset_none])] at k5 ⊢
    obtain ⟨w5, hw5⟩ : ∃ w5, w5 = w4.setRow q4 (hdCells ⟨num, root, noneP⟩).toArray := ⟨_, rfl⟩
    rw [← hw5] at k5 ⊢
    clear hL hw5
    have hL : Loc w w5 [(q1, 122, bcells s), (q2, 78, hdCells ⟨0, 0, noneP⟩), (q4, 78, hdCells ⟨num, root, noneP⟩)] := k5
    clear k5
    refine ⟨⟨hL.at 0 rfl, hL.at 1 rfl⟩, ?_⟩
    refine wpAnyH_done (by kernel_rfl) ?_ _
    have R5 : Hid (Loc w w5 [(q1, 122, bcells s), (q2, 78, hdCells ⟨0, 0, noneP⟩), (q4, 78, hdCells ⟨num, root, noneP⟩)]) := hL
    clear hL
    go_upto_region 2 with fail
    refine wp_region_until (S := fun X => Loc w X [(q1, 122, bcells s), (q2, 78, hdCells ⟨0, 0, noneP⟩), (q4, 78, hdCells ⟨num, root, noneP⟩)]) 3 (by kernel_rfl) ?_
    show wpAnyU _ _ _ _ _ _ 4 (Array.replicate 4 false) _ _
    obtain ⟨Y, hX⟩ : ∃ Y : World, Y = { w5 with drawn := w5.drawn + 1 } := ⟨_, rfl⟩
    rw [← hX]
    have hL : Loc w Y [(q1, 122, bcells s), (q2, 78, hdCells ⟨0, 0, noneP⟩), (q4, 78, hdCells ⟨num, root, noneP⟩)] := by rw [hX]; exact R5.out.drew
    clear R5
    clear hX
    refine takeV (i := 0) [1, 3] (some 12) rfl rfl (by kernel_rfl) (by kernel_rfl) (by kernel_rfl) (by kernel_rfl) (fun _ _ _ h => h) (gRun rfl (.pointer (some ⟨q4, 0 + 2, none⟩)) fun _ h => run_fieldOp' f78_2 (.tmp 4) rfl q4 (0) rfl) hL ?_
    simp only [Act.put, aS, aC, aZ]
    refine takeV (i := 1) [3] (some 13) rfl rfl (by kernel_rfl) (by kernel_rfl) (by kernel_rfl) (by kernel_rfl) (fun _ _ _ h => h) (gRun rfl (.slice (some ⟨q4, 0 + 2 + 0, none⟩) 48 48) fun _ h => run_slA arr76 (.tmp 12) none none rfl q4 (0 + 2) 0 48 rfl ⟨(Or.inl ⟨rfl, rfl⟩), (Or.inl ⟨rfl, rfl⟩), by omega, by omega, by omega⟩) hL ?_
    simp only [Act.put, aS, aC, aZ]
    refine takeV (i := 2) [3] (some 14) rfl rfl (by kernel_rfl) (by kernel_rfl) (by kernel_rfl) (by kernel_rfl) (fun _ _ _ h => h) (gRun rfl (.slice (some ⟨q1, 0 + 12, none⟩) (48) (52)) fun _ h => run_slA arr122 (.tmp 1) (some (.const (.int .i64 12))) (some (.const (.int .i64 60))) rfl q1 (0) 12 60 rfl ⟨(Or.inr rfl), (Or.inr rfl), by omega, by omega, by omega⟩) hL ?_
    simp only [Act.put, aS, aC, aZ]
    refine oneU (i := 3) (by kernel_rfl) ?_
    refine opValueG (some 15) rfl rfl rfl (.int .i64 (48 : Nat)) _ (run_copyL (.tmp 13) (.tmp 14) rfl hL 2 rfl 2 48 48 q1 12 48 52 48 rfl rfl u hul rfl (fun j hj => rows_at hL 0 rfl (12 + j) _ (HU.out j (by omega))) (by rw [hdCells_length uset_none]; decide)).1 ?_
    have k6 := hL.lay 2 rfl 2 (bcells u)
    rw [hdCells_splice _ _ _ _ (by rw [hul]; exact uset_none.1), ← HH.out] at k6
    rw [hdCells_splice _ _ _ _ (by rw [hul]; exact uset_none.1), ← HH.out]
    obtain ⟨w6, hw6⟩ : ∃ w6, w6 = Y.setRow q4 (hdCells H).toArray := ⟨_, rfl⟩
    rw [← hw6] at k6 ⊢
    clear hL hw6
    have R6 : Hid (Loc w w6 [(q1, 122, bcells s), (q2, 78, hdCells ⟨0, 0, noneP⟩), (q4, 78, hdCells H)]) := k6
    clear k6
    refine ⟨fun h => absurd (show true = false from h) (by decide), ?_⟩
    simp only [Act.put, aS, aC, aZ]
    refine wpAnyU_done (by kernel_rfl) ?_ _
    go_upto_region 3 with fail
    refine wp_region_held (S := fun X => Row X q1 122 (bcells s) ∧ Row X q4 78 (hdCells H)) (by kernel_rfl) ?_
    show wpAnyH _ _ _ _ _ 7 (Array.replicate 7 false) _ _
    obtain ⟨Z, hX⟩ : ∃ Z : World, Z = { w6 with drawn := w6.drawn + 1 } := ⟨_, rfl⟩
    rw [← hX]
    have hL : Loc w Z [(q1, 122, bcells s), (q2, 78, hdCells ⟨0, 0, noneP⟩), (q4, 78, hdCells H)] := by rw [hX]; exact R6.out.drew
    clear R6
    clear hX
    refine takeH (i := 0) (some 16) rfl rfl (by kernel_rfl) (by kernel_rfl) (by kernel_rfl) (fun _ _ _ h => h) (gRun rfl (.agg (hdCells H).toArray) fun _ h => run_loadA ag78 (.tmp 4) rfl q4 (0) rfl (hdCells H) (hdCells_length HW.out.used) (fun j v hv => by rw [Nat.zero_add]; exact h.2.at j v hv)) ⟨hL.at 0 rfl, hL.at 2 rfl⟩ ?_
    simp only [Act.put, aS, aC, aZ]
    refine takeH (i := 1) (some 17) rfl rfl (by kernel_rfl) (by kernel_rfl) (by kernel_rfl) (fun _ _ _ h => h) (gRun rfl (.agg (hdCells H).toArray) fun _ h => run_loadA ag78 (.tmp 4) rfl q4 (0) rfl (hdCells H) (hdCells_length HW.out.used) (fun j v hv => by rw [Nat.zero_add]; exact h.2.at j v hv)) ⟨hL.at 0 rfl, hL.at 2 rfl⟩ ?_
    simp only [Act.put, aS, aC, aZ]
    refine takeH (i := 3) (some 19) rfl rfl (by kernel_rfl) (by kernel_rfl) (by kernel_rfl) (fun _ _ _ h => h) (gRun rfl (.agg (bcells s).toArray) fun _ h => run_loadA ag122 (.tmp 1) rfl q1 (0) rfl (bcells s) (by rw [bcells_length]; exact HS.out.1) (fun j v hv => by rw [Nat.zero_add]; exact h.1.at j v hv)) ⟨hL.at 0 rfl, hL.at 2 rfl⟩ ?_
    simp only [Act.put, aS, aC, aZ]
    refine oneH (i := 2) (by kernel_rfl) ?_
    refine opCallG (some 18) rfl rfl rfl 68 _ (run_call eN68 [.tmp 17] _ rfl [(.agg (hdCells H).toArray)] rfl) ?_
    refine (sector_any _ (Fr.TabIn.later hL.below HT.out) H HW.out).mono ?_
    rintro e w7 ⟨rfl, b7⟩
    refine ⟨_, rfl, ?_⟩
    have k7 := hL.later b7
    clear hL b7
    have hL : Loc w w7 [(q1, 122, bcells s), (q2, 78, hdCells ⟨0, 0, noneP⟩), (q4, 78, hdCells H)] := k7
    clear k7
    refine ⟨⟨hL.at 0 rfl, hL.at 2 rfl⟩, ?_⟩
    simp only [Act.put, aS, aC, aZ]
    refine takeH (i := 4) (some 20) rfl rfl (by kernel_rfl) (by kernel_rfl) (by kernel_rfl) (fun _ _ _ h => h) (gRun rfl (.bool ok) fun _ h => (run_eqA arr122 eqG122 (.tmp 18) (.tmp 19) rfl (hdSec H) s HLS.out hs64 rfl rfl).trans (by rw [HOK.out])) ⟨hL.at 0 rfl, hL.at 2 rfl⟩ ?_
    simp only [Act.put, aS, aC, aZ]
    refine oneH (i := 5) (by kernel_rfl) ?_
    refine opSkipZ rfl rfl rfl _ (run_storeL ag78 (.tmp 2) (.tmp 16) rfl hL 1 rfl 0 rfl (hdCells H) rfl (hdCells_length HW.out.used) (by rw [hdCells_length HW.out.used, hdCells_length (h := ⟨0, 0, noneP⟩) uset_none]; decide) (hdCells_one _)).1 ?_
    have k8 := hL.lay 1 rfl 0 (hdCells H)
    rw [splice_all _ _ (by rw [hdCells_length HW.out.used, hdCells_length (h := ⟨0, 0, noneP⟩) uset_none])] at k8 ⊢
    obtain ⟨w8, hw8⟩ : ∃ w8, w8 = w7.setRow q2 (hdCells H).toArray := ⟨_, rfl⟩
    rw [← hw8] at k8 ⊢
    clear hL hw8
    have hL : Loc w w8 [(q1, 122, bcells s), (q2, 78, hdCells H), (q4, 78, hdCells H)] := k8
    clear k8
    refine ⟨⟨hL.at 0 rfl, hL.at 2 rfl⟩, ?_⟩
    refine takeH (i := 6) (some 3) rfl rfl (by kernel_rfl) (by kernel_rfl) (by kernel_rfl) (fun _ _ _ h => h) (gRun rfl (.bool ok) fun _ h => run_asZ (.tmp 20) rfl (.bool ok) rfl) ⟨hL.at 0 rfl, hL.at 2 rfl⟩ ?_
    simp only [Act.put, aS, aC, aZ]
    refine wpAnyH_done (by kernel_rfl) ?_ _
    have R9 : Hid (Loc w w8 [(q1, 122, bcells s), (q2, 78, hdCells H), (q4, 78, hdCells H)]) := hL
    clear hL
    go_wp2_with fail
    rw [HPQ.out]
    exact bodyPost_ret (results_cell_tmp ag78 Tryd.results78 _ _ q2 78 rfl (hdCells H) (hdCells_length HW.out.used) (R9.out.at 1 rfl)) rfl ⟨rfl, R9.out.below⟩
end Go.Proofs.YtkpnflgnhhfjoaaDoor

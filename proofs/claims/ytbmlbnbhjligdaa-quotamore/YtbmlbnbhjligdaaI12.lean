/- Which shapes may be, and what they hold: the law. -/
import Derived.Test.YtbmlbnbhjligdaaI9
import Derived.Test.YtbmlbnbhjligdaaI10
namespace Go.Proofs.Ytbmlbnbhjligdaa
open Go.RowKit Go.MapKept

/-- numbers that the call has made -/
structure IOwn (w : World) (base : Nat) (v : Value) (l : List Int) : Prop where
  own : w.ownsRow base 3 1 v l.length (l.map (Value.int .i64))
  lt : l.length < 4611686018427387904
  bd : ∀ z ∈ l, -9223372036854775808 ≤ z ∧ z ≤ 9223372036854775807
theorem IOwn.later {w w' : World} {base : Nat} {v : Value} {l : List Int} (h : IOwn w base v l) (hb : Below w.heap.size w w') : IOwn w' base v l := ⟨own_later h.own hb, h.lt, h.bd⟩
theorem own_base {w : World} {base base' e sz n : Nat} {v : Value} {xs : List Value} (h : w.ownsRow base e sz v n xs) (hb : base' ≤ base) : w.ownsRow base' e sz v n xs := by
  refine ⟨h.1, ?_⟩
  rcases h.2 with h2 | ⟨g, cap, cur, h3, h4, h5⟩
  · exact Or.inl h2
  · exact Or.inr ⟨g, cap, cur, h3, Nat.le_trans hb h4, h5⟩
theorem IOwn.mono {w : World} {base base' : Nat} {v : Value} {l : List Int} (h : IOwn w base v l) (hb : base' ≤ base) : IOwn w base' v l := ⟨own_base h.own hb, h.lt, h.bd⟩
theorem IOwn.ints {w : World} {base : Nat} {v : Value} {l : List Int} (h : IOwn w base v l) : IntsIn w v l := by
  obtain ⟨ho, hl, hb⟩ := h
  rcases ho.2 with ⟨rfl, h0⟩ | ⟨g, cap, cur, rfl, _, hg, hcap, hmax, hsz, htake⟩
  · obtain rfl : l = [] := List.length_eq_zero_iff.1 h0
    exact IntsIn.nil w
  · refine ⟨_, cap, rfl, hcap, hl, Or.inr ⟨g, 0, rfl, fun j hj => ?_⟩, hb⟩
    have h2 := ho.cells (g := g) rfl j (.int .i64 (nth l j)) (by simp [nth_at l j hj, hj])
    rw [add_none] at h2
    exact h2
theorem IOwn.setRow {w : World} {base : Nat} {v : Value} {l : List Int} (h : IOwn w base v l) {q T : Nat} {cs : List Value} (hr : Row w q T cs) (hT : T ≠ 3) (xs : Array Value) : IOwn (w.setRow q xs) base v l := by
  refine ⟨own_kept h.own fun b hb => ?_, h.lt, h.bd⟩
  refine Go.setRow_other w q b xs fun e => ?_
  rcases h.own.2 with ⟨rfl, h0⟩ | ⟨g, cap, cur, rfl, _, hg, _⟩
  · cases hb
  · obtain rfl : g = b := by injection hb
    subst e
    unfold Row at hr
    rw [hg] at hr
    injection hr with hr
    injection hr with _ h2
    exact hT h2.symm
theorem info3b : (Try.prog.info? 3).map (fun i => (i.zero, i.size, i.bytes)) = some (some (.int .i64 0), 1, 8) := by kernel_rfl
/-- a row of nothing -/
structure Row0 (w : World) (g : Nat) : Prop where
  row : Row w g 3 []
theorem Row0.later {w w' : World} {g : Nat} (h : Row0 w g) (hb : Below w.heap.size w w') : Row0 w' g := ⟨h.row.later hb h.row.lt⟩
/-- a shape's block, nothing laid into it yet -/
structure RowZ (w : World) (q : Nat) : Prop where
  row : Row w q 24 [.slice none 0 0, .slice none 0 0]
theorem RowZ.later {w w' : World} {g : Nat} (h : RowZ w g) (hb : Below w.heap.size w w') : RowZ w' g := ⟨h.row.later hb h.row.lt⟩
/-- numbers appended to a row of nothing -/
theorem app_fresh {w : World} (ty : TypeId) (g : Nat) (hg : Row w g 3 []) (vx : Value) (xs : List Int) (hx : IntsIn w vx xs) (hsz : xs.length ≤ 17592186043904) :
    ∃ v' w', (Builtin.append_ #[22, 22] ty #[.slice (some ⟨g, 0, none⟩) 0 0, vx]).run Try.prog w = .ok v' w' ∧ IOwn w' g v' xs ∧ Below w.heap.size w w' ∧ (0 < xs.length → ∀ q, v'.ownBlock = some q → w.heap.size ≤ q) := by
  obtain ⟨i, hi, hz0, hz1, hz2⟩ := info_parts info3b
  obtain ⟨p, cap, rfl, h1, h2, h, hbd⟩ := hx
  have hown : w.ownsRow g 3 1 (.slice (some ⟨g, 0, none⟩) 0 0) 0 [] := ⟨by simp, Or.inr ⟨g, 0, #[], rfl, Nat.le_refl _, hg, Nat.le_refl _, by unfold maxLen; omega, rfl, rfl⟩⟩
  by_cases h0 : xs = []
  · subst h0
    refine ⟨.slice (some ⟨g, 0, none⟩) 0 0, w, ?_, ⟨hown, h2, hbd⟩, Below.refl _ _, fun h => absurd h (by simp)⟩
    cases p with
    | none => simp [Builtin.append_, run_underlying Try.underlying22, sizeOf, typeInfo, hi, Builtin.lenOf, Builtin.firstCells, storeCells]
    | some ad => simp [Builtin.append_, run_underlying Try.underlying22, sizeOf, typeInfo, hi, Builtin.lenOf, Builtin.firstCells, loadCells, loadCellsFrom, storeCells]
  · rcases h with rfl | ⟨b, off, rfl, hc⟩
    · exact absurd rfl h0
    have hpos : 0 < xs.length := by cases xs <;> simp_all
    have hcl : (xs.map (Value.int .i64)).length = xs.length * i.size := by rw [hz1]; simp
    have hnews : ∀ j u, (xs.map (Value.int .i64))[j]? = some u → w.cell? ((⟨b, off, none⟩ : Addr).add j) = some u := by
      intro j u hu
      have hj : j < xs.length := by
        have := (List.getElem?_eq_some_iff.1 hu).1
        simpa using this
      rw [add_none, hc j hj, ← hu, nth_at xs j hj]
      simp [hj]
    have hr2 := run_append_grow (P := Try.prog) w 22 ty 3 i (.int .i64 0) Try.underlying22 hi hz0 ⟨g, 0, none⟩ 0 0 [] (by simp) (by intro j u hu; simp at hu) ⟨b, off, none⟩ xs.length cap (xs.map (Value.int .i64)) hcl hnews (by omega) (by omega) (growslice_fits (by omega) (by rw [hz2]; omega))
    obtain ⟨v', w', hr, ho, _, _⟩ := run_append_own (P := Try.prog) (w := w) g 22 ty 3 i (.int .i64 0) 1 8 Try.underlying22 hi hz0 hz1 hz2 rfl (by decide) _ 0 [] hown
      ⟨b, off, none⟩ xs.length cap (xs.map (Value.int .i64)) (by simp) hnews (by intro u hu; obtain ⟨x, _, rfl⟩ := List.mem_map.1 hu; rfl) (by unfold maxLen; omega) (by omega) (Nat.le_of_lt hg.lt)
    rw [Nat.zero_add, List.nil_append] at ho
    rw [hr] at hr2
    injection hr2 with e1 e2
    refine ⟨v', w', hr, ⟨ho, h2, hbd⟩, ?_, fun _ q hq => ?_⟩
    · rw [e2]
      exact (show Below w.heap.size w w.drew from ⟨rfl, rfl, rfl, Nat.le_refl _, fun _ _ => rfl⟩).alloc (Nat.le_refl _) _
    · rw [e1] at hq
      have : w.heap.size = q := by injection hq
      omega
section
variable {w : World} {ops : Array Oper} {o : Oper} {a : Act}
theorem run_int0Op (ho : o.op = .buildSlice 22 0 #[]) : (execOp a.eval o).run Try.prog w = .ok (.value (.slice (some ⟨w.heap.size, 0, none⟩) 0 0)) (w.alloc (.cells #[] 3)) := by
  have hr : (Instr.buildSlice 22 0 #[]).run Try.prog w = .ok (.slice (some ⟨w.heap.size, 0, none⟩) 0 0) (w.alloc (.cells #[] 3)) := by kernel_rfl
  simp [execOp, ho, hr]
theorem run_neB (x y : Operand) (ho : o.op = .binOp .neq 4 x y 4) (b : Bool) (hx : a.eval x = .bool b) (hy : a.eval y = .bool b) : (execOp a.eval o).run Try.prog w = .ok (.value (.bool false)) w := by
  cases b
  · exact run_binOp' x y ho _ _ _ hx hy rfl (by kernel_rfl)
  · exact run_binOp' x y ho _ _ _ hx hy rfl (by kernel_rfl)
end
theorem share6 {P G : World → Nat → Nat → Nat → Value → Value → Prop} {T : Prop} (k : (∀ W q g h u v, P W q g h u v → G W q g h u v) → T) (h : ∀ W q g h u v, P W q g h u v → G W q g h u v) : T := k h
/-- what the copying leaves -/
structure Cop (w w0 W : World) (q : Nat) (vD vT : Value) (ds ts : List Int) : Prop where
  row : Row W q 24 [vD, vT]
  d : IOwn W w.heap.size vD ds
  t : IOwn W w.heap.size vT ts
  bel : Below w0.heap.size w0 W
  ge : w0.heap.size ≤ q
  ne : 0 < ts.length → ∀ b b', vD.ownBlock = some b → vT.ownBlock = some b' → b ≠ b'
set_option maxHeartbeats 4000000 in
set_option maxRecDepth 100000 in
theorem quotaMays_any (w : World) (vd vt : Value) (ds ts : List Int) (hs : ShIn w vd vt ds ts) (r : Int) (hd1 : ds.length ≤ 17592186043904) (hd2 : ts.length ≤ 17592186043904) : Calls Try.prog 3 #[.agg #[vd, vt], .agg #[.int .i64 r]] w fun e w' => e = .returned (.bool true) ∧ Below w.heap.size w w' := by
  have HI : Hid (ShIn w vd vt ds ts) := hs
  have hl1 : Hid (ds.length ≤ 17592186043904) := hd1
  have hl2 : Hid (ts.length ≤ 17592186043904) := hd2
  clear hs hd1 hd2
  have HW : Hid (Below w.heap.size w w) := Below.refl _ _
  obtain ⟨y, hy⟩ : ∃ y, y = mayOk ds ts r := ⟨_, rfl⟩
  obtain ⟨n, hn⟩ : ∃ y, y = putsZ ds := ⟨_, rfl⟩
  obtain ⟨k, hk⟩ : ∃ y, y = sectZ ds := ⟨_, rfl⟩
  have HY : Hid (y = mayOk ds ts r ∧ n = putsZ ds ∧ k = sectZ ds) := ⟨hy, hn, hk⟩
  clear hy hn hk
  obtain ⟨PQ, HPQ⟩ : ∃ PQ : Ending → World → Prop, Hid (PQ = fun (e : Ending) (w' : World) => e = .returned (.bool true) ∧ Below w.heap.size w w') := ⟨_, rfl⟩
  rw [← HPQ.out]
  go_enter Try.func3, Try.ntmps3
  go_upto_region 0 with fail
  refine wp_region_lit ?_
  refine wl rfl (ptr w.heap.size) _ (run_boxA (.tmp 0) rfl ([vd, vt]) rfl) ?_
  have r_ := Row.new w 24 ([vd, vt])
  have bW := below_alloc w (.cells ([vd, vt]).toArray 24)
  obtain ⟨u1, hW_⟩ : ∃ W, W = w.alloc (.cells ([vd, vt]).toArray 24) := ⟨_, rfl⟩
  obtain ⟨qs, hq_⟩ : ∃ q, q = w.heap.size := ⟨_, rfl⟩
  rw [← hW_, ← hq_] at r_
  rw [← hW_] at bW
  rw [← hW_, ← hq_]
  clear hW_ hq_
  have HW_ : Hid (Below w.heap.size w u1) := belowNext HW.out bW
  clear HW
  have HW := HW_
  clear HW_
  have HI_ : Hid (ShIn u1 vd vt ds ts) := HI.out.later bW
  clear HI
  have HI := HI_
  clear HI_
  have HS : Hid (ShB u1 qs vd vt ds ts) := ⟨r_, HI.out⟩
  clear r_ bW
  simp only [Act.put, List.setIfInBounds_toArray, List.set_cons_succ, List.set_cons_zero]
  refine wl rfl (ptr u1.heap.size) _ (run_boxA (.tmp 1) rfl ([.int .i64 r]) rfl) ?_
  have r_ := Row.new u1 26 ([.int .i64 r])
  have bW := below_alloc u1 (.cells ([.int .i64 r]).toArray 26)
  obtain ⟨u2, hW_⟩ : ∃ W, W = u1.alloc (.cells ([.int .i64 r]).toArray 26) := ⟨_, rfl⟩
  obtain ⟨qc, hq_⟩ : ∃ q, q = u1.heap.size := ⟨_, rfl⟩
  rw [← hW_, ← hq_] at r_
  rw [← hW_] at bW
  rw [← hW_, ← hq_]
  clear hW_ hq_
  have HW_ : Hid (Below w.heap.size w u2) := belowNext HW.out bW
  clear HW
  have HW := HW_
  clear HW_
  have HI_ : Hid (ShIn u2 vd vt ds ts) := HI.out.later bW
  clear HI
  have HI := HI_
  clear HI_
  have HS_ : Hid (ShB u2 qs vd vt ds ts) := HS.out.later bW
  clear HS
  have HS := HS_
  clear HS_
  have HG : Hid (CfB u2 qc r) := ⟨r_⟩
  clear r_ bW
  simp only [Act.put, List.setIfInBounds_toArray, List.set_cons_succ, List.set_cons_zero]
  refine wl rfl (.bool false) _ (run_asZ (.const (.bool false)) rfl (.bool false) rfl) ?_
  simp only [Act.put, List.setIfInBounds_toArray, List.set_cons_succ, List.set_cons_zero]
  refine wpList_nil ?_
  clear HI
  go_upto_region 1 with fail
  refine wp_region_lit ?_
  refine wpList_callW eN7 [] _ (by kernel_rfl) rfl [] rfl ?_
  refine (shown_any u2).mono ?_
  rintro e u3 ⟨rfl, bW⟩
  refine ⟨_, rfl, ?_⟩
  have HW_ : Hid (Below w.heap.size w u3) := belowNext HW.out bW
  clear HW
  have HW := HW_
  clear HW_
  have HS_ : Hid (ShB u3 qs vd vt ds ts) := HS.out.later bW
  clear HS
  have HS := HS_
  clear HS_
  have HG_ : Hid (CfB u3 qc r) := HG.out.later bW
  clear HG
  have HG := HG_
  clear HG_
  clear bW
  simp only [Act.put, List.setIfInBounds_toArray, List.set_cons_succ, List.set_cons_zero]
  refine wl rfl (.bool true) _ (run_asZ (.tmp 9) rfl (.bool true) rfl) ?_
  simp only [Act.put, List.setIfInBounds_toArray, List.set_cons_succ, List.set_cons_zero]
  refine wpList_nil ?_
  go_upto_region 2 with fail
  refine wp_region_lit ?_
  refine wl rfl (.bool true) _ (run_mvZ (.tmp 5) rfl (.bool true) rfl) ?_
  simp only [Act.put, List.setIfInBounds_toArray, List.set_cons_succ, List.set_cons_zero]
  refine wl rfl (.bool false) _ (run_not (.tmp 10) 4 rfl true rfl) ?_
  simp only [Act.put, List.setIfInBounds_toArray, List.set_cons_succ, List.set_cons_zero]
  refine wpList_nil ?_
  go_upto_region 4 with fail
  refine wp_region_held (S := fun X => Below u3.heap.size u3 X) (by kernel_rfl) ?_
  show wpAnyH _ _ _ _ _ 11 (Array.replicate 11 false) _ _
  obtain ⟨X0, hX⟩ : ∃ X : World, X = { u3 with drawn := u3.drawn + 1 } := ⟨_, rfl⟩
  rw [← hX]
  have HB : Below u3.heap.size u3 X0 := by rw [hX]; exact ⟨rfl, rfl, rfl, Nat.le_refl _, fun _ _ => rfl⟩
  clear hX
  have hW0_ := HW.out.size
  apply share6 (P := fun W q g h u v => Hid (Cop w u3 W q u v ds ts))
  intro hG
  have hX : True := trivial
  refine takeH (i := 1) (some 13) rfl rfl (by kernel_rfl) (by kernel_rfl) (by kernel_rfl) (fun _ _ _ h => h) (gRun rfl (.pointer (some ⟨qs, 0 + 0, none⟩)) fun _ h => run_fieldOp' f24_0 (.tmp 2) rfl qs (0) rfl) HB ?_
  simp only [Act.put, List.setIfInBounds_toArray, List.set_cons_succ, List.set_cons_zero]
  refine takeH (i := 2) (some 14) rfl rfl (by kernel_rfl) (by kernel_rfl) (by kernel_rfl) (fun _ _ _ h => h) (gRun rfl vd fun _ h => run_load1 o22 (.tmp 13) rfl qs (0 + 0) rfl vd ((HS.out.row.later h HS.out.row.lt).at (0 + 0) _ rfl)) HB ?_
  simp only [Act.put, List.setIfInBounds_toArray, List.set_cons_succ, List.set_cons_zero]
  refine takeH (i := 5) (some 17) rfl rfl (by kernel_rfl) (by kernel_rfl) (by kernel_rfl) (fun _ _ _ h => h) (gRun rfl (.pointer (some ⟨qs, 0 + 1, none⟩)) fun _ h => run_fieldOp' f24_1 (.tmp 2) rfl qs (0) rfl) HB ?_
  simp only [Act.put, List.setIfInBounds_toArray, List.set_cons_succ, List.set_cons_zero]
  refine takeH (i := 6) (some 18) rfl rfl (by kernel_rfl) (by kernel_rfl) (by kernel_rfl) (fun _ _ _ h => h) (gRun rfl vt fun _ h => run_load1 o22 (.tmp 17) rfl qs (0 + 1) rfl vt ((HS.out.row.later h HS.out.row.lt).at (0 + 1) _ rfl)) HB ?_
  simp only [Act.put, List.setIfInBounds_toArray, List.set_cons_succ, List.set_cons_zero]
  refine wpAnyH_all (rs := [0, 4, 9]) (by kernel_rfl) (by decide) ?_
  intro i hi
  have hi' : i = 0 ∨ i = 4 ∨ i = 9 := by simpa using hi
  clear hi
  rcases hi' with rfl | rfl | rfl
  · refine opValueG (some 12) rfl rfl rfl _ _ (run_int0Op rfl) ?_
    have r_ : Row0 (X0.alloc (.cells #[] 3)) X0.heap.size := ⟨Row.new X0 3 []⟩
    have bW := below_alloc X0 (.cells #[] 3)
    obtain ⟨X1, hW_⟩ : ∃ U_ : World, U_ = X0.alloc (.cells #[] 3) := ⟨_, rfl⟩
    obtain ⟨g1, hq_⟩ : ∃ q, q = X0.heap.size := ⟨_, rfl⟩
    have g1_ge : w.heap.size ≤ g1 := by rw [hq_]; exact Nat.le_trans hW0_ HB.size
    rw [← hW_] at bW
    rw [← hW_, ← hq_] at r_
    rw [← hW_, ← hq_]
    clear hW_ hq_
    replace HB := belowNext HB bW
    have G1 : Row0 X1 g1 := r_
    clear r_ bW
    refine ⟨HB, ?_⟩
    simp only [Act.put, List.setIfInBounds_toArray, List.set_cons_succ, List.set_cons_zero]
    refine wpAnyH_all (rs := [3, 4, 9]) (by kernel_rfl) (by decide) ?_
    intro i hi
    have hi' : i = 3 ∨ i = 4 ∨ i = 9 := by simpa using hi
    clear hi
    rcases hi' with rfl | rfl | rfl
    · obtain ⟨vD, X2, ra_, o_, bW, fr_⟩ := app_fresh 22 g1 G1.row vd ds ((HS.out.sh.d).later HB) hl1.out
      refine opValueG (some 15) rfl rfl rfl vD X2 (run_append (.tmp 12) (.tmp 14) rfl _ _ _ rfl rfl ra_) ?_
      clear ra_ G1
      replace HB := belowNext HB bW
      have OD : IOwn X2 w.heap.size vD ds := o_.mono g1_ge
      clear o_ bW fr_
      refine ⟨HB, ?_⟩
      simp only [Act.put, List.setIfInBounds_toArray, List.set_cons_succ, List.set_cons_zero]
      refine wpAnyH_all (rs := [4, 9]) (by kernel_rfl) (by decide) ?_
      intro i hi
      have hi' : i = 4 ∨ i = 9 := by simpa using hi
      clear hi
      rcases hi' with rfl | rfl
      · refine opValueG (some 16) rfl rfl rfl _ _ (run_int0Op rfl) ?_
        have r_ : Row0 (X2.alloc (.cells #[] 3)) X2.heap.size := ⟨Row.new X2 3 []⟩
        have bW := below_alloc X2 (.cells #[] 3)
        obtain ⟨X3, hW_⟩ : ∃ U_ : World, U_ = X2.alloc (.cells #[] 3) := ⟨_, rfl⟩
        obtain ⟨g2, hq_⟩ : ∃ q, q = X2.heap.size := ⟨_, rfl⟩
        have g2_ge : w.heap.size ≤ g2 := by rw [hq_]; exact Nat.le_trans hW0_ HB.size
        rw [← hW_] at bW
        rw [← hW_, ← hq_] at r_
        rw [← hW_, ← hq_]
        clear hW_ hq_
        replace OD := OD.later bW
        replace HB := belowNext HB bW
        have G2 : Row0 X3 g2 := r_
        clear r_ bW
        refine ⟨HB, ?_⟩
        simp only [Act.put, List.setIfInBounds_toArray, List.set_cons_succ, List.set_cons_zero]
        refine wpAnyH_all (rs := [7, 9]) (by kernel_rfl) (by decide) ?_
        intro i hi
        have hi' : i = 7 ∨ i = 9 := by simpa using hi
        clear hi
        rcases hi' with rfl | rfl
        · obtain ⟨vT, X4, ra_, o_, bW, fr_⟩ := app_fresh 22 g2 G2.row vt ts ((HS.out.sh.t).later HB) hl2.out
          refine opValueG (some 19) rfl rfl rfl vT X4 (run_append (.tmp 16) (.tmp 18) rfl _ _ _ rfl rfl ra_) ?_
          clear ra_ G2
          have ne_ : 0 < ts.length → ∀ b b', vD.ownBlock = some b → vT.ownBlock = some b' → b ≠ b' := fun hp b b' h h' => by have := fr_ hp b' h'; have := (OD.own.lt b h).2; omega
          replace OD := OD.later bW
          replace HB := belowNext HB bW
          have OT : IOwn X4 w.heap.size vT ts := o_.mono g2_ge
          clear o_ bW fr_
          refine ⟨HB, ?_⟩
          simp only [Act.put, List.setIfInBounds_toArray, List.set_cons_succ, List.set_cons_zero]
          refine takeH (i := 8) (some 20) rfl rfl (by kernel_rfl) (by kernel_rfl) (by kernel_rfl) (fun _ _ _ h => h) (gRun rfl (.agg [vD, vT].toArray) fun _ h => run_build24 (.tmp 15) (.tmp 19) rfl vD vT OD.ints.isSlice.2 OT.ints.isSlice.2 rfl rfl) HB ?_
          simp only [Act.put, List.setIfInBounds_toArray, List.set_cons_succ, List.set_cons_zero]
          refine oneH (i := 9) (by kernel_rfl) ?_
          refine opValueG (some 6) rfl rfl rfl (ptr X4.heap.size) _ (run_allocA [Value.slice none 0 0, .slice none 0 0] zero24 rfl) ?_
          have r_ : RowZ (X4.alloc (.cells ([Value.slice none 0 0, .slice none 0 0]).toArray 24)) X4.heap.size := ⟨Row.new X4 24 [Value.slice none 0 0, .slice none 0 0]⟩
          have bW := below_alloc X4 (.cells ([Value.slice none 0 0, .slice none 0 0]).toArray 24)
          obtain ⟨X5, hW_⟩ : ∃ U_ : World, U_ = X4.alloc (.cells ([Value.slice none 0 0, .slice none 0 0]).toArray 24) := ⟨_, rfl⟩
          obtain ⟨qt, hq_⟩ : ∃ q, q = X4.heap.size := ⟨_, rfl⟩
          have qt_ge : u3.heap.size ≤ qt := by rw [hq_]; exact HB.size
          rw [← hW_] at bW
          rw [← hW_, ← hq_] at r_
          rw [← hW_, ← hq_]
          clear hW_ hq_
          replace OD := OD.later bW
          replace OT := OT.later bW
          replace HB := belowNext HB bW
          have ZA : RowZ X5 qt := r_
          clear r_ bW
          refine ⟨HB, ?_⟩
          simp only [Act.put, List.setIfInBounds_toArray, List.set_cons_succ, List.set_cons_zero]
          refine oneH (i := 10) (by kernel_rfl) ?_
          refine opSkipZ rfl rfl rfl _ (run_storeA ag24 (.tmp 6) (.tmp 20) rfl qt 24 rfl [vD, vT] _ rfl rfl ZA.row rfl (two_one OD.ints OT.ints)) ?_
          have r_ := ZA.row.setRow [vD, vT]
          have od_ := OD.setRow ZA.row (by decide) ([vD, vT] : List Value).toArray
          have ot_ := OT.setRow ZA.row (by decide) ([vD, vT] : List Value).toArray
          have hb_ := HB.trans (((Ch.refl (· = qt) X5).setRow (Or.inl rfl) ([vD, vT] : List Value).toArray).below HB.size fun i hi e => by omega)
          obtain ⟨X6, hW_⟩ : ∃ U_ : World, U_ = X5.setRow qt ([vD, vT] : List Value).toArray := ⟨_, rfl⟩
          rw [← hW_] at r_ od_ ot_ hb_ ⊢
          clear hW_
          refine ⟨hb_, ?_⟩
          refine wpAnyH_done (by kernel_rfl) ?_ _
          exact hG X6 qt g1 g2 vD vT ⟨r_, od_, ot_, hb_, qt_ge, ne_⟩
        · refine opValueG (some 6) rfl rfl rfl (ptr X3.heap.size) _ (run_allocA [Value.slice none 0 0, .slice none 0 0] zero24 rfl) ?_
          have r_ : RowZ (X3.alloc (.cells ([Value.slice none 0 0, .slice none 0 0]).toArray 24)) X3.heap.size := ⟨Row.new X3 24 [Value.slice none 0 0, .slice none 0 0]⟩
          have bW := below_alloc X3 (.cells ([Value.slice none 0 0, .slice none 0 0]).toArray 24)
          obtain ⟨X4, hW_⟩ : ∃ U_ : World, U_ = X3.alloc (.cells ([Value.slice none 0 0, .slice none 0 0]).toArray 24) := ⟨_, rfl⟩
          obtain ⟨qt, hq_⟩ : ∃ q, q = X3.heap.size := ⟨_, rfl⟩
          have qt_ge : u3.heap.size ≤ qt := by rw [hq_]; exact HB.size
          rw [← hW_] at bW
          rw [← hW_, ← hq_] at r_
          rw [← hW_, ← hq_]
          clear hW_ hq_
          replace G2 := G2.later bW
          replace OD := OD.later bW
          replace HB := belowNext HB bW
          have ZA : RowZ X4 qt := r_
          clear r_ bW
          refine ⟨HB, ?_⟩
          simp only [Act.put, List.setIfInBounds_toArray, List.set_cons_succ, List.set_cons_zero]
          refine oneH (i := 7) (by kernel_rfl) ?_
          obtain ⟨vT, X5, ra_, o_, bW, fr_⟩ := app_fresh 22 g2 G2.row vt ts ((HS.out.sh.t).later HB) hl2.out
          refine opValueG (some 19) rfl rfl rfl vT X5 (run_append (.tmp 16) (.tmp 18) rfl _ _ _ rfl rfl ra_) ?_
          clear ra_ G2
          have ne_ : 0 < ts.length → ∀ b b', vD.ownBlock = some b → vT.ownBlock = some b' → b ≠ b' := fun hp b b' h h' => by have := fr_ hp b' h'; have := (OD.own.lt b h).2; omega
          replace OD := OD.later bW
          replace ZA := ZA.later bW
          replace HB := belowNext HB bW
          have OT : IOwn X5 w.heap.size vT ts := o_.mono g2_ge
          clear o_ bW fr_
          refine ⟨HB, ?_⟩
          simp only [Act.put, List.setIfInBounds_toArray, List.set_cons_succ, List.set_cons_zero]
          refine takeH (i := 8) (some 20) rfl rfl (by kernel_rfl) (by kernel_rfl) (by kernel_rfl) (fun _ _ _ h => h) (gRun rfl (.agg [vD, vT].toArray) fun _ h => run_build24 (.tmp 15) (.tmp 19) rfl vD vT OD.ints.isSlice.2 OT.ints.isSlice.2 rfl rfl) HB ?_
          simp only [Act.put, List.setIfInBounds_toArray, List.set_cons_succ, List.set_cons_zero]
          refine oneH (i := 10) (by kernel_rfl) ?_
          refine opSkipZ rfl rfl rfl _ (run_storeA ag24 (.tmp 6) (.tmp 20) rfl qt 24 rfl [vD, vT] _ rfl rfl ZA.row rfl (two_one OD.ints OT.ints)) ?_
          have r_ := ZA.row.setRow [vD, vT]
          have od_ := OD.setRow ZA.row (by decide) ([vD, vT] : List Value).toArray
          have ot_ := OT.setRow ZA.row (by decide) ([vD, vT] : List Value).toArray
          have hb_ := HB.trans (((Ch.refl (· = qt) X5).setRow (Or.inl rfl) ([vD, vT] : List Value).toArray).below HB.size fun i hi e => by omega)
          obtain ⟨X6, hW_⟩ : ∃ U_ : World, U_ = X5.setRow qt ([vD, vT] : List Value).toArray := ⟨_, rfl⟩
          rw [← hW_] at r_ od_ ot_ hb_ ⊢
          clear hW_
          refine ⟨hb_, ?_⟩
          refine wpAnyH_done (by kernel_rfl) ?_ _
          exact hG X6 qt g1 g2 vD vT ⟨r_, od_, ot_, hb_, qt_ge, ne_⟩
      · refine opValueG (some 6) rfl rfl rfl (ptr X2.heap.size) _ (run_allocA [Value.slice none 0 0, .slice none 0 0] zero24 rfl) ?_
        have r_ : RowZ (X2.alloc (.cells ([Value.slice none 0 0, .slice none 0 0]).toArray 24)) X2.heap.size := ⟨Row.new X2 24 [Value.slice none 0 0, .slice none 0 0]⟩
        have bW := below_alloc X2 (.cells ([Value.slice none 0 0, .slice none 0 0]).toArray 24)
        obtain ⟨X3, hW_⟩ : ∃ U_ : World, U_ = X2.alloc (.cells ([Value.slice none 0 0, .slice none 0 0]).toArray 24) := ⟨_, rfl⟩
        obtain ⟨qt, hq_⟩ : ∃ q, q = X2.heap.size := ⟨_, rfl⟩
        have qt_ge : u3.heap.size ≤ qt := by rw [hq_]; exact HB.size
        rw [← hW_] at bW
        rw [← hW_, ← hq_] at r_
        rw [← hW_, ← hq_]
        clear hW_ hq_
        replace OD := OD.later bW
        replace HB := belowNext HB bW
        have ZA : RowZ X3 qt := r_
        clear r_ bW
        refine ⟨HB, ?_⟩
        simp only [Act.put, List.setIfInBounds_toArray, List.set_cons_succ, List.set_cons_zero]
        refine oneH (i := 4) (by kernel_rfl) ?_
        refine opValueG (some 16) rfl rfl rfl _ _ (run_int0Op rfl) ?_
        have r_ : Row0 (X3.alloc (.cells #[] 3)) X3.heap.size := ⟨Row.new X3 3 []⟩
        have bW := below_alloc X3 (.cells #[] 3)
        obtain ⟨X4, hW_⟩ : ∃ U_ : World, U_ = X3.alloc (.cells #[] 3) := ⟨_, rfl⟩
        obtain ⟨g2, hq_⟩ : ∃ q, q = X3.heap.size := ⟨_, rfl⟩
        have g2_ge : w.heap.size ≤ g2 := by rw [hq_]; exact Nat.le_trans hW0_ HB.size
        rw [← hW_] at bW
        rw [← hW_, ← hq_] at r_
        rw [← hW_, ← hq_]
        clear hW_ hq_
        replace OD := OD.later bW
        replace ZA := ZA.later bW
        replace HB := belowNext HB bW
        have G2 : Row0 X4 g2 := r_
        clear r_ bW
        refine ⟨HB, ?_⟩
        simp only [Act.put, List.setIfInBounds_toArray, List.set_cons_succ, List.set_cons_zero]
        refine oneH (i := 7) (by kernel_rfl) ?_
        obtain ⟨vT, X5, ra_, o_, bW, fr_⟩ := app_fresh 22 g2 G2.row vt ts ((HS.out.sh.t).later HB) hl2.out
        refine opValueG (some 19) rfl rfl rfl vT X5 (run_append (.tmp 16) (.tmp 18) rfl _ _ _ rfl rfl ra_) ?_
        clear ra_ G2
        have ne_ : 0 < ts.length → ∀ b b', vD.ownBlock = some b → vT.ownBlock = some b' → b ≠ b' := fun hp b b' h h' => by have := fr_ hp b' h'; have := (OD.own.lt b h).2; omega
        replace OD := OD.later bW
        replace ZA := ZA.later bW
        replace HB := belowNext HB bW
        have OT : IOwn X5 w.heap.size vT ts := o_.mono g2_ge
        clear o_ bW fr_
        refine ⟨HB, ?_⟩
        simp only [Act.put, List.setIfInBounds_toArray, List.set_cons_succ, List.set_cons_zero]
        refine takeH (i := 8) (some 20) rfl rfl (by kernel_rfl) (by kernel_rfl) (by kernel_rfl) (fun _ _ _ h => h) (gRun rfl (.agg [vD, vT].toArray) fun _ h => run_build24 (.tmp 15) (.tmp 19) rfl vD vT OD.ints.isSlice.2 OT.ints.isSlice.2 rfl rfl) HB ?_
        simp only [Act.put, List.setIfInBounds_toArray, List.set_cons_succ, List.set_cons_zero]
        refine oneH (i := 10) (by kernel_rfl) ?_
        refine opSkipZ rfl rfl rfl _ (run_storeA ag24 (.tmp 6) (.tmp 20) rfl qt 24 rfl [vD, vT] _ rfl rfl ZA.row rfl (two_one OD.ints OT.ints)) ?_
        have r_ := ZA.row.setRow [vD, vT]
        have od_ := OD.setRow ZA.row (by decide) ([vD, vT] : List Value).toArray
        have ot_ := OT.setRow ZA.row (by decide) ([vD, vT] : List Value).toArray
        have hb_ := HB.trans (((Ch.refl (· = qt) X5).setRow (Or.inl rfl) ([vD, vT] : List Value).toArray).below HB.size fun i hi e => by omega)
        obtain ⟨X6, hW_⟩ : ∃ U_ : World, U_ = X5.setRow qt ([vD, vT] : List Value).toArray := ⟨_, rfl⟩
        rw [← hW_] at r_ od_ ot_ hb_ ⊢
        clear hW_
        refine ⟨hb_, ?_⟩
        refine wpAnyH_done (by kernel_rfl) ?_ _
        exact hG X6 qt g1 g2 vD vT ⟨r_, od_, ot_, hb_, qt_ge, ne_⟩
    · refine opValueG (some 16) rfl rfl rfl _ _ (run_int0Op rfl) ?_
      have r_ : Row0 (X1.alloc (.cells #[] 3)) X1.heap.size := ⟨Row.new X1 3 []⟩
      have bW := below_alloc X1 (.cells #[] 3)
      obtain ⟨X2, hW_⟩ : ∃ U_ : World, U_ = X1.alloc (.cells #[] 3) := ⟨_, rfl⟩
      obtain ⟨g2, hq_⟩ : ∃ q, q = X1.heap.size := ⟨_, rfl⟩
      have g2_ge : w.heap.size ≤ g2 := by rw [hq_]; exact Nat.le_trans hW0_ HB.size
      rw [← hW_] at bW
      rw [← hW_, ← hq_] at r_
      rw [← hW_, ← hq_]
      clear hW_ hq_
      replace G1 := G1.later bW
      replace HB := belowNext HB bW
      have G2 : Row0 X2 g2 := r_
      clear r_ bW
      refine ⟨HB, ?_⟩
      simp only [Act.put, List.setIfInBounds_toArray, List.set_cons_succ, List.set_cons_zero]
      refine wpAnyH_all (rs := [3, 9]) (by kernel_rfl) (by decide) ?_
      intro i hi
      have hi' : i = 3 ∨ i = 9 := by simpa using hi
      clear hi
      rcases hi' with rfl | rfl
      · obtain ⟨vD, X3, ra_, o_, bW, fr_⟩ := app_fresh 22 g1 G1.row vd ds ((HS.out.sh.d).later HB) hl1.out
        refine opValueG (some 15) rfl rfl rfl vD X3 (run_append (.tmp 12) (.tmp 14) rfl _ _ _ rfl rfl ra_) ?_
        clear ra_ G1
        replace G2 := G2.later bW
        replace HB := belowNext HB bW
        have OD : IOwn X3 w.heap.size vD ds := o_.mono g1_ge
        clear o_ bW fr_
        refine ⟨HB, ?_⟩
        simp only [Act.put, List.setIfInBounds_toArray, List.set_cons_succ, List.set_cons_zero]
        refine wpAnyH_all (rs := [7, 9]) (by kernel_rfl) (by decide) ?_
        intro i hi
        have hi' : i = 7 ∨ i = 9 := by simpa using hi
        clear hi
        rcases hi' with rfl | rfl
        · obtain ⟨vT, X4, ra_, o_, bW, fr_⟩ := app_fresh 22 g2 G2.row vt ts ((HS.out.sh.t).later HB) hl2.out
          refine opValueG (some 19) rfl rfl rfl vT X4 (run_append (.tmp 16) (.tmp 18) rfl _ _ _ rfl rfl ra_) ?_
          clear ra_ G2
          have ne_ : 0 < ts.length → ∀ b b', vD.ownBlock = some b → vT.ownBlock = some b' → b ≠ b' := fun hp b b' h h' => by have := fr_ hp b' h'; have := (OD.own.lt b h).2; omega
          replace OD := OD.later bW
          replace HB := belowNext HB bW
          have OT : IOwn X4 w.heap.size vT ts := o_.mono g2_ge
          clear o_ bW fr_
          refine ⟨HB, ?_⟩
          simp only [Act.put, List.setIfInBounds_toArray, List.set_cons_succ, List.set_cons_zero]
          refine takeH (i := 8) (some 20) rfl rfl (by kernel_rfl) (by kernel_rfl) (by kernel_rfl) (fun _ _ _ h => h) (gRun rfl (.agg [vD, vT].toArray) fun _ h => run_build24 (.tmp 15) (.tmp 19) rfl vD vT OD.ints.isSlice.2 OT.ints.isSlice.2 rfl rfl) HB ?_
          simp only [Act.put, List.setIfInBounds_toArray, List.set_cons_succ, List.set_cons_zero]
          refine oneH (i := 9) (by kernel_rfl) ?_
          refine opValueG (some 6) rfl rfl rfl (ptr X4.heap.size) _ (run_allocA [Value.slice none 0 0, .slice none 0 0] zero24 rfl) ?_
          have r_ : RowZ (X4.alloc (.cells ([Value.slice none 0 0, .slice none 0 0]).toArray 24)) X4.heap.size := ⟨Row.new X4 24 [Value.slice none 0 0, .slice none 0 0]⟩
          have bW := below_alloc X4 (.cells ([Value.slice none 0 0, .slice none 0 0]).toArray 24)
          obtain ⟨X5, hW_⟩ : ∃ U_ : World, U_ = X4.alloc (.cells ([Value.slice none 0 0, .slice none 0 0]).toArray 24) := ⟨_, rfl⟩
          obtain ⟨qt, hq_⟩ : ∃ q, q = X4.heap.size := ⟨_, rfl⟩
          have qt_ge : u3.heap.size ≤ qt := by rw [hq_]; exact HB.size
          rw [← hW_] at bW
          rw [← hW_, ← hq_] at r_
          rw [← hW_, ← hq_]
          clear hW_ hq_
          replace OD := OD.later bW
          replace OT := OT.later bW
          replace HB := belowNext HB bW
          have ZA : RowZ X5 qt := r_
          clear r_ bW
          refine ⟨HB, ?_⟩
          simp only [Act.put, List.setIfInBounds_toArray, List.set_cons_succ, List.set_cons_zero]
          refine oneH (i := 10) (by kernel_rfl) ?_
          refine opSkipZ rfl rfl rfl _ (run_storeA ag24 (.tmp 6) (.tmp 20) rfl qt 24 rfl [vD, vT] _ rfl rfl ZA.row rfl (two_one OD.ints OT.ints)) ?_
          have r_ := ZA.row.setRow [vD, vT]
          have od_ := OD.setRow ZA.row (by decide) ([vD, vT] : List Value).toArray
          have ot_ := OT.setRow ZA.row (by decide) ([vD, vT] : List Value).toArray
          have hb_ := HB.trans (((Ch.refl (· = qt) X5).setRow (Or.inl rfl) ([vD, vT] : List Value).toArray).below HB.size fun i hi e => by omega)
          obtain ⟨X6, hW_⟩ : ∃ U_ : World, U_ = X5.setRow qt ([vD, vT] : List Value).toArray := ⟨_, rfl⟩
          rw [← hW_] at r_ od_ ot_ hb_ ⊢
          clear hW_
          refine ⟨hb_, ?_⟩
          refine wpAnyH_done (by kernel_rfl) ?_ _
          exact hG X6 qt g1 g2 vD vT ⟨r_, od_, ot_, hb_, qt_ge, ne_⟩
        · refine opValueG (some 6) rfl rfl rfl (ptr X3.heap.size) _ (run_allocA [Value.slice none 0 0, .slice none 0 0] zero24 rfl) ?_
          have r_ : RowZ (X3.alloc (.cells ([Value.slice none 0 0, .slice none 0 0]).toArray 24)) X3.heap.size := ⟨Row.new X3 24 [Value.slice none 0 0, .slice none 0 0]⟩
          have bW := below_alloc X3 (.cells ([Value.slice none 0 0, .slice none 0 0]).toArray 24)
          obtain ⟨X4, hW_⟩ : ∃ U_ : World, U_ = X3.alloc (.cells ([Value.slice none 0 0, .slice none 0 0]).toArray 24) := ⟨_, rfl⟩
          obtain ⟨qt, hq_⟩ : ∃ q, q = X3.heap.size := ⟨_, rfl⟩
          have qt_ge : u3.heap.size ≤ qt := by rw [hq_]; exact HB.size
          rw [← hW_] at bW
          rw [← hW_, ← hq_] at r_
          rw [← hW_, ← hq_]
          clear hW_ hq_
          replace G2 := G2.later bW
          replace OD := OD.later bW
          replace HB := belowNext HB bW
          have ZA : RowZ X4 qt := r_
          clear r_ bW
          refine ⟨HB, ?_⟩
          simp only [Act.put, List.setIfInBounds_toArray, List.set_cons_succ, List.set_cons_zero]
          refine oneH (i := 7) (by kernel_rfl) ?_
          obtain ⟨vT, X5, ra_, o_, bW, fr_⟩ := app_fresh 22 g2 G2.row vt ts ((HS.out.sh.t).later HB) hl2.out
          refine opValueG (some 19) rfl rfl rfl vT X5 (run_append (.tmp 16) (.tmp 18) rfl _ _ _ rfl rfl ra_) ?_
          clear ra_ G2
          have ne_ : 0 < ts.length → ∀ b b', vD.ownBlock = some b → vT.ownBlock = some b' → b ≠ b' := fun hp b b' h h' => by have := fr_ hp b' h'; have := (OD.own.lt b h).2; omega
          replace OD := OD.later bW
          replace ZA := ZA.later bW
          replace HB := belowNext HB bW
          have OT : IOwn X5 w.heap.size vT ts := o_.mono g2_ge
          clear o_ bW fr_
          refine ⟨HB, ?_⟩
          simp only [Act.put, List.setIfInBounds_toArray, List.set_cons_succ, List.set_cons_zero]
          refine takeH (i := 8) (some 20) rfl rfl (by kernel_rfl) (by kernel_rfl) (by kernel_rfl) (fun _ _ _ h => h) (gRun rfl (.agg [vD, vT].toArray) fun _ h => run_build24 (.tmp 15) (.tmp 19) rfl vD vT OD.ints.isSlice.2 OT.ints.isSlice.2 rfl rfl) HB ?_
          simp only [Act.put, List.setIfInBounds_toArray, List.set_cons_succ, List.set_cons_zero]
          refine oneH (i := 10) (by kernel_rfl) ?_
          refine opSkipZ rfl rfl rfl _ (run_storeA ag24 (.tmp 6) (.tmp 20) rfl qt 24 rfl [vD, vT] _ rfl rfl ZA.row rfl (two_one OD.ints OT.ints)) ?_
          have r_ := ZA.row.setRow [vD, vT]
          have od_ := OD.setRow ZA.row (by decide) ([vD, vT] : List Value).toArray
          have ot_ := OT.setRow ZA.row (by decide) ([vD, vT] : List Value).toArray
          have hb_ := HB.trans (((Ch.refl (· = qt) X5).setRow (Or.inl rfl) ([vD, vT] : List Value).toArray).below HB.size fun i hi e => by omega)
          obtain ⟨X6, hW_⟩ : ∃ U_ : World, U_ = X5.setRow qt ([vD, vT] : List Value).toArray := ⟨_, rfl⟩
          rw [← hW_] at r_ od_ ot_ hb_ ⊢
          clear hW_
          refine ⟨hb_, ?_⟩
          refine wpAnyH_done (by kernel_rfl) ?_ _
          exact hG X6 qt g1 g2 vD vT ⟨r_, od_, ot_, hb_, qt_ge, ne_⟩
      · refine opValueG (some 6) rfl rfl rfl (ptr X2.heap.size) _ (run_allocA [Value.slice none 0 0, .slice none 0 0] zero24 rfl) ?_
        have r_ : RowZ (X2.alloc (.cells ([Value.slice none 0 0, .slice none 0 0]).toArray 24)) X2.heap.size := ⟨Row.new X2 24 [Value.slice none 0 0, .slice none 0 0]⟩
        have bW := below_alloc X2 (.cells ([Value.slice none 0 0, .slice none 0 0]).toArray 24)
        obtain ⟨X3, hW_⟩ : ∃ U_ : World, U_ = X2.alloc (.cells ([Value.slice none 0 0, .slice none 0 0]).toArray 24) := ⟨_, rfl⟩
        obtain ⟨qt, hq_⟩ : ∃ q, q = X2.heap.size := ⟨_, rfl⟩
        have qt_ge : u3.heap.size ≤ qt := by rw [hq_]; exact HB.size
        rw [← hW_] at bW
        rw [← hW_, ← hq_] at r_
        rw [← hW_, ← hq_]
        clear hW_ hq_
        replace G1 := G1.later bW
        replace G2 := G2.later bW
        replace HB := belowNext HB bW
        have ZA : RowZ X3 qt := r_
        clear r_ bW
        refine ⟨HB, ?_⟩
        simp only [Act.put, List.setIfInBounds_toArray, List.set_cons_succ, List.set_cons_zero]
        refine oneH (i := 3) (by kernel_rfl) ?_
        obtain ⟨vD, X4, ra_, o_, bW, fr_⟩ := app_fresh 22 g1 G1.row vd ds ((HS.out.sh.d).later HB) hl1.out
        refine opValueG (some 15) rfl rfl rfl vD X4 (run_append (.tmp 12) (.tmp 14) rfl _ _ _ rfl rfl ra_) ?_
        clear ra_ G1
        replace G2 := G2.later bW
        replace ZA := ZA.later bW
        replace HB := belowNext HB bW
        have OD : IOwn X4 w.heap.size vD ds := o_.mono g1_ge
        clear o_ bW fr_
        refine ⟨HB, ?_⟩
        simp only [Act.put, List.setIfInBounds_toArray, List.set_cons_succ, List.set_cons_zero]
        refine oneH (i := 7) (by kernel_rfl) ?_
        obtain ⟨vT, X5, ra_, o_, bW, fr_⟩ := app_fresh 22 g2 G2.row vt ts ((HS.out.sh.t).later HB) hl2.out
        refine opValueG (some 19) rfl rfl rfl vT X5 (run_append (.tmp 16) (.tmp 18) rfl _ _ _ rfl rfl ra_) ?_
        clear ra_ G2
        have ne_ : 0 < ts.length → ∀ b b', vD.ownBlock = some b → vT.ownBlock = some b' → b ≠ b' := fun hp b b' h h' => by have := fr_ hp b' h'; have := (OD.own.lt b h).2; omega
        replace OD := OD.later bW
        replace ZA := ZA.later bW
        replace HB := belowNext HB bW
        have OT : IOwn X5 w.heap.size vT ts := o_.mono g2_ge
        clear o_ bW fr_
        refine ⟨HB, ?_⟩
        simp only [Act.put, List.setIfInBounds_toArray, List.set_cons_succ, List.set_cons_zero]
        refine takeH (i := 8) (some 20) rfl rfl (by kernel_rfl) (by kernel_rfl) (by kernel_rfl) (fun _ _ _ h => h) (gRun rfl (.agg [vD, vT].toArray) fun _ h => run_build24 (.tmp 15) (.tmp 19) rfl vD vT OD.ints.isSlice.2 OT.ints.isSlice.2 rfl rfl) HB ?_
        simp only [Act.put, List.setIfInBounds_toArray, List.set_cons_succ, List.set_cons_zero]
        refine oneH (i := 10) (by kernel_rfl) ?_
        refine opSkipZ rfl rfl rfl _ (run_storeA ag24 (.tmp 6) (.tmp 20) rfl qt 24 rfl [vD, vT] _ rfl rfl ZA.row rfl (two_one OD.ints OT.ints)) ?_
        have r_ := ZA.row.setRow [vD, vT]
        have od_ := OD.setRow ZA.row (by decide) ([vD, vT] : List Value).toArray
        have ot_ := OT.setRow ZA.row (by decide) ([vD, vT] : List Value).toArray
        have hb_ := HB.trans (((Ch.refl (· = qt) X5).setRow (Or.inl rfl) ([vD, vT] : List Value).toArray).below HB.size fun i hi e => by omega)
        obtain ⟨X6, hW_⟩ : ∃ U_ : World, U_ = X5.setRow qt ([vD, vT] : List Value).toArray := ⟨_, rfl⟩
        rw [← hW_] at r_ od_ ot_ hb_ ⊢
        clear hW_
        refine ⟨hb_, ?_⟩
        refine wpAnyH_done (by kernel_rfl) ?_ _
        exact hG X6 qt g1 g2 vD vT ⟨r_, od_, ot_, hb_, qt_ge, ne_⟩
    · refine opValueG (some 6) rfl rfl rfl (ptr X1.heap.size) _ (run_allocA [Value.slice none 0 0, .slice none 0 0] zero24 rfl) ?_
      have r_ : RowZ (X1.alloc (.cells ([Value.slice none 0 0, .slice none 0 0]).toArray 24)) X1.heap.size := ⟨Row.new X1 24 [Value.slice none 0 0, .slice none 0 0]⟩
      have bW := below_alloc X1 (.cells ([Value.slice none 0 0, .slice none 0 0]).toArray 24)
      obtain ⟨X2, hW_⟩ : ∃ U_ : World, U_ = X1.alloc (.cells ([Value.slice none 0 0, .slice none 0 0]).toArray 24) := ⟨_, rfl⟩
      obtain ⟨qt, hq_⟩ : ∃ q, q = X1.heap.size := ⟨_, rfl⟩
      have qt_ge : u3.heap.size ≤ qt := by rw [hq_]; exact HB.size
      rw [← hW_] at bW
      rw [← hW_, ← hq_] at r_
      rw [← hW_, ← hq_]
      clear hW_ hq_
      replace G1 := G1.later bW
      replace HB := belowNext HB bW
      have ZA : RowZ X2 qt := r_
      clear r_ bW
      refine ⟨HB, ?_⟩
      simp only [Act.put, List.setIfInBounds_toArray, List.set_cons_succ, List.set_cons_zero]
      refine wpAnyH_all (rs := [3, 4]) (by kernel_rfl) (by decide) ?_
      intro i hi
      have hi' : i = 3 ∨ i = 4 := by simpa using hi
      clear hi
      rcases hi' with rfl | rfl
      · obtain ⟨vD, X3, ra_, o_, bW, fr_⟩ := app_fresh 22 g1 G1.row vd ds ((HS.out.sh.d).later HB) hl1.out
        refine opValueG (some 15) rfl rfl rfl vD X3 (run_append (.tmp 12) (.tmp 14) rfl _ _ _ rfl rfl ra_) ?_
        clear ra_ G1
        replace ZA := ZA.later bW
        replace HB := belowNext HB bW
        have OD : IOwn X3 w.heap.size vD ds := o_.mono g1_ge
        clear o_ bW fr_
        refine ⟨HB, ?_⟩
        simp only [Act.put, List.setIfInBounds_toArray, List.set_cons_succ, List.set_cons_zero]
        refine oneH (i := 4) (by kernel_rfl) ?_
        refine opValueG (some 16) rfl rfl rfl _ _ (run_int0Op rfl) ?_
        have r_ : Row0 (X3.alloc (.cells #[] 3)) X3.heap.size := ⟨Row.new X3 3 []⟩
        have bW := below_alloc X3 (.cells #[] 3)
        obtain ⟨X4, hW_⟩ : ∃ U_ : World, U_ = X3.alloc (.cells #[] 3) := ⟨_, rfl⟩
        obtain ⟨g2, hq_⟩ : ∃ q, q = X3.heap.size := ⟨_, rfl⟩
        have g2_ge : w.heap.size ≤ g2 := by rw [hq_]; exact Nat.le_trans hW0_ HB.size
        rw [← hW_] at bW
        rw [← hW_, ← hq_] at r_
        rw [← hW_, ← hq_]
        clear hW_ hq_
        replace OD := OD.later bW
        replace ZA := ZA.later bW
        replace HB := belowNext HB bW
        have G2 : Row0 X4 g2 := r_
        clear r_ bW
        refine ⟨HB, ?_⟩
        simp only [Act.put, List.setIfInBounds_toArray, List.set_cons_succ, List.set_cons_zero]
        refine oneH (i := 7) (by kernel_rfl) ?_
        obtain ⟨vT, X5, ra_, o_, bW, fr_⟩ := app_fresh 22 g2 G2.row vt ts ((HS.out.sh.t).later HB) hl2.out
        refine opValueG (some 19) rfl rfl rfl vT X5 (run_append (.tmp 16) (.tmp 18) rfl _ _ _ rfl rfl ra_) ?_
        clear ra_ G2
        have ne_ : 0 < ts.length → ∀ b b', vD.ownBlock = some b → vT.ownBlock = some b' → b ≠ b' := fun hp b b' h h' => by have := fr_ hp b' h'; have := (OD.own.lt b h).2; omega
        replace OD := OD.later bW
        replace ZA := ZA.later bW
        replace HB := belowNext HB bW
        have OT : IOwn X5 w.heap.size vT ts := o_.mono g2_ge
        clear o_ bW fr_
        refine ⟨HB, ?_⟩
        simp only [Act.put, List.setIfInBounds_toArray, List.set_cons_succ, List.set_cons_zero]
        refine takeH (i := 8) (some 20) rfl rfl (by kernel_rfl) (by kernel_rfl) (by kernel_rfl) (fun _ _ _ h => h) (gRun rfl (.agg [vD, vT].toArray) fun _ h => run_build24 (.tmp 15) (.tmp 19) rfl vD vT OD.ints.isSlice.2 OT.ints.isSlice.2 rfl rfl) HB ?_
        simp only [Act.put, List.setIfInBounds_toArray, List.set_cons_succ, List.set_cons_zero]
        refine oneH (i := 10) (by kernel_rfl) ?_
        refine opSkipZ rfl rfl rfl _ (run_storeA ag24 (.tmp 6) (.tmp 20) rfl qt 24 rfl [vD, vT] _ rfl rfl ZA.row rfl (two_one OD.ints OT.ints)) ?_
        have r_ := ZA.row.setRow [vD, vT]
        have od_ := OD.setRow ZA.row (by decide) ([vD, vT] : List Value).toArray
        have ot_ := OT.setRow ZA.row (by decide) ([vD, vT] : List Value).toArray
        have hb_ := HB.trans (((Ch.refl (· = qt) X5).setRow (Or.inl rfl) ([vD, vT] : List Value).toArray).below HB.size fun i hi e => by omega)
        obtain ⟨X6, hW_⟩ : ∃ U_ : World, U_ = X5.setRow qt ([vD, vT] : List Value).toArray := ⟨_, rfl⟩
        rw [← hW_] at r_ od_ ot_ hb_ ⊢
        clear hW_
        refine ⟨hb_, ?_⟩
        refine wpAnyH_done (by kernel_rfl) ?_ _
        exact hG X6 qt g1 g2 vD vT ⟨r_, od_, ot_, hb_, qt_ge, ne_⟩
      · refine opValueG (some 16) rfl rfl rfl _ _ (run_int0Op rfl) ?_
        have r_ : Row0 (X2.alloc (.cells #[] 3)) X2.heap.size := ⟨Row.new X2 3 []⟩
        have bW := below_alloc X2 (.cells #[] 3)
        obtain ⟨X3, hW_⟩ : ∃ U_ : World, U_ = X2.alloc (.cells #[] 3) := ⟨_, rfl⟩
        obtain ⟨g2, hq_⟩ : ∃ q, q = X2.heap.size := ⟨_, rfl⟩
        have g2_ge : w.heap.size ≤ g2 := by rw [hq_]; exact Nat.le_trans hW0_ HB.size
        rw [← hW_] at bW
        rw [← hW_, ← hq_] at r_
        rw [← hW_, ← hq_]
        clear hW_ hq_
        replace G1 := G1.later bW
        replace ZA := ZA.later bW
        replace HB := belowNext HB bW
        have G2 : Row0 X3 g2 := r_
        clear r_ bW
        refine ⟨HB, ?_⟩
        simp only [Act.put, List.setIfInBounds_toArray, List.set_cons_succ, List.set_cons_zero]
        refine oneH (i := 3) (by kernel_rfl) ?_
        obtain ⟨vD, X4, ra_, o_, bW, fr_⟩ := app_fresh 22 g1 G1.row vd ds ((HS.out.sh.d).later HB) hl1.out
        refine opValueG (some 15) rfl rfl rfl vD X4 (run_append (.tmp 12) (.tmp 14) rfl _ _ _ rfl rfl ra_) ?_
        clear ra_ G1
        replace G2 := G2.later bW
        replace ZA := ZA.later bW
        replace HB := belowNext HB bW
        have OD : IOwn X4 w.heap.size vD ds := o_.mono g1_ge
        clear o_ bW fr_
        refine ⟨HB, ?_⟩
        simp only [Act.put, List.setIfInBounds_toArray, List.set_cons_succ, List.set_cons_zero]
        refine oneH (i := 7) (by kernel_rfl) ?_
        obtain ⟨vT, X5, ra_, o_, bW, fr_⟩ := app_fresh 22 g2 G2.row vt ts ((HS.out.sh.t).later HB) hl2.out
        refine opValueG (some 19) rfl rfl rfl vT X5 (run_append (.tmp 16) (.tmp 18) rfl _ _ _ rfl rfl ra_) ?_
        clear ra_ G2
        have ne_ : 0 < ts.length → ∀ b b', vD.ownBlock = some b → vT.ownBlock = some b' → b ≠ b' := fun hp b b' h h' => by have := fr_ hp b' h'; have := (OD.own.lt b h).2; omega
        replace OD := OD.later bW
        replace ZA := ZA.later bW
        replace HB := belowNext HB bW
        have OT : IOwn X5 w.heap.size vT ts := o_.mono g2_ge
        clear o_ bW fr_
        refine ⟨HB, ?_⟩
        simp only [Act.put, List.setIfInBounds_toArray, List.set_cons_succ, List.set_cons_zero]
        refine takeH (i := 8) (some 20) rfl rfl (by kernel_rfl) (by kernel_rfl) (by kernel_rfl) (fun _ _ _ h => h) (gRun rfl (.agg [vD, vT].toArray) fun _ h => run_build24 (.tmp 15) (.tmp 19) rfl vD vT OD.ints.isSlice.2 OT.ints.isSlice.2 rfl rfl) HB ?_
        simp only [Act.put, List.setIfInBounds_toArray, List.set_cons_succ, List.set_cons_zero]
        refine oneH (i := 10) (by kernel_rfl) ?_
        refine opSkipZ rfl rfl rfl _ (run_storeA ag24 (.tmp 6) (.tmp 20) rfl qt 24 rfl [vD, vT] _ rfl rfl ZA.row rfl (two_one OD.ints OT.ints)) ?_
        have r_ := ZA.row.setRow [vD, vT]
        have od_ := OD.setRow ZA.row (by decide) ([vD, vT] : List Value).toArray
        have ot_ := OT.setRow ZA.row (by decide) ([vD, vT] : List Value).toArray
        have hb_ := HB.trans (((Ch.refl (· = qt) X5).setRow (Or.inl rfl) ([vD, vT] : List Value).toArray).below HB.size fun i hi e => by omega)
        obtain ⟨X6, hW_⟩ : ∃ U_ : World, U_ = X5.setRow qt ([vD, vT] : List Value).toArray := ⟨_, rfl⟩
        rw [← hW_] at r_ od_ ot_ hb_ ⊢
        clear hW_
        refine ⟨hb_, ?_⟩
        refine wpAnyH_done (by kernel_rfl) ?_ _
        exact hG X6 qt g1 g2 vD vT ⟨r_, od_, ot_, hb_, qt_ge, ne_⟩
  · refine opValueG (some 16) rfl rfl rfl _ _ (run_int0Op rfl) ?_
    have r_ : Row0 (X0.alloc (.cells #[] 3)) X0.heap.size := ⟨Row.new X0 3 []⟩
    have bW := below_alloc X0 (.cells #[] 3)
    obtain ⟨X1, hW_⟩ : ∃ U_ : World, U_ = X0.alloc (.cells #[] 3) := ⟨_, rfl⟩
    obtain ⟨g2, hq_⟩ : ∃ q, q = X0.heap.size := ⟨_, rfl⟩
    have g2_ge : w.heap.size ≤ g2 := by rw [hq_]; exact Nat.le_trans hW0_ HB.size
    rw [← hW_] at bW
    rw [← hW_, ← hq_] at r_
    rw [← hW_, ← hq_]
    clear hW_ hq_
    replace HB := belowNext HB bW
    have G2 : Row0 X1 g2 := r_
    clear r_ bW
    refine ⟨HB, ?_⟩
    simp only [Act.put, List.setIfInBounds_toArray, List.set_cons_succ, List.set_cons_zero]
    refine wpAnyH_all (rs := [0, 9]) (by kernel_rfl) (by decide) ?_
    intro i hi
    have hi' : i = 0 ∨ i = 9 := by simpa using hi
    clear hi
    rcases hi' with rfl | rfl
    · refine opValueG (some 12) rfl rfl rfl _ _ (run_int0Op rfl) ?_
      have r_ : Row0 (X1.alloc (.cells #[] 3)) X1.heap.size := ⟨Row.new X1 3 []⟩
      have bW := below_alloc X1 (.cells #[] 3)
      obtain ⟨X2, hW_⟩ : ∃ U_ : World, U_ = X1.alloc (.cells #[] 3) := ⟨_, rfl⟩
      obtain ⟨g1, hq_⟩ : ∃ q, q = X1.heap.size := ⟨_, rfl⟩
      have g1_ge : w.heap.size ≤ g1 := by rw [hq_]; exact Nat.le_trans hW0_ HB.size
      rw [← hW_] at bW
      rw [← hW_, ← hq_] at r_
      rw [← hW_, ← hq_]
      clear hW_ hq_
      replace G2 := G2.later bW
      replace HB := belowNext HB bW
      have G1 : Row0 X2 g1 := r_
      clear r_ bW
      refine ⟨HB, ?_⟩
      simp only [Act.put, List.setIfInBounds_toArray, List.set_cons_succ, List.set_cons_zero]
      refine wpAnyH_all (rs := [3, 9]) (by kernel_rfl) (by decide) ?_
      intro i hi
      have hi' : i = 3 ∨ i = 9 := by simpa using hi
      clear hi
      rcases hi' with rfl | rfl
      · obtain ⟨vD, X3, ra_, o_, bW, fr_⟩ := app_fresh 22 g1 G1.row vd ds ((HS.out.sh.d).later HB) hl1.out
        refine opValueG (some 15) rfl rfl rfl vD X3 (run_append (.tmp 12) (.tmp 14) rfl _ _ _ rfl rfl ra_) ?_
        clear ra_ G1
        replace G2 := G2.later bW
        replace HB := belowNext HB bW
        have OD : IOwn X3 w.heap.size vD ds := o_.mono g1_ge
        clear o_ bW fr_
        refine ⟨HB, ?_⟩
        simp only [Act.put, List.setIfInBounds_toArray, List.set_cons_succ, List.set_cons_zero]
        refine wpAnyH_all (rs := [7, 9]) (by kernel_rfl) (by decide) ?_
        intro i hi
        have hi' : i = 7 ∨ i = 9 := by simpa using hi
        clear hi
        rcases hi' with rfl | rfl
        · obtain ⟨vT, X4, ra_, o_, bW, fr_⟩ := app_fresh 22 g2 G2.row vt ts ((HS.out.sh.t).later HB) hl2.out
          refine opValueG (some 19) rfl rfl rfl vT X4 (run_append (.tmp 16) (.tmp 18) rfl _ _ _ rfl rfl ra_) ?_
          clear ra_ G2
          have ne_ : 0 < ts.length → ∀ b b', vD.ownBlock = some b → vT.ownBlock = some b' → b ≠ b' := fun hp b b' h h' => by have := fr_ hp b' h'; have := (OD.own.lt b h).2; omega
          replace OD := OD.later bW
          replace HB := belowNext HB bW
          have OT : IOwn X4 w.heap.size vT ts := o_.mono g2_ge
          clear o_ bW fr_
          refine ⟨HB, ?_⟩
          simp only [Act.put, List.setIfInBounds_toArray, List.set_cons_succ, List.set_cons_zero]
          refine takeH (i := 8) (some 20) rfl rfl (by kernel_rfl) (by kernel_rfl) (by kernel_rfl) (fun _ _ _ h => h) (gRun rfl (.agg [vD, vT].toArray) fun _ h => run_build24 (.tmp 15) (.tmp 19) rfl vD vT OD.ints.isSlice.2 OT.ints.isSlice.2 rfl rfl) HB ?_
          simp only [Act.put, List.setIfInBounds_toArray, List.set_cons_succ, List.set_cons_zero]
          refine oneH (i := 9) (by kernel_rfl) ?_
          refine opValueG (some 6) rfl rfl rfl (ptr X4.heap.size) _ (run_allocA [Value.slice none 0 0, .slice none 0 0] zero24 rfl) ?_
          have r_ : RowZ (X4.alloc (.cells ([Value.slice none 0 0, .slice none 0 0]).toArray 24)) X4.heap.size := ⟨Row.new X4 24 [Value.slice none 0 0, .slice none 0 0]⟩
          have bW := below_alloc X4 (.cells ([Value.slice none 0 0, .slice none 0 0]).toArray 24)
          obtain ⟨X5, hW_⟩ : ∃ U_ : World, U_ = X4.alloc (.cells ([Value.slice none 0 0, .slice none 0 0]).toArray 24) := ⟨_, rfl⟩
          obtain ⟨qt, hq_⟩ : ∃ q, q = X4.heap.size := ⟨_, rfl⟩
          have qt_ge : u3.heap.size ≤ qt := by rw [hq_]; exact HB.size
          rw [← hW_] at bW
          rw [← hW_, ← hq_] at r_
          rw [← hW_, ← hq_]
          clear hW_ hq_
          replace OD := OD.later bW
          replace OT := OT.later bW
          replace HB := belowNext HB bW
          have ZA : RowZ X5 qt := r_
          clear r_ bW
          refine ⟨HB, ?_⟩
          simp only [Act.put, List.setIfInBounds_toArray, List.set_cons_succ, List.set_cons_zero]
          refine oneH (i := 10) (by kernel_rfl) ?_
          refine opSkipZ rfl rfl rfl _ (run_storeA ag24 (.tmp 6) (.tmp 20) rfl qt 24 rfl [vD, vT] _ rfl rfl ZA.row rfl (two_one OD.ints OT.ints)) ?_
          have r_ := ZA.row.setRow [vD, vT]
          have od_ := OD.setRow ZA.row (by decide) ([vD, vT] : List Value).toArray
          have ot_ := OT.setRow ZA.row (by decide) ([vD, vT] : List Value).toArray
          have hb_ := HB.trans (((Ch.refl (· = qt) X5).setRow (Or.inl rfl) ([vD, vT] : List Value).toArray).below HB.size fun i hi e => by omega)
          obtain ⟨X6, hW_⟩ : ∃ U_ : World, U_ = X5.setRow qt ([vD, vT] : List Value).toArray := ⟨_, rfl⟩
          rw [← hW_] at r_ od_ ot_ hb_ ⊢
          clear hW_
          refine ⟨hb_, ?_⟩
          refine wpAnyH_done (by kernel_rfl) ?_ _
          exact hG X6 qt g1 g2 vD vT ⟨r_, od_, ot_, hb_, qt_ge, ne_⟩
        · refine opValueG (some 6) rfl rfl rfl (ptr X3.heap.size) _ (run_allocA [Value.slice none 0 0, .slice none 0 0] zero24 rfl) ?_
          have r_ : RowZ (X3.alloc (.cells ([Value.slice none 0 0, .slice none 0 0]).toArray 24)) X3.heap.size := ⟨Row.new X3 24 [Value.slice none 0 0, .slice none 0 0]⟩
          have bW := below_alloc X3 (.cells ([Value.slice none 0 0, .slice none 0 0]).toArray 24)
          obtain ⟨X4, hW_⟩ : ∃ U_ : World, U_ = X3.alloc (.cells ([Value.slice none 0 0, .slice none 0 0]).toArray 24) := ⟨_, rfl⟩
          obtain ⟨qt, hq_⟩ : ∃ q, q = X3.heap.size := ⟨_, rfl⟩
          have qt_ge : u3.heap.size ≤ qt := by rw [hq_]; exact HB.size
          rw [← hW_] at bW
          rw [← hW_, ← hq_] at r_
          rw [← hW_, ← hq_]
          clear hW_ hq_
          replace G2 := G2.later bW
          replace OD := OD.later bW
          replace HB := belowNext HB bW
          have ZA : RowZ X4 qt := r_
          clear r_ bW
          refine ⟨HB, ?_⟩
          simp only [Act.put, List.setIfInBounds_toArray, List.set_cons_succ, List.set_cons_zero]
          refine oneH (i := 7) (by kernel_rfl) ?_
          obtain ⟨vT, X5, ra_, o_, bW, fr_⟩ := app_fresh 22 g2 G2.row vt ts ((HS.out.sh.t).later HB) hl2.out
          refine opValueG (some 19) rfl rfl rfl vT X5 (run_append (.tmp 16) (.tmp 18) rfl _ _ _ rfl rfl ra_) ?_
          clear ra_ G2
          have ne_ : 0 < ts.length → ∀ b b', vD.ownBlock = some b → vT.ownBlock = some b' → b ≠ b' := fun hp b b' h h' => by have := fr_ hp b' h'; have := (OD.own.lt b h).2; omega
          replace OD := OD.later bW
          replace ZA := ZA.later bW
          replace HB := belowNext HB bW
          have OT : IOwn X5 w.heap.size vT ts := o_.mono g2_ge
          clear o_ bW fr_
          refine ⟨HB, ?_⟩
          simp only [Act.put, List.setIfInBounds_toArray, List.set_cons_succ, List.set_cons_zero]
          refine takeH (i := 8) (some 20) rfl rfl (by kernel_rfl) (by kernel_rfl) (by kernel_rfl) (fun _ _ _ h => h) (gRun rfl (.agg [vD, vT].toArray) fun _ h => run_build24 (.tmp 15) (.tmp 19) rfl vD vT OD.ints.isSlice.2 OT.ints.isSlice.2 rfl rfl) HB ?_
          simp only [Act.put, List.setIfInBounds_toArray, List.set_cons_succ, List.set_cons_zero]
          refine oneH (i := 10) (by kernel_rfl) ?_
          refine opSkipZ rfl rfl rfl _ (run_storeA ag24 (.tmp 6) (.tmp 20) rfl qt 24 rfl [vD, vT] _ rfl rfl ZA.row rfl (two_one OD.ints OT.ints)) ?_
          have r_ := ZA.row.setRow [vD, vT]
          have od_ := OD.setRow ZA.row (by decide) ([vD, vT] : List Value).toArray
          have ot_ := OT.setRow ZA.row (by decide) ([vD, vT] : List Value).toArray
          have hb_ := HB.trans (((Ch.refl (· = qt) X5).setRow (Or.inl rfl) ([vD, vT] : List Value).toArray).below HB.size fun i hi e => by omega)
          obtain ⟨X6, hW_⟩ : ∃ U_ : World, U_ = X5.setRow qt ([vD, vT] : List Value).toArray := ⟨_, rfl⟩
          rw [← hW_] at r_ od_ ot_ hb_ ⊢
          clear hW_
          refine ⟨hb_, ?_⟩
          refine wpAnyH_done (by kernel_rfl) ?_ _
          exact hG X6 qt g1 g2 vD vT ⟨r_, od_, ot_, hb_, qt_ge, ne_⟩
      · refine opValueG (some 6) rfl rfl rfl (ptr X2.heap.size) _ (run_allocA [Value.slice none 0 0, .slice none 0 0] zero24 rfl) ?_
        have r_ : RowZ (X2.alloc (.cells ([Value.slice none 0 0, .slice none 0 0]).toArray 24)) X2.heap.size := ⟨Row.new X2 24 [Value.slice none 0 0, .slice none 0 0]⟩
        have bW := below_alloc X2 (.cells ([Value.slice none 0 0, .slice none 0 0]).toArray 24)
        obtain ⟨X3, hW_⟩ : ∃ U_ : World, U_ = X2.alloc (.cells ([Value.slice none 0 0, .slice none 0 0]).toArray 24) := ⟨_, rfl⟩
        obtain ⟨qt, hq_⟩ : ∃ q, q = X2.heap.size := ⟨_, rfl⟩
        have qt_ge : u3.heap.size ≤ qt := by rw [hq_]; exact HB.size
        rw [← hW_] at bW
        rw [← hW_, ← hq_] at r_
        rw [← hW_, ← hq_]
        clear hW_ hq_
        replace G1 := G1.later bW
        replace G2 := G2.later bW
        replace HB := belowNext HB bW
        have ZA : RowZ X3 qt := r_
        clear r_ bW
        refine ⟨HB, ?_⟩
        simp only [Act.put, List.setIfInBounds_toArray, List.set_cons_succ, List.set_cons_zero]
        refine oneH (i := 3) (by kernel_rfl) ?_
        obtain ⟨vD, X4, ra_, o_, bW, fr_⟩ := app_fresh 22 g1 G1.row vd ds ((HS.out.sh.d).later HB) hl1.out
        refine opValueG (some 15) rfl rfl rfl vD X4 (run_append (.tmp 12) (.tmp 14) rfl _ _ _ rfl rfl ra_) ?_
        clear ra_ G1
        replace G2 := G2.later bW
        replace ZA := ZA.later bW
        replace HB := belowNext HB bW
        have OD : IOwn X4 w.heap.size vD ds := o_.mono g1_ge
        clear o_ bW fr_
        refine ⟨HB, ?_⟩
        simp only [Act.put, List.setIfInBounds_toArray, List.set_cons_succ, List.set_cons_zero]
        refine oneH (i := 7) (by kernel_rfl) ?_
        obtain ⟨vT, X5, ra_, o_, bW, fr_⟩ := app_fresh 22 g2 G2.row vt ts ((HS.out.sh.t).later HB) hl2.out
        refine opValueG (some 19) rfl rfl rfl vT X5 (run_append (.tmp 16) (.tmp 18) rfl _ _ _ rfl rfl ra_) ?_
        clear ra_ G2
        have ne_ : 0 < ts.length → ∀ b b', vD.ownBlock = some b → vT.ownBlock = some b' → b ≠ b' := fun hp b b' h h' => by have := fr_ hp b' h'; have := (OD.own.lt b h).2; omega
        replace OD := OD.later bW
        replace ZA := ZA.later bW
        replace HB := belowNext HB bW
        have OT : IOwn X5 w.heap.size vT ts := o_.mono g2_ge
        clear o_ bW fr_
        refine ⟨HB, ?_⟩
        simp only [Act.put, List.setIfInBounds_toArray, List.set_cons_succ, List.set_cons_zero]
        refine takeH (i := 8) (some 20) rfl rfl (by kernel_rfl) (by kernel_rfl) (by kernel_rfl) (fun _ _ _ h => h) (gRun rfl (.agg [vD, vT].toArray) fun _ h => run_build24 (.tmp 15) (.tmp 19) rfl vD vT OD.ints.isSlice.2 OT.ints.isSlice.2 rfl rfl) HB ?_
        simp only [Act.put, List.setIfInBounds_toArray, List.set_cons_succ, List.set_cons_zero]
        refine oneH (i := 10) (by kernel_rfl) ?_
        refine opSkipZ rfl rfl rfl _ (run_storeA ag24 (.tmp 6) (.tmp 20) rfl qt 24 rfl [vD, vT] _ rfl rfl ZA.row rfl (two_one OD.ints OT.ints)) ?_
        have r_ := ZA.row.setRow [vD, vT]
        have od_ := OD.setRow ZA.row (by decide) ([vD, vT] : List Value).toArray
        have ot_ := OT.setRow ZA.row (by decide) ([vD, vT] : List Value).toArray
        have hb_ := HB.trans (((Ch.refl (· = qt) X5).setRow (Or.inl rfl) ([vD, vT] : List Value).toArray).below HB.size fun i hi e => by omega)
        obtain ⟨X6, hW_⟩ : ∃ U_ : World, U_ = X5.setRow qt ([vD, vT] : List Value).toArray := ⟨_, rfl⟩
        rw [← hW_] at r_ od_ ot_ hb_ ⊢
        clear hW_
        refine ⟨hb_, ?_⟩
        refine wpAnyH_done (by kernel_rfl) ?_ _
        exact hG X6 qt g1 g2 vD vT ⟨r_, od_, ot_, hb_, qt_ge, ne_⟩
    · refine opValueG (some 6) rfl rfl rfl (ptr X1.heap.size) _ (run_allocA [Value.slice none 0 0, .slice none 0 0] zero24 rfl) ?_
      have r_ : RowZ (X1.alloc (.cells ([Value.slice none 0 0, .slice none 0 0]).toArray 24)) X1.heap.size := ⟨Row.new X1 24 [Value.slice none 0 0, .slice none 0 0]⟩
      have bW := below_alloc X1 (.cells ([Value.slice none 0 0, .slice none 0 0]).toArray 24)
      obtain ⟨X2, hW_⟩ : ∃ U_ : World, U_ = X1.alloc (.cells ([Value.slice none 0 0, .slice none 0 0]).toArray 24) := ⟨_, rfl⟩
      obtain ⟨qt, hq_⟩ : ∃ q, q = X1.heap.size := ⟨_, rfl⟩
      have qt_ge : u3.heap.size ≤ qt := by rw [hq_]; exact HB.size
      rw [← hW_] at bW
      rw [← hW_, ← hq_] at r_
      rw [← hW_, ← hq_]
      clear hW_ hq_
      replace G2 := G2.later bW
      replace HB := belowNext HB bW
      have ZA : RowZ X2 qt := r_
      clear r_ bW
      refine ⟨HB, ?_⟩
      simp only [Act.put, List.setIfInBounds_toArray, List.set_cons_succ, List.set_cons_zero]
      refine oneH (i := 0) (by kernel_rfl) ?_
      refine opValueG (some 12) rfl rfl rfl _ _ (run_int0Op rfl) ?_
      have r_ : Row0 (X2.alloc (.cells #[] 3)) X2.heap.size := ⟨Row.new X2 3 []⟩
      have bW := below_alloc X2 (.cells #[] 3)
      obtain ⟨X3, hW_⟩ : ∃ U_ : World, U_ = X2.alloc (.cells #[] 3) := ⟨_, rfl⟩
      obtain ⟨g1, hq_⟩ : ∃ q, q = X2.heap.size := ⟨_, rfl⟩
      have g1_ge : w.heap.size ≤ g1 := by rw [hq_]; exact Nat.le_trans hW0_ HB.size
      rw [← hW_] at bW
      rw [← hW_, ← hq_] at r_
      rw [← hW_, ← hq_]
      clear hW_ hq_
      replace G2 := G2.later bW
      replace ZA := ZA.later bW
      replace HB := belowNext HB bW
      have G1 : Row0 X3 g1 := r_
      clear r_ bW
      refine ⟨HB, ?_⟩
      simp only [Act.put, List.setIfInBounds_toArray, List.set_cons_succ, List.set_cons_zero]
      refine oneH (i := 3) (by kernel_rfl) ?_
      obtain ⟨vD, X4, ra_, o_, bW, fr_⟩ := app_fresh 22 g1 G1.row vd ds ((HS.out.sh.d).later HB) hl1.out
      refine opValueG (some 15) rfl rfl rfl vD X4 (run_append (.tmp 12) (.tmp 14) rfl _ _ _ rfl rfl ra_) ?_
      clear ra_ G1
      replace G2 := G2.later bW
      replace ZA := ZA.later bW
      replace HB := belowNext HB bW
      have OD : IOwn X4 w.heap.size vD ds := o_.mono g1_ge
      clear o_ bW fr_
      refine ⟨HB, ?_⟩
      simp only [Act.put, List.setIfInBounds_toArray, List.set_cons_succ, List.set_cons_zero]
      refine oneH (i := 7) (by kernel_rfl) ?_
      obtain ⟨vT, X5, ra_, o_, bW, fr_⟩ := app_fresh 22 g2 G2.row vt ts ((HS.out.sh.t).later HB) hl2.out
      refine opValueG (some 19) rfl rfl rfl vT X5 (run_append (.tmp 16) (.tmp 18) rfl _ _ _ rfl rfl ra_) ?_
      clear ra_ G2
      have ne_ : 0 < ts.length → ∀ b b', vD.ownBlock = some b → vT.ownBlock = some b' → b ≠ b' := fun hp b b' h h' => by have := fr_ hp b' h'; have := (OD.own.lt b h).2; omega
      replace OD := OD.later bW
      replace ZA := ZA.later bW
      replace HB := belowNext HB bW
      have OT : IOwn X5 w.heap.size vT ts := o_.mono g2_ge
      clear o_ bW fr_
      refine ⟨HB, ?_⟩
      simp only [Act.put, List.setIfInBounds_toArray, List.set_cons_succ, List.set_cons_zero]
      refine takeH (i := 8) (some 20) rfl rfl (by kernel_rfl) (by kernel_rfl) (by kernel_rfl) (fun _ _ _ h => h) (gRun rfl (.agg [vD, vT].toArray) fun _ h => run_build24 (.tmp 15) (.tmp 19) rfl vD vT OD.ints.isSlice.2 OT.ints.isSlice.2 rfl rfl) HB ?_
      simp only [Act.put, List.setIfInBounds_toArray, List.set_cons_succ, List.set_cons_zero]
      refine oneH (i := 10) (by kernel_rfl) ?_
      refine opSkipZ rfl rfl rfl _ (run_storeA ag24 (.tmp 6) (.tmp 20) rfl qt 24 rfl [vD, vT] _ rfl rfl ZA.row rfl (two_one OD.ints OT.ints)) ?_
      have r_ := ZA.row.setRow [vD, vT]
      have od_ := OD.setRow ZA.row (by decide) ([vD, vT] : List Value).toArray
      have ot_ := OT.setRow ZA.row (by decide) ([vD, vT] : List Value).toArray
      have hb_ := HB.trans (((Ch.refl (· = qt) X5).setRow (Or.inl rfl) ([vD, vT] : List Value).toArray).below HB.size fun i hi e => by omega)
      obtain ⟨X6, hW_⟩ : ∃ U_ : World, U_ = X5.setRow qt ([vD, vT] : List Value).toArray := ⟨_, rfl⟩
      rw [← hW_] at r_ od_ ot_ hb_ ⊢
      clear hW_
      refine ⟨hb_, ?_⟩
      refine wpAnyH_done (by kernel_rfl) ?_ _
      exact hG X6 qt g1 g2 vD vT ⟨r_, od_, ot_, hb_, qt_ge, ne_⟩
  · refine opValueG (some 6) rfl rfl rfl (ptr X0.heap.size) _ (run_allocA [Value.slice none 0 0, .slice none 0 0] zero24 rfl) ?_
    have r_ : RowZ (X0.alloc (.cells ([Value.slice none 0 0, .slice none 0 0]).toArray 24)) X0.heap.size := ⟨Row.new X0 24 [Value.slice none 0 0, .slice none 0 0]⟩
    have bW := below_alloc X0 (.cells ([Value.slice none 0 0, .slice none 0 0]).toArray 24)
    obtain ⟨X1, hW_⟩ : ∃ U_ : World, U_ = X0.alloc (.cells ([Value.slice none 0 0, .slice none 0 0]).toArray 24) := ⟨_, rfl⟩
    obtain ⟨qt, hq_⟩ : ∃ q, q = X0.heap.size := ⟨_, rfl⟩
    have qt_ge : u3.heap.size ≤ qt := by rw [hq_]; exact HB.size
    rw [← hW_] at bW
    rw [← hW_, ← hq_] at r_
    rw [← hW_, ← hq_]
    clear hW_ hq_
    replace HB := belowNext HB bW
    have ZA : RowZ X1 qt := r_
    clear r_ bW
    refine ⟨HB, ?_⟩
    simp only [Act.put, List.setIfInBounds_toArray, List.set_cons_succ, List.set_cons_zero]
    refine wpAnyH_all (rs := [0, 4]) (by kernel_rfl) (by decide) ?_
    intro i hi
    have hi' : i = 0 ∨ i = 4 := by simpa using hi
    clear hi
    rcases hi' with rfl | rfl
    · refine opValueG (some 12) rfl rfl rfl _ _ (run_int0Op rfl) ?_
      have r_ : Row0 (X1.alloc (.cells #[] 3)) X1.heap.size := ⟨Row.new X1 3 []⟩
      have bW := below_alloc X1 (.cells #[] 3)
      obtain ⟨X2, hW_⟩ : ∃ U_ : World, U_ = X1.alloc (.cells #[] 3) := ⟨_, rfl⟩
      obtain ⟨g1, hq_⟩ : ∃ q, q = X1.heap.size := ⟨_, rfl⟩
      have g1_ge : w.heap.size ≤ g1 := by rw [hq_]; exact Nat.le_trans hW0_ HB.size
      rw [← hW_] at bW
      rw [← hW_, ← hq_] at r_
      rw [← hW_, ← hq_]
      clear hW_ hq_
      replace ZA := ZA.later bW
      replace HB := belowNext HB bW
      have G1 : Row0 X2 g1 := r_
      clear r_ bW
      refine ⟨HB, ?_⟩
      simp only [Act.put, List.setIfInBounds_toArray, List.set_cons_succ, List.set_cons_zero]
      refine wpAnyH_all (rs := [3, 4]) (by kernel_rfl) (by decide) ?_
      intro i hi
      have hi' : i = 3 ∨ i = 4 := by simpa using hi
      clear hi
      rcases hi' with rfl | rfl
      · obtain ⟨vD, X3, ra_, o_, bW, fr_⟩ := app_fresh 22 g1 G1.row vd ds ((HS.out.sh.d).later HB) hl1.out
        refine opValueG (some 15) rfl rfl rfl vD X3 (run_append (.tmp 12) (.tmp 14) rfl _ _ _ rfl rfl ra_) ?_
        clear ra_ G1
        replace ZA := ZA.later bW
        replace HB := belowNext HB bW
        have OD : IOwn X3 w.heap.size vD ds := o_.mono g1_ge
        clear o_ bW fr_
        refine ⟨HB, ?_⟩
        simp only [Act.put, List.setIfInBounds_toArray, List.set_cons_succ, List.set_cons_zero]
        refine oneH (i := 4) (by kernel_rfl) ?_
        refine opValueG (some 16) rfl rfl rfl _ _ (run_int0Op rfl) ?_
        have r_ : Row0 (X3.alloc (.cells #[] 3)) X3.heap.size := ⟨Row.new X3 3 []⟩
        have bW := below_alloc X3 (.cells #[] 3)
        obtain ⟨X4, hW_⟩ : ∃ U_ : World, U_ = X3.alloc (.cells #[] 3) := ⟨_, rfl⟩
        obtain ⟨g2, hq_⟩ : ∃ q, q = X3.heap.size := ⟨_, rfl⟩
        have g2_ge : w.heap.size ≤ g2 := by rw [hq_]; exact Nat.le_trans hW0_ HB.size
        rw [← hW_] at bW
        rw [← hW_, ← hq_] at r_
        rw [← hW_, ← hq_]
        clear hW_ hq_
        replace OD := OD.later bW
        replace ZA := ZA.later bW
        replace HB := belowNext HB bW
        have G2 : Row0 X4 g2 := r_
        clear r_ bW
        refine ⟨HB, ?_⟩
        simp only [Act.put, List.setIfInBounds_toArray, List.set_cons_succ, List.set_cons_zero]
        refine oneH (i := 7) (by kernel_rfl) ?_
        obtain ⟨vT, X5, ra_, o_, bW, fr_⟩ := app_fresh 22 g2 G2.row vt ts ((HS.out.sh.t).later HB) hl2.out
        refine opValueG (some 19) rfl rfl rfl vT X5 (run_append (.tmp 16) (.tmp 18) rfl _ _ _ rfl rfl ra_) ?_
        clear ra_ G2
        have ne_ : 0 < ts.length → ∀ b b', vD.ownBlock = some b → vT.ownBlock = some b' → b ≠ b' := fun hp b b' h h' => by have := fr_ hp b' h'; have := (OD.own.lt b h).2; omega
        replace OD := OD.later bW
        replace ZA := ZA.later bW
        replace HB := belowNext HB bW
        have OT : IOwn X5 w.heap.size vT ts := o_.mono g2_ge
        clear o_ bW fr_
        refine ⟨HB, ?_⟩
        simp only [Act.put, List.setIfInBounds_toArray, List.set_cons_succ, List.set_cons_zero]
        refine takeH (i := 8) (some 20) rfl rfl (by kernel_rfl) (by kernel_rfl) (by kernel_rfl) (fun _ _ _ h => h) (gRun rfl (.agg [vD, vT].toArray) fun _ h => run_build24 (.tmp 15) (.tmp 19) rfl vD vT OD.ints.isSlice.2 OT.ints.isSlice.2 rfl rfl) HB ?_
        simp only [Act.put, List.setIfInBounds_toArray, List.set_cons_succ, List.set_cons_zero]
        refine oneH (i := 10) (by kernel_rfl) ?_
        refine opSkipZ rfl rfl rfl _ (run_storeA ag24 (.tmp 6) (.tmp 20) rfl qt 24 rfl [vD, vT] _ rfl rfl ZA.row rfl (two_one OD.ints OT.ints)) ?_
        have r_ := ZA.row.setRow [vD, vT]
        have od_ := OD.setRow ZA.row (by decide) ([vD, vT] : List Value).toArray
        have ot_ := OT.setRow ZA.row (by decide) ([vD, vT] : List Value).toArray
        have hb_ := HB.trans (((Ch.refl (· = qt) X5).setRow (Or.inl rfl) ([vD, vT] : List Value).toArray).below HB.size fun i hi e => by omega)
        obtain ⟨X6, hW_⟩ : ∃ U_ : World, U_ = X5.setRow qt ([vD, vT] : List Value).toArray := ⟨_, rfl⟩
        rw [← hW_] at r_ od_ ot_ hb_ ⊢
        clear hW_
        refine ⟨hb_, ?_⟩
        refine wpAnyH_done (by kernel_rfl) ?_ _
        exact hG X6 qt g1 g2 vD vT ⟨r_, od_, ot_, hb_, qt_ge, ne_⟩
      · refine opValueG (some 16) rfl rfl rfl _ _ (run_int0Op rfl) ?_
        have r_ : Row0 (X2.alloc (.cells #[] 3)) X2.heap.size := ⟨Row.new X2 3 []⟩
        have bW := below_alloc X2 (.cells #[] 3)
        obtain ⟨X3, hW_⟩ : ∃ U_ : World, U_ = X2.alloc (.cells #[] 3) := ⟨_, rfl⟩
        obtain ⟨g2, hq_⟩ : ∃ q, q = X2.heap.size := ⟨_, rfl⟩
        have g2_ge : w.heap.size ≤ g2 := by rw [hq_]; exact Nat.le_trans hW0_ HB.size
        rw [← hW_] at bW
        rw [← hW_, ← hq_] at r_
        rw [← hW_, ← hq_]
        clear hW_ hq_
        replace G1 := G1.later bW
        replace ZA := ZA.later bW
        replace HB := belowNext HB bW
        have G2 : Row0 X3 g2 := r_
        clear r_ bW
        refine ⟨HB, ?_⟩
        simp only [Act.put, List.setIfInBounds_toArray, List.set_cons_succ, List.set_cons_zero]
        refine oneH (i := 3) (by kernel_rfl) ?_
        obtain ⟨vD, X4, ra_, o_, bW, fr_⟩ := app_fresh 22 g1 G1.row vd ds ((HS.out.sh.d).later HB) hl1.out
        refine opValueG (some 15) rfl rfl rfl vD X4 (run_append (.tmp 12) (.tmp 14) rfl _ _ _ rfl rfl ra_) ?_
        clear ra_ G1
        replace G2 := G2.later bW
        replace ZA := ZA.later bW
        replace HB := belowNext HB bW
        have OD : IOwn X4 w.heap.size vD ds := o_.mono g1_ge
        clear o_ bW fr_
        refine ⟨HB, ?_⟩
        simp only [Act.put, List.setIfInBounds_toArray, List.set_cons_succ, List.set_cons_zero]
        refine oneH (i := 7) (by kernel_rfl) ?_
        obtain ⟨vT, X5, ra_, o_, bW, fr_⟩ := app_fresh 22 g2 G2.row vt ts ((HS.out.sh.t).later HB) hl2.out
        refine opValueG (some 19) rfl rfl rfl vT X5 (run_append (.tmp 16) (.tmp 18) rfl _ _ _ rfl rfl ra_) ?_
        clear ra_ G2
        have ne_ : 0 < ts.length → ∀ b b', vD.ownBlock = some b → vT.ownBlock = some b' → b ≠ b' := fun hp b b' h h' => by have := fr_ hp b' h'; have := (OD.own.lt b h).2; omega
        replace OD := OD.later bW
        replace ZA := ZA.later bW
        replace HB := belowNext HB bW
        have OT : IOwn X5 w.heap.size vT ts := o_.mono g2_ge
        clear o_ bW fr_
        refine ⟨HB, ?_⟩
        simp only [Act.put, List.setIfInBounds_toArray, List.set_cons_succ, List.set_cons_zero]
        refine takeH (i := 8) (some 20) rfl rfl (by kernel_rfl) (by kernel_rfl) (by kernel_rfl) (fun _ _ _ h => h) (gRun rfl (.agg [vD, vT].toArray) fun _ h => run_build24 (.tmp 15) (.tmp 19) rfl vD vT OD.ints.isSlice.2 OT.ints.isSlice.2 rfl rfl) HB ?_
        simp only [Act.put, List.setIfInBounds_toArray, List.set_cons_succ, List.set_cons_zero]
        refine oneH (i := 10) (by kernel_rfl) ?_
        refine opSkipZ rfl rfl rfl _ (run_storeA ag24 (.tmp 6) (.tmp 20) rfl qt 24 rfl [vD, vT] _ rfl rfl ZA.row rfl (two_one OD.ints OT.ints)) ?_
        have r_ := ZA.row.setRow [vD, vT]
        have od_ := OD.setRow ZA.row (by decide) ([vD, vT] : List Value).toArray
        have ot_ := OT.setRow ZA.row (by decide) ([vD, vT] : List Value).toArray
        have hb_ := HB.trans (((Ch.refl (· = qt) X5).setRow (Or.inl rfl) ([vD, vT] : List Value).toArray).below HB.size fun i hi e => by omega)
        obtain ⟨X6, hW_⟩ : ∃ U_ : World, U_ = X5.setRow qt ([vD, vT] : List Value).toArray := ⟨_, rfl⟩
        rw [← hW_] at r_ od_ ot_ hb_ ⊢
        clear hW_
        refine ⟨hb_, ?_⟩
        refine wpAnyH_done (by kernel_rfl) ?_ _
        exact hG X6 qt g1 g2 vD vT ⟨r_, od_, ot_, hb_, qt_ge, ne_⟩
    · refine opValueG (some 16) rfl rfl rfl _ _ (run_int0Op rfl) ?_
      have r_ : Row0 (X1.alloc (.cells #[] 3)) X1.heap.size := ⟨Row.new X1 3 []⟩
      have bW := below_alloc X1 (.cells #[] 3)
      obtain ⟨X2, hW_⟩ : ∃ U_ : World, U_ = X1.alloc (.cells #[] 3) := ⟨_, rfl⟩
      obtain ⟨g2, hq_⟩ : ∃ q, q = X1.heap.size := ⟨_, rfl⟩
      have g2_ge : w.heap.size ≤ g2 := by rw [hq_]; exact Nat.le_trans hW0_ HB.size
      rw [← hW_] at bW
      rw [← hW_, ← hq_] at r_
      rw [← hW_, ← hq_]
      clear hW_ hq_
      replace ZA := ZA.later bW
      replace HB := belowNext HB bW
      have G2 : Row0 X2 g2 := r_
      clear r_ bW
      refine ⟨HB, ?_⟩
      simp only [Act.put, List.setIfInBounds_toArray, List.set_cons_succ, List.set_cons_zero]
      refine oneH (i := 0) (by kernel_rfl) ?_
      refine opValueG (some 12) rfl rfl rfl _ _ (run_int0Op rfl) ?_
      have r_ : Row0 (X2.alloc (.cells #[] 3)) X2.heap.size := ⟨Row.new X2 3 []⟩
      have bW := below_alloc X2 (.cells #[] 3)
      obtain ⟨X3, hW_⟩ : ∃ U_ : World, U_ = X2.alloc (.cells #[] 3) := ⟨_, rfl⟩
      obtain ⟨g1, hq_⟩ : ∃ q, q = X2.heap.size := ⟨_, rfl⟩
      have g1_ge : w.heap.size ≤ g1 := by rw [hq_]; exact Nat.le_trans hW0_ HB.size
      rw [← hW_] at bW
      rw [← hW_, ← hq_] at r_
      rw [← hW_, ← hq_]
      clear hW_ hq_
      replace G2 := G2.later bW
      replace ZA := ZA.later bW
      replace HB := belowNext HB bW
      have G1 : Row0 X3 g1 := r_
      clear r_ bW
      refine ⟨HB, ?_⟩
      simp only [Act.put, List.setIfInBounds_toArray, List.set_cons_succ, List.set_cons_zero]
      refine oneH (i := 3) (by kernel_rfl) ?_
      obtain ⟨vD, X4, ra_, o_, bW, fr_⟩ := app_fresh 22 g1 G1.row vd ds ((HS.out.sh.d).later HB) hl1.out
      refine opValueG (some 15) rfl rfl rfl vD X4 (run_append (.tmp 12) (.tmp 14) rfl _ _ _ rfl rfl ra_) ?_
      clear ra_ G1
      replace G2 := G2.later bW
      replace ZA := ZA.later bW
      replace HB := belowNext HB bW
      have OD : IOwn X4 w.heap.size vD ds := o_.mono g1_ge
      clear o_ bW fr_
      refine ⟨HB, ?_⟩
      simp only [Act.put, List.setIfInBounds_toArray, List.set_cons_succ, List.set_cons_zero]
      refine oneH (i := 7) (by kernel_rfl) ?_
      obtain ⟨vT, X5, ra_, o_, bW, fr_⟩ := app_fresh 22 g2 G2.row vt ts ((HS.out.sh.t).later HB) hl2.out
      refine opValueG (some 19) rfl rfl rfl vT X5 (run_append (.tmp 16) (.tmp 18) rfl _ _ _ rfl rfl ra_) ?_
      clear ra_ G2
      have ne_ : 0 < ts.length → ∀ b b', vD.ownBlock = some b → vT.ownBlock = some b' → b ≠ b' := fun hp b b' h h' => by have := fr_ hp b' h'; have := (OD.own.lt b h).2; omega
      replace OD := OD.later bW
      replace ZA := ZA.later bW
      replace HB := belowNext HB bW
      have OT : IOwn X5 w.heap.size vT ts := o_.mono g2_ge
      clear o_ bW fr_
      refine ⟨HB, ?_⟩
      simp only [Act.put, List.setIfInBounds_toArray, List.set_cons_succ, List.set_cons_zero]
      refine takeH (i := 8) (some 20) rfl rfl (by kernel_rfl) (by kernel_rfl) (by kernel_rfl) (fun _ _ _ h => h) (gRun rfl (.agg [vD, vT].toArray) fun _ h => run_build24 (.tmp 15) (.tmp 19) rfl vD vT OD.ints.isSlice.2 OT.ints.isSlice.2 rfl rfl) HB ?_
      simp only [Act.put, List.setIfInBounds_toArray, List.set_cons_succ, List.set_cons_zero]
      refine oneH (i := 10) (by kernel_rfl) ?_
      refine opSkipZ rfl rfl rfl _ (run_storeA ag24 (.tmp 6) (.tmp 20) rfl qt 24 rfl [vD, vT] _ rfl rfl ZA.row rfl (two_one OD.ints OT.ints)) ?_
      have r_ := ZA.row.setRow [vD, vT]
      have od_ := OD.setRow ZA.row (by decide) ([vD, vT] : List Value).toArray
      have ot_ := OT.setRow ZA.row (by decide) ([vD, vT] : List Value).toArray
      have hb_ := HB.trans (((Ch.refl (· = qt) X5).setRow (Or.inl rfl) ([vD, vT] : List Value).toArray).below HB.size fun i hi e => by omega)
      obtain ⟨X6, hW_⟩ : ∃ U_ : World, U_ = X5.setRow qt ([vD, vT] : List Value).toArray := ⟨_, rfl⟩
      rw [← hW_] at r_ od_ ot_ hb_ ⊢
      clear hW_
      refine ⟨hb_, ?_⟩
      refine wpAnyH_done (by kernel_rfl) ?_ _
      exact hG X6 qt g1 g2 vD vT ⟨r_, od_, ot_, hb_, qt_ge, ne_⟩
  intro u4 qt g1 g2 vD vT HCop
  have bW := HCop.out.bel
  have HW_ : Hid (Below w.heap.size w u4) := belowNext HW.out bW
  clear HW
  have HW := HW_
  clear HW_
  have HS_ : Hid (ShB u4 qs vd vt ds ts) := HS.out.later bW
  clear HS
  have HS := HS_
  clear HS_
  have HG_ : Hid (CfB u4 qc r) := HG.out.later bW
  clear HG
  have HG := HG_
  clear HG_
  clear bW
  have HT : Hid (ShB u4 qt vD vT ds ts) := ⟨HCop.out.row, HCop.out.d.ints, HCop.out.t.ints⟩
  clear HCop
  go_upto_region 5 with fail
  refine wp_region_held (S := fun X => (ShB X qs vd vt ds ts) ∧ (CfB X qc r) ∧ (ShB X qt vD vT ds ts)) (by kernel_rfl) ?_
  show wpAnyH _ _ _ _ _ 21 (Array.replicate 21 false) _ _
  obtain ⟨u5, hX⟩ : ∃ u5 : World, u5 = { u4 with drawn := u4.drawn + 1 } := ⟨_, rfl⟩
  rw [← hX]
  have bX : Below u4.heap.size u4 u5 := by rw [hX]; exact ⟨rfl, rfl, rfl, Nat.le_refl _, fun _ _ => rfl⟩
  have HW_ : Hid (Below w.heap.size w u5) := belowNext HW.out bX
  clear HW
  have HW := HW_
  clear HW_
  have HS_ : Hid (ShB u5 qs vd vt ds ts) := HS.out.later bX
  clear HS
  have HS := HS_
  clear HS_
  have HG_ : Hid (CfB u5 qc r) := HG.out.later bX
  clear HG
  have HG := HG_
  clear HG_
  have HT_ : Hid (ShB u5 qt vD vT ds ts) := HT.out.later bX
  clear HT
  have HT := HT_
  clear HT_
  clear bX
  clear hX
  refine takeH (i := 0) (some 21) rfl rfl (by kernel_rfl) (by kernel_rfl) (by kernel_rfl) (fun _ _ _ h => h) (gRun rfl (.agg ([vD, vT]).toArray) fun _ h => run_loadA ag24 (.tmp 6) rfl qt (0) rfl ([vD, vT]) rfl (fun j v hv => by rw [Nat.zero_add]; exact h.2.2.row.at j v hv)) ⟨HS.out, HG.out, HT.out⟩ ?_
  simp only [Act.put, List.setIfInBounds_toArray, List.set_cons_succ, List.set_cons_zero]
  refine takeH (i := 1) (some 22) rfl rfl (by kernel_rfl) (by kernel_rfl) (by kernel_rfl) (fun _ _ _ h => h) (gRun rfl (.agg ([.int .i64 r]).toArray) fun _ h => run_loadA ag26 (.tmp 3) rfl qc (0) rfl ([.int .i64 r]) rfl (fun j v hv => by rw [Nat.zero_add]; exact h.2.1.row.at j v hv)) ⟨HS.out, HG.out, HT.out⟩ ?_
  simp only [Act.put, List.setIfInBounds_toArray, List.set_cons_succ, List.set_cons_zero]
  refine takeH (i := 3) (some 24) rfl rfl (by kernel_rfl) (by kernel_rfl) (by kernel_rfl) (fun _ _ _ h => h) (gRun rfl (.agg ([vd, vt]).toArray) fun _ h => run_loadA ag24 (.tmp 2) rfl qs (0) rfl ([vd, vt]) rfl (fun j v hv => by rw [Nat.zero_add]; exact h.1.row.at j v hv)) ⟨HS.out, HG.out, HT.out⟩ ?_
  simp only [Act.put, List.setIfInBounds_toArray, List.set_cons_succ, List.set_cons_zero]
  refine takeH (i := 4) (some 25) rfl rfl (by kernel_rfl) (by kernel_rfl) (by kernel_rfl) (fun _ _ _ h => h) (gRun rfl (.agg ([.int .i64 r]).toArray) fun _ h => run_loadA ag26 (.tmp 3) rfl qc (0) rfl ([.int .i64 r]) rfl (fun j v hv => by rw [Nat.zero_add]; exact h.2.1.row.at j v hv)) ⟨HS.out, HG.out, HT.out⟩ ?_
  simp only [Act.put, List.setIfInBounds_toArray, List.set_cons_succ, List.set_cons_zero]
  refine oneH (i := 2) (by kernel_rfl) ?_
  refine opCallG (some 23) rfl rfl rfl 8 _ (run_call eN8 [.tmp 21, .tmp 22] _ rfl [(.agg ([vD, vT]).toArray), (.agg ([.int .i64 r]).toArray)] rfl) ?_
  refine (may_any u5 vD vT ds ts HT.out.sh r).mono ?_
  rintro e u6 ⟨rfl, bW⟩
  refine ⟨_, rfl, ?_⟩
  rw [← HY.out.1]
  have HW_ : Hid (Below w.heap.size w u6) := belowNext HW.out bW
  clear HW
  have HW := HW_
  clear HW_
  have HS_ : Hid (ShB u6 qs vd vt ds ts) := HS.out.later bW
  clear HS
  have HS := HS_
  clear HS_
  have HG_ : Hid (CfB u6 qc r) := HG.out.later bW
  clear HG
  have HG := HG_
  clear HG_
  have HT_ : Hid (ShB u6 qt vD vT ds ts) := HT.out.later bW
  clear HT
  have HT := HT_
  clear HT_
  clear bW
  refine ⟨⟨HS.out, HG.out, HT.out⟩, ?_⟩
  simp only [Act.put, List.setIfInBounds_toArray, List.set_cons_succ, List.set_cons_zero]
  refine oneH (i := 5) (by kernel_rfl) ?_
  refine opCallG (some 26) rfl rfl rfl 9 _ (run_call eN9 [.tmp 24, .tmp 25] _ rfl [(.agg ([vd, vt]).toArray), (.agg ([.int .i64 r]).toArray)] rfl) ?_
  refine (refMay_any u6 vd vt ds ts HS.out.sh r).mono ?_
  rintro e u7 ⟨rfl, bW⟩
  refine ⟨_, rfl, ?_⟩
  rw [← HY.out.1]
  have HW_ : Hid (Below w.heap.size w u7) := belowNext HW.out bW
  clear HW
  have HW := HW_
  clear HW_
  have HS_ : Hid (ShB u7 qs vd vt ds ts) := HS.out.later bW
  clear HS
  have HS := HS_
  clear HS_
  have HG_ : Hid (CfB u7 qc r) := HG.out.later bW
  clear HG
  have HG := HG_
  clear HG_
  have HT_ : Hid (ShB u7 qt vD vT ds ts) := HT.out.later bW
  clear HT
  have HT := HT_
  clear HT_
  clear bW
  refine ⟨⟨HS.out, HG.out, HT.out⟩, ?_⟩
  simp only [Act.put, List.setIfInBounds_toArray, List.set_cons_succ, List.set_cons_zero]
  refine takeH (i := 6) (some 27) rfl rfl (by kernel_rfl) (by kernel_rfl) (by kernel_rfl) (fun _ _ _ h => h) (gRun rfl (.bool false) fun _ h => run_neB (.tmp 23) (.tmp 26) rfl y rfl rfl) ⟨HS.out, HG.out, HT.out⟩ ?_
  simp only [Act.put, List.setIfInBounds_toArray, List.set_cons_succ, List.set_cons_zero]
  refine takeH (i := 7) (some 28) rfl rfl (by kernel_rfl) (by kernel_rfl) (by kernel_rfl) (fun _ _ _ h => h) (gRun rfl (.bool false) fun _ h => run_mvZ (.tmp 27) rfl (.bool false) rfl) ⟨HS.out, HG.out, HT.out⟩ ?_
  simp only [Act.put, List.setIfInBounds_toArray, List.set_cons_succ, List.set_cons_zero]
  refine takeH (i := 8) (some 29) rfl rfl (by kernel_rfl) (by kernel_rfl) (by kernel_rfl) (fun _ _ _ h => h) (gRun (by kernel_rfl) (.agg ([vD, vT]).toArray) fun _ h => run_loadA ag24 (.tmp 6) rfl qt (0) rfl ([vD, vT]) rfl (fun j v hv => by rw [Nat.zero_add]; exact h.2.2.row.at j v hv)) ⟨HS.out, HG.out, HT.out⟩ ?_
  simp only [Act.put, List.setIfInBounds_toArray, List.set_cons_succ, List.set_cons_zero]
  refine takeH (i := 10) (some 31) rfl rfl (by kernel_rfl) (by kernel_rfl) (by kernel_rfl) (fun _ _ _ h => h) (gRun (by kernel_rfl) (.agg ([vd, vt]).toArray) fun _ h => run_loadA ag24 (.tmp 2) rfl qs (0) rfl ([vd, vt]) rfl (fun j v hv => by rw [Nat.zero_add]; exact h.1.row.at j v hv)) ⟨HS.out, HG.out, HT.out⟩ ?_
  simp only [Act.put, List.setIfInBounds_toArray, List.set_cons_succ, List.set_cons_zero]
  refine oneH (i := 9) (by kernel_rfl) ?_
  refine opCallG (some 30) rfl rfl (by kernel_rfl) 10 _ (run_call eN10 [.tmp 29] _ rfl [(.agg ([vD, vT]).toArray)] rfl) ?_
  refine (puts_any u7 vD vT ds ts HT.out.sh).mono ?_
  rintro e u8 ⟨rfl, bW⟩
  refine ⟨_, rfl, ?_⟩
  rw [← HY.out.2.1]
  have HW_ : Hid (Below w.heap.size w u8) := belowNext HW.out bW
  clear HW
  have HW := HW_
  clear HW_
  have HS_ : Hid (ShB u8 qs vd vt ds ts) := HS.out.later bW
  clear HS
  have HS := HS_
  clear HS_
  have HG_ : Hid (CfB u8 qc r) := HG.out.later bW
  clear HG
  have HG := HG_
  clear HG_
  have HT_ : Hid (ShB u8 qt vD vT ds ts) := HT.out.later bW
  clear HT
  have HT := HT_
  clear HT_
  clear bW
  refine ⟨⟨HS.out, HG.out, HT.out⟩, ?_⟩
  simp only [Act.put, List.setIfInBounds_toArray, List.set_cons_succ, List.set_cons_zero]
  refine oneH (i := 11) (by kernel_rfl) ?_
  refine opCallG (some 32) rfl rfl (by kernel_rfl) 11 _ (run_call eN11 [.tmp 31] _ rfl [(.agg ([vd, vt]).toArray)] rfl) ?_
  refine (refPuts_any u8 vd vt ds ts HS.out.sh).mono ?_
  rintro e u9 ⟨rfl, bW⟩
  refine ⟨_, rfl, ?_⟩
  rw [← HY.out.2.1]
  have HW_ : Hid (Below w.heap.size w u9) := belowNext HW.out bW
  clear HW
  have HW := HW_
  clear HW_
  have HS_ : Hid (ShB u9 qs vd vt ds ts) := HS.out.later bW
  clear HS
  have HS := HS_
  clear HS_
  have HG_ : Hid (CfB u9 qc r) := HG.out.later bW
  clear HG
  have HG := HG_
  clear HG_
  have HT_ : Hid (ShB u9 qt vD vT ds ts) := HT.out.later bW
  clear HT
  have HT := HT_
  clear HT_
  clear bW
  refine ⟨⟨HS.out, HG.out, HT.out⟩, ?_⟩
  simp only [Act.put, List.setIfInBounds_toArray, List.set_cons_succ, List.set_cons_zero]
  refine takeH (i := 12) (some 33) rfl rfl (by kernel_rfl) (by kernel_rfl) (by kernel_rfl) (fun _ _ _ h => h) (gRun (by kernel_rfl) (.bool false) fun _ h => run_neZ (.tmp 30) (.tmp 32) rfl n n rfl rfl false (by simp)) ⟨HS.out, HG.out, HT.out⟩ ?_
  simp only [Act.put, List.setIfInBounds_toArray, List.set_cons_succ, List.set_cons_zero]
  refine takeH (i := 13) (some 34) rfl rfl (by kernel_rfl) (by kernel_rfl) (by kernel_rfl) (fun _ _ _ h => h) (gRun rfl (.bool false) fun _ h => run_pickZ (.tmp 28) (.const (.bool true)) (.tmp 33) rfl false (.bool false) rfl rfl) ⟨HS.out, HG.out, HT.out⟩ ?_
  simp only [Act.put, List.setIfInBounds_toArray, List.set_cons_succ, List.set_cons_zero]
  refine takeH (i := 14) (some 35) rfl rfl (by kernel_rfl) (by kernel_rfl) (by kernel_rfl) (fun _ _ _ h => h) (gRun rfl (.bool false) fun _ h => run_mvZ (.tmp 34) rfl (.bool false) rfl) ⟨HS.out, HG.out, HT.out⟩ ?_
  simp only [Act.put, List.setIfInBounds_toArray, List.set_cons_succ, List.set_cons_zero]
  refine takeH (i := 15) (some 36) rfl rfl (by kernel_rfl) (by kernel_rfl) (by kernel_rfl) (fun _ _ _ h => h) (gRun (by kernel_rfl) (.agg ([vD, vT]).toArray) fun _ h => run_loadA ag24 (.tmp 6) rfl qt (0) rfl ([vD, vT]) rfl (fun j v hv => by rw [Nat.zero_add]; exact h.2.2.row.at j v hv)) ⟨HS.out, HG.out, HT.out⟩ ?_
  simp only [Act.put, List.setIfInBounds_toArray, List.set_cons_succ, List.set_cons_zero]
  refine takeH (i := 17) (some 38) rfl rfl (by kernel_rfl) (by kernel_rfl) (by kernel_rfl) (fun _ _ _ h => h) (gRun (by kernel_rfl) (.agg ([vd, vt]).toArray) fun _ h => run_loadA ag24 (.tmp 2) rfl qs (0) rfl ([vd, vt]) rfl (fun j v hv => by rw [Nat.zero_add]; exact h.1.row.at j v hv)) ⟨HS.out, HG.out, HT.out⟩ ?_
  simp only [Act.put, List.setIfInBounds_toArray, List.set_cons_succ, List.set_cons_zero]
  refine oneH (i := 16) (by kernel_rfl) ?_
  refine opCallG (some 37) rfl rfl (by kernel_rfl) 12 _ (run_call eN12 [.tmp 36] _ rfl [(.agg ([vD, vT]).toArray)] rfl) ?_
  refine (sectors_any u9 vD vT ds ts HT.out.sh).mono ?_
  rintro e u10 ⟨rfl, bW⟩
  refine ⟨_, rfl, ?_⟩
  rw [← HY.out.2.2]
  have HW_ : Hid (Below w.heap.size w u10) := belowNext HW.out bW
  clear HW
  have HW := HW_
  clear HW_
  have HS_ : Hid (ShB u10 qs vd vt ds ts) := HS.out.later bW
  clear HS
  have HS := HS_
  clear HS_
  have HG_ : Hid (CfB u10 qc r) := HG.out.later bW
  clear HG
  have HG := HG_
  clear HG_
  have HT_ : Hid (ShB u10 qt vD vT ds ts) := HT.out.later bW
  clear HT
  have HT := HT_
  clear HT_
  clear bW
  refine ⟨⟨HS.out, HG.out, HT.out⟩, ?_⟩
  simp only [Act.put, List.setIfInBounds_toArray, List.set_cons_succ, List.set_cons_zero]
  refine oneH (i := 18) (by kernel_rfl) ?_
  refine opCallG (some 39) rfl rfl (by kernel_rfl) 13 _ (run_call eN13 [.tmp 38] _ rfl [(.agg ([vd, vt]).toArray)] rfl) ?_
  refine (refSectors_any u10 vd vt ds ts HS.out.sh).mono ?_
  rintro e u11 ⟨rfl, bW⟩
  refine ⟨_, rfl, ?_⟩
  rw [← HY.out.2.2]
  have HW_ : Hid (Below w.heap.size w u11) := belowNext HW.out bW
  clear HW
  have HW := HW_
  clear HW_
  have HS_ : Hid (ShB u11 qs vd vt ds ts) := HS.out.later bW
  clear HS
  have HS := HS_
  clear HS_
  have HG_ : Hid (CfB u11 qc r) := HG.out.later bW
  clear HG
  have HG := HG_
  clear HG_
  have HT_ : Hid (ShB u11 qt vD vT ds ts) := HT.out.later bW
  clear HT
  have HT := HT_
  clear HT_
  clear bW
  refine ⟨⟨HS.out, HG.out, HT.out⟩, ?_⟩
  simp only [Act.put, List.setIfInBounds_toArray, List.set_cons_succ, List.set_cons_zero]
  refine takeH (i := 19) (some 40) rfl rfl (by kernel_rfl) (by kernel_rfl) (by kernel_rfl) (fun _ _ _ h => h) (gRun (by kernel_rfl) (.bool false) fun _ h => run_neZ (.tmp 37) (.tmp 39) rfl k k rfl rfl false (by simp)) ⟨HS.out, HG.out, HT.out⟩ ?_
  simp only [Act.put, List.setIfInBounds_toArray, List.set_cons_succ, List.set_cons_zero]
  refine takeH (i := 20) (some 41) rfl rfl (by kernel_rfl) (by kernel_rfl) (by kernel_rfl) (fun _ _ _ h => h) (gRun rfl (.bool false) fun _ h => run_pickZ (.tmp 35) (.const (.bool true)) (.tmp 40) rfl false (.bool false) rfl rfl) ⟨HS.out, HG.out, HT.out⟩ ?_
  simp only [Act.put, List.setIfInBounds_toArray, List.set_cons_succ, List.set_cons_zero]
  refine wpAnyH_done (by kernel_rfl) ?_ _
  clear HY HG
  go_wp2_with fail
  go_loopw [7] (fun vi W => ∃ k : Nat, vi = .int .i64 (k : Nat) ∧ k ≤ ds.length ∧ Below u11.heap.size u11 W) (fun vi _ => ds.length - (intOf vi).toNat)
  case atStart => exact ⟨0, rfl, Nat.zero_le _, by first | exact Below.refl _ _ | (exact ⟨rfl, rfl, rfl, Nat.le_refl _, fun _ _ => rfl⟩)⟩
  case round =>
    obtain ⟨k, rfl, hk, bW⟩ := hrel
    obtain ⟨u12, hwr⟩ : ∃ X, X = wr := ⟨_, rfl⟩
    subst hwr
    have HBr : Hid (Below u11.heap.size u11 u12) := bW
    have HW_ : Hid (Below w.heap.size w u12) := belowNext HW.out bW
    clear HW
    have HW := HW_
    clear HW_
    have HS_ : Hid (ShB u12 qs vd vt ds ts) := HS.out.later bW
    clear HS
    have HS := HS_
    clear HS_
    have HT_ : Hid (ShB u12 qt vD vT ds ts) := HT.out.later bW
    clear HT
    have HT := HT_
    clear HT_
    clear bW
    by_cases hlt : k < ds.length
    · obtain ⟨bo, jo, qo, co⟩ := HT.out.sh.d.ix k hlt
      obtain ⟨ba, ja, qa, ca⟩ := HS.out.sh.d.ix k hlt
      obtain ⟨x, hx⟩ : ∃ x, x = nth ds k := ⟨_, rfl⟩
      rw [← hx] at co ca
      clear hx
      have CO : Hid (CellI u12 bo jo x) := ⟨co⟩
      have CA : Hid (CellI u12 ba ja x) := ⟨ca⟩
      have HX : Hid ((∀ w', (Instr.indexAt 22 vD (.int .i64 (k : Nat))).run Try.prog w' = .ok (.pointer (some ⟨bo, jo, none⟩)) w') ∧ ∀ w', (Instr.indexAt 22 vd (.int .i64 (k : Nat))).run Try.prog w' = .ok (.pointer (some ⟨ba, ja, none⟩)) w') := ⟨qo, qa⟩
      clear qo qa co ca
      go_upto_region 8 with fail
      refine wp_region_lit ?_
      refine wl rfl (.int .i64 (k : Nat)) _ (run_mvZ (.tmp 7) rfl (.int .i64 (k : Nat)) rfl) ?_
      simp only [Act.put, List.setIfInBounds_toArray, List.set_cons_succ, List.set_cons_zero]
      refine wl rfl (.pointer (some ⟨qs, 0 + 0, none⟩)) _ (run_fieldOp' f24_0 (.tmp 2) rfl qs (0) rfl) ?_
      simp only [Act.put, List.setIfInBounds_toArray, List.set_cons_succ, List.set_cons_zero]
      refine wl rfl vd _ (run_load1 o22 (.tmp 43) rfl qs (0 + 0) rfl vd (HS.out.row.at (0 + 0) _ rfl)) ?_
      simp only [Act.put, List.setIfInBounds_toArray, List.set_cons_succ, List.set_cons_zero]
      refine wl rfl (.int .i64 (ds.length : Nat)) _ (run_lenI (.tmp 44) rfl vd ds rfl HS.out.sh.d) ?_
      simp only [Act.put, List.setIfInBounds_toArray, List.set_cons_succ, List.set_cons_zero]
      refine wl rfl (.bool true) _ (run_lssZ (.tmp 42) (.tmp 45) rfl (k : Nat) (ds.length : Nat) rfl rfl true (decide_eq_true (by omega))) ?_
      simp only [Act.put, List.setIfInBounds_toArray, List.set_cons_succ, List.set_cons_zero]
      refine wpList_nil ?_
      go_upto_region 10 with fail
      refine wp_region_held (S := fun X => (ShB X qs vd vt ds ts) ∧ (ShB X qt vD vT ds ts) ∧ (CellI X bo jo x) ∧ (CellI X ba ja x)) (by kernel_rfl) ?_
      show wpAnyH _ _ _ _ _ 11 (Array.replicate 11 false) _ _
      obtain ⟨u13, hX⟩ : ∃ u13 : World, u13 = { u12 with drawn := u12.drawn + 1 } := ⟨_, rfl⟩
      rw [← hX]
      have bX : Below u12.heap.size u12 u13 := by rw [hX]; exact ⟨rfl, rfl, rfl, Nat.le_refl _, fun _ _ => rfl⟩
      have HBr_ : Hid (Below u11.heap.size u11 u13) := belowNext HBr.out bX
      clear HBr
      have HBr := HBr_
      clear HBr_
      have HW_ : Hid (Below w.heap.size w u13) := belowNext HW.out bX
      clear HW
      have HW := HW_
      clear HW_
      have HS_ : Hid (ShB u13 qs vd vt ds ts) := HS.out.later bX
      clear HS
      have HS := HS_
      clear HS_
      have HT_ : Hid (ShB u13 qt vD vT ds ts) := HT.out.later bX
      clear HT
      have HT := HT_
      clear HT_
      have CO_ : Hid (CellI u13 bo jo x) := CO.out.later bX
      clear CO
      have CO := CO_
      clear CO_
      have CA_ : Hid (CellI u13 ba ja x) := CA.out.later bX
      clear CA
      have CA := CA_
      clear CA_
      clear bX
      clear hX
      refine takeH (i := 0) (some 49) rfl rfl (by kernel_rfl) (by kernel_rfl) (by kernel_rfl) (fun _ _ _ h => h) (gRun rfl (.pointer (some ⟨qt, 0 + 0, none⟩)) fun _ h => run_fieldOp' f24_0 (.tmp 6) rfl qt (0) rfl) ⟨HS.out, HT.out, CO.out, CA.out⟩ ?_
      simp only [Act.put, List.setIfInBounds_toArray, List.set_cons_succ, List.set_cons_zero]
      refine takeH (i := 1) (some 50) rfl rfl (by kernel_rfl) (by kernel_rfl) (by kernel_rfl) (fun _ _ _ h => h) (gRun rfl vD fun _ h => run_load1 o22 (.tmp 49) rfl qt (0 + 0) rfl vD (h.2.1.row.at (0 + 0) _ rfl)) ⟨HS.out, HT.out, CO.out, CA.out⟩ ?_
      simp only [Act.put, List.setIfInBounds_toArray, List.set_cons_succ, List.set_cons_zero]
      refine takeH (i := 2) (some 51) rfl rfl (by kernel_rfl) (by kernel_rfl) (by kernel_rfl) (fun _ _ _ h => h) (gRun rfl (.int .i64 (k : Nat)) fun _ h => run_mvZ (.tmp 7) rfl (.int .i64 (k : Nat)) rfl) ⟨HS.out, HT.out, CO.out, CA.out⟩ ?_
      simp only [Act.put, List.setIfInBounds_toArray, List.set_cons_succ, List.set_cons_zero]
      refine takeH (i := 3) (some 52) rfl rfl (by kernel_rfl) (by kernel_rfl) (by kernel_rfl) (fun _ _ _ h => h) (gRun rfl (.pointer (some ⟨bo, jo, none⟩)) fun _ h => run_idx (.tmp 50) (.tmp 51) rfl vD _ _ rfl rfl HX.out.1) ⟨HS.out, HT.out, CO.out, CA.out⟩ ?_
      simp only [Act.put, List.setIfInBounds_toArray, List.set_cons_succ, List.set_cons_zero]
      refine takeH (i := 4) (some 53) rfl rfl (by kernel_rfl) (by kernel_rfl) (by kernel_rfl) (fun _ _ _ h => h) (gRun rfl (.int .i64 x) fun _ h => run_load1 o3 (.tmp 52) rfl bo (jo) rfl (.int .i64 x) h.2.2.1.c) ⟨HS.out, HT.out, CO.out, CA.out⟩ ?_
      simp only [Act.put, List.setIfInBounds_toArray, List.set_cons_succ, List.set_cons_zero]
      refine takeH (i := 5) (some 54) rfl rfl (by kernel_rfl) (by kernel_rfl) (by kernel_rfl) (fun _ _ _ h => h) (gRun rfl (.pointer (some ⟨qs, 0 + 0, none⟩)) fun _ h => run_fieldOp' f24_0 (.tmp 2) rfl qs (0) rfl) ⟨HS.out, HT.out, CO.out, CA.out⟩ ?_
      simp only [Act.put, List.setIfInBounds_toArray, List.set_cons_succ, List.set_cons_zero]
      refine takeH (i := 6) (some 55) rfl rfl (by kernel_rfl) (by kernel_rfl) (by kernel_rfl) (fun _ _ _ h => h) (gRun rfl vd fun _ h => run_load1 o22 (.tmp 54) rfl qs (0 + 0) rfl vd (h.1.row.at (0 + 0) _ rfl)) ⟨HS.out, HT.out, CO.out, CA.out⟩ ?_
      simp only [Act.put, List.setIfInBounds_toArray, List.set_cons_succ, List.set_cons_zero]
      refine takeH (i := 7) (some 56) rfl rfl (by kernel_rfl) (by kernel_rfl) (by kernel_rfl) (fun _ _ _ h => h) (gRun rfl (.int .i64 (k : Nat)) fun _ h => run_mvZ (.tmp 7) rfl (.int .i64 (k : Nat)) rfl) ⟨HS.out, HT.out, CO.out, CA.out⟩ ?_
      simp only [Act.put, List.setIfInBounds_toArray, List.set_cons_succ, List.set_cons_zero]
      refine takeH (i := 8) (some 57) rfl rfl (by kernel_rfl) (by kernel_rfl) (by kernel_rfl) (fun _ _ _ h => h) (gRun rfl (.pointer (some ⟨ba, ja, none⟩)) fun _ h => run_idx (.tmp 55) (.tmp 56) rfl vd _ _ rfl rfl HX.out.2) ⟨HS.out, HT.out, CO.out, CA.out⟩ ?_
      simp only [Act.put, List.setIfInBounds_toArray, List.set_cons_succ, List.set_cons_zero]
      refine takeH (i := 9) (some 58) rfl rfl (by kernel_rfl) (by kernel_rfl) (by kernel_rfl) (fun _ _ _ h => h) (gRun rfl (.int .i64 x) fun _ h => run_load1 o3 (.tmp 57) rfl ba (ja) rfl (.int .i64 x) h.2.2.2.c) ⟨HS.out, HT.out, CO.out, CA.out⟩ ?_
      simp only [Act.put, List.setIfInBounds_toArray, List.set_cons_succ, List.set_cons_zero]
      refine takeH (i := 10) (some 59) rfl rfl (by kernel_rfl) (by kernel_rfl) (by kernel_rfl) (fun _ _ _ h => h) (gRun rfl (.bool false) fun _ h => run_neZ (.tmp 53) (.tmp 58) rfl x x rfl rfl false (by simp)) ⟨HS.out, HT.out, CO.out, CA.out⟩ ?_
      simp only [Act.put, List.setIfInBounds_toArray, List.set_cons_succ, List.set_cons_zero]
      refine wpAnyH_done (by kernel_rfl) ?_ _
      have hlen := hl1.out
      go_wp2_with fail
      refine ⟨⟨k + 1, by first | rfl | go_num | omega, by omega, HBr.out⟩, ?_⟩
      simp [intOf]; omega
    · obtain rfl : k = ds.length := by omega
      clear HBr hlt hk
      go_upto_region 8 with fail
      refine wp_region_lit ?_
      refine wl rfl (.int .i64 (ds.length : Nat)) _ (run_mvZ (.tmp 7) rfl (.int .i64 (ds.length : Nat)) rfl) ?_
      simp only [Act.put, List.setIfInBounds_toArray, List.set_cons_succ, List.set_cons_zero]
      refine wl rfl (.pointer (some ⟨qs, 0 + 0, none⟩)) _ (run_fieldOp' f24_0 (.tmp 2) rfl qs (0) rfl) ?_
      simp only [Act.put, List.setIfInBounds_toArray, List.set_cons_succ, List.set_cons_zero]
      refine wl rfl vd _ (run_load1 o22 (.tmp 43) rfl qs (0 + 0) rfl vd (HS.out.row.at (0 + 0) _ rfl)) ?_
      simp only [Act.put, List.setIfInBounds_toArray, List.set_cons_succ, List.set_cons_zero]
      refine wl rfl (.int .i64 (ds.length : Nat)) _ (run_lenI (.tmp 44) rfl vd ds rfl HS.out.sh.d) ?_
      simp only [Act.put, List.setIfInBounds_toArray, List.set_cons_succ, List.set_cons_zero]
      refine wl rfl (.bool false) _ (run_lssZ (.tmp 42) (.tmp 45) rfl (ds.length : Nat) (ds.length : Nat) rfl rfl false (decide_eq_false (by omega))) ?_
      simp only [Act.put, List.setIfInBounds_toArray, List.set_cons_succ, List.set_cons_zero]
      refine wpList_nil ?_
      go_wp2_with fail
      go_loopw [8] (fun vi W => ∃ k : Nat, vi = .int .i64 (k : Nat) ∧ k ≤ ts.length ∧ Below u12.heap.size u12 W) (fun vi _ => ts.length - (intOf vi).toNat)
      case atStart => exact ⟨0, rfl, Nat.zero_le _, by first | exact Below.refl _ _ | (exact ⟨rfl, rfl, rfl, Nat.le_refl _, fun _ _ => rfl⟩)⟩
      case round =>
        obtain ⟨k, rfl, hk, bW⟩ := hrel
        obtain ⟨u13, hwr⟩ : ∃ X, X = wr := ⟨_, rfl⟩
        subst hwr
        have HBr : Hid (Below u12.heap.size u12 u13) := bW
        have HW_ : Hid (Below w.heap.size w u13) := belowNext HW.out bW
        clear HW
        have HW := HW_
        clear HW_
        have HS_ : Hid (ShB u13 qs vd vt ds ts) := HS.out.later bW
        clear HS
        have HS := HS_
        clear HS_
        have HT_ : Hid (ShB u13 qt vD vT ds ts) := HT.out.later bW
        clear HT
        have HT := HT_
        clear HT_
        clear bW
        by_cases hlt : k < ts.length
        · obtain ⟨bo, jo, qo, co⟩ := HT.out.sh.t.ix k hlt
          obtain ⟨ba, ja, qa, ca⟩ := HS.out.sh.t.ix k hlt
          obtain ⟨x, hx⟩ : ∃ x, x = nth ts k := ⟨_, rfl⟩
          rw [← hx] at co ca
          clear hx
          have CO : Hid (CellI u13 bo jo x) := ⟨co⟩
          have CA : Hid (CellI u13 ba ja x) := ⟨ca⟩
          have HX : Hid ((∀ w', (Instr.indexAt 22 vT (.int .i64 (k : Nat))).run Try.prog w' = .ok (.pointer (some ⟨bo, jo, none⟩)) w') ∧ ∀ w', (Instr.indexAt 22 vt (.int .i64 (k : Nat))).run Try.prog w' = .ok (.pointer (some ⟨ba, ja, none⟩)) w') := ⟨qo, qa⟩
          clear qo qa co ca
          go_upto_region 13 with fail
          refine wp_region_lit ?_
          refine wl rfl (.int .i64 (k : Nat)) _ (run_mvZ (.tmp 8) rfl (.int .i64 (k : Nat)) rfl) ?_
          simp only [Act.put, List.setIfInBounds_toArray, List.set_cons_succ, List.set_cons_zero]
          refine wl rfl (.pointer (some ⟨qs, 0 + 1, none⟩)) _ (run_fieldOp' f24_1 (.tmp 2) rfl qs (0) rfl) ?_
          simp only [Act.put, List.setIfInBounds_toArray, List.set_cons_succ, List.set_cons_zero]
          refine wl rfl vt _ (run_load1 o22 (.tmp 61) rfl qs (0 + 1) rfl vt (HS.out.row.at (0 + 1) _ rfl)) ?_
          simp only [Act.put, List.setIfInBounds_toArray, List.set_cons_succ, List.set_cons_zero]
          refine wl rfl (.int .i64 (ts.length : Nat)) _ (run_lenI (.tmp 62) rfl vt ts rfl HS.out.sh.t) ?_
          simp only [Act.put, List.setIfInBounds_toArray, List.set_cons_succ, List.set_cons_zero]
          refine wl rfl (.bool true) _ (run_lssZ (.tmp 60) (.tmp 63) rfl (k : Nat) (ts.length : Nat) rfl rfl true (decide_eq_true (by omega))) ?_
          simp only [Act.put, List.setIfInBounds_toArray, List.set_cons_succ, List.set_cons_zero]
          refine wpList_nil ?_
          go_upto_region 15 with fail
          refine wp_region_held (S := fun X => (ShB X qs vd vt ds ts) ∧ (ShB X qt vD vT ds ts) ∧ (CellI X bo jo x) ∧ (CellI X ba ja x)) (by kernel_rfl) ?_
          show wpAnyH _ _ _ _ _ 11 (Array.replicate 11 false) _ _
          obtain ⟨u14, hX⟩ : ∃ u14 : World, u14 = { u13 with drawn := u13.drawn + 1 } := ⟨_, rfl⟩
          rw [← hX]
          have bX : Below u13.heap.size u13 u14 := by rw [hX]; exact ⟨rfl, rfl, rfl, Nat.le_refl _, fun _ _ => rfl⟩
          have HBr_ : Hid (Below u12.heap.size u12 u14) := belowNext HBr.out bX
          clear HBr
          have HBr := HBr_
          clear HBr_
          have HW_ : Hid (Below w.heap.size w u14) := belowNext HW.out bX
          clear HW
          have HW := HW_
          clear HW_
          have HS_ : Hid (ShB u14 qs vd vt ds ts) := HS.out.later bX
          clear HS
          have HS := HS_
          clear HS_
          have HT_ : Hid (ShB u14 qt vD vT ds ts) := HT.out.later bX
          clear HT
          have HT := HT_
          clear HT_
          have CO_ : Hid (CellI u14 bo jo x) := CO.out.later bX
          clear CO
          have CO := CO_
          clear CO_
          have CA_ : Hid (CellI u14 ba ja x) := CA.out.later bX
          clear CA
          have CA := CA_
          clear CA_
          clear bX
          clear hX
          refine takeH (i := 0) (some 67) rfl rfl (by kernel_rfl) (by kernel_rfl) (by kernel_rfl) (fun _ _ _ h => h) (gRun rfl (.pointer (some ⟨qt, 0 + 1, none⟩)) fun _ h => run_fieldOp' f24_1 (.tmp 6) rfl qt (0) rfl) ⟨HS.out, HT.out, CO.out, CA.out⟩ ?_
          simp only [Act.put, List.setIfInBounds_toArray, List.set_cons_succ, List.set_cons_zero]
          refine takeH (i := 1) (some 68) rfl rfl (by kernel_rfl) (by kernel_rfl) (by kernel_rfl) (fun _ _ _ h => h) (gRun rfl vT fun _ h => run_load1 o22 (.tmp 67) rfl qt (0 + 1) rfl vT (h.2.1.row.at (0 + 1) _ rfl)) ⟨HS.out, HT.out, CO.out, CA.out⟩ ?_
          simp only [Act.put, List.setIfInBounds_toArray, List.set_cons_succ, List.set_cons_zero]
          refine takeH (i := 2) (some 69) rfl rfl (by kernel_rfl) (by kernel_rfl) (by kernel_rfl) (fun _ _ _ h => h) (gRun rfl (.int .i64 (k : Nat)) fun _ h => run_mvZ (.tmp 8) rfl (.int .i64 (k : Nat)) rfl) ⟨HS.out, HT.out, CO.out, CA.out⟩ ?_
          simp only [Act.put, List.setIfInBounds_toArray, List.set_cons_succ, List.set_cons_zero]
          refine takeH (i := 3) (some 70) rfl rfl (by kernel_rfl) (by kernel_rfl) (by kernel_rfl) (fun _ _ _ h => h) (gRun rfl (.pointer (some ⟨bo, jo, none⟩)) fun _ h => run_idx (.tmp 68) (.tmp 69) rfl vT _ _ rfl rfl HX.out.1) ⟨HS.out, HT.out, CO.out, CA.out⟩ ?_
          simp only [Act.put, List.setIfInBounds_toArray, List.set_cons_succ, List.set_cons_zero]
          refine takeH (i := 4) (some 71) rfl rfl (by kernel_rfl) (by kernel_rfl) (by kernel_rfl) (fun _ _ _ h => h) (gRun rfl (.int .i64 x) fun _ h => run_load1 o3 (.tmp 70) rfl bo (jo) rfl (.int .i64 x) h.2.2.1.c) ⟨HS.out, HT.out, CO.out, CA.out⟩ ?_
          simp only [Act.put, List.setIfInBounds_toArray, List.set_cons_succ, List.set_cons_zero]
          refine takeH (i := 5) (some 72) rfl rfl (by kernel_rfl) (by kernel_rfl) (by kernel_rfl) (fun _ _ _ h => h) (gRun rfl (.pointer (some ⟨qs, 0 + 1, none⟩)) fun _ h => run_fieldOp' f24_1 (.tmp 2) rfl qs (0) rfl) ⟨HS.out, HT.out, CO.out, CA.out⟩ ?_
          simp only [Act.put, List.setIfInBounds_toArray, List.set_cons_succ, List.set_cons_zero]
          refine takeH (i := 6) (some 73) rfl rfl (by kernel_rfl) (by kernel_rfl) (by kernel_rfl) (fun _ _ _ h => h) (gRun rfl vt fun _ h => run_load1 o22 (.tmp 72) rfl qs (0 + 1) rfl vt (h.1.row.at (0 + 1) _ rfl)) ⟨HS.out, HT.out, CO.out, CA.out⟩ ?_
          simp only [Act.put, List.setIfInBounds_toArray, List.set_cons_succ, List.set_cons_zero]
          refine takeH (i := 7) (some 74) rfl rfl (by kernel_rfl) (by kernel_rfl) (by kernel_rfl) (fun _ _ _ h => h) (gRun rfl (.int .i64 (k : Nat)) fun _ h => run_mvZ (.tmp 8) rfl (.int .i64 (k : Nat)) rfl) ⟨HS.out, HT.out, CO.out, CA.out⟩ ?_
          simp only [Act.put, List.setIfInBounds_toArray, List.set_cons_succ, List.set_cons_zero]
          refine takeH (i := 8) (some 75) rfl rfl (by kernel_rfl) (by kernel_rfl) (by kernel_rfl) (fun _ _ _ h => h) (gRun rfl (.pointer (some ⟨ba, ja, none⟩)) fun _ h => run_idx (.tmp 73) (.tmp 74) rfl vt _ _ rfl rfl HX.out.2) ⟨HS.out, HT.out, CO.out, CA.out⟩ ?_
          simp only [Act.put, List.setIfInBounds_toArray, List.set_cons_succ, List.set_cons_zero]
          refine takeH (i := 9) (some 76) rfl rfl (by kernel_rfl) (by kernel_rfl) (by kernel_rfl) (fun _ _ _ h => h) (gRun rfl (.int .i64 x) fun _ h => run_load1 o3 (.tmp 75) rfl ba (ja) rfl (.int .i64 x) h.2.2.2.c) ⟨HS.out, HT.out, CO.out, CA.out⟩ ?_
          simp only [Act.put, List.setIfInBounds_toArray, List.set_cons_succ, List.set_cons_zero]
          refine takeH (i := 10) (some 77) rfl rfl (by kernel_rfl) (by kernel_rfl) (by kernel_rfl) (fun _ _ _ h => h) (gRun rfl (.bool false) fun _ h => run_neZ (.tmp 71) (.tmp 76) rfl x x rfl rfl false (by simp)) ⟨HS.out, HT.out, CO.out, CA.out⟩ ?_
          simp only [Act.put, List.setIfInBounds_toArray, List.set_cons_succ, List.set_cons_zero]
          refine wpAnyH_done (by kernel_rfl) ?_ _
          have hlen := hl2.out
          go_wp2_with fail
          refine ⟨⟨k + 1, by first | rfl | go_num | omega, by omega, HBr.out⟩, ?_⟩
          simp [intOf]; omega
        · obtain rfl : k = ts.length := by omega
          clear HBr hlt hk
          go_upto_region 13 with fail
          refine wp_region_lit ?_
          refine wl rfl (.int .i64 (ts.length : Nat)) _ (run_mvZ (.tmp 8) rfl (.int .i64 (ts.length : Nat)) rfl) ?_
          simp only [Act.put, List.setIfInBounds_toArray, List.set_cons_succ, List.set_cons_zero]
          refine wl rfl (.pointer (some ⟨qs, 0 + 1, none⟩)) _ (run_fieldOp' f24_1 (.tmp 2) rfl qs (0) rfl) ?_
          simp only [Act.put, List.setIfInBounds_toArray, List.set_cons_succ, List.set_cons_zero]
          refine wl rfl vt _ (run_load1 o22 (.tmp 61) rfl qs (0 + 1) rfl vt (HS.out.row.at (0 + 1) _ rfl)) ?_
          simp only [Act.put, List.setIfInBounds_toArray, List.set_cons_succ, List.set_cons_zero]
          refine wl rfl (.int .i64 (ts.length : Nat)) _ (run_lenI (.tmp 62) rfl vt ts rfl HS.out.sh.t) ?_
          simp only [Act.put, List.setIfInBounds_toArray, List.set_cons_succ, List.set_cons_zero]
          refine wl rfl (.bool false) _ (run_lssZ (.tmp 60) (.tmp 63) rfl (ts.length : Nat) (ts.length : Nat) rfl rfl false (decide_eq_false (by omega))) ?_
          simp only [Act.put, List.setIfInBounds_toArray, List.set_cons_succ, List.set_cons_zero]
          refine wpList_nil ?_
          go_upto_region 17 with fail
          refine wp_region_lit ?_
          refine wl rfl (.bool true) _ (run_mvZ (.tmp 5) rfl (.bool true) rfl) ?_
          simp only [Act.put, List.setIfInBounds_toArray, List.set_cons_succ, List.set_cons_zero]
          refine wl rfl (.bool true) _ (run_asZ (.tmp 78) rfl (.bool true) rfl) ?_
          simp only [Act.put, List.setIfInBounds_toArray, List.set_cons_succ, List.set_cons_zero]
          refine wpList_nil ?_
          go_wp2_with fail
          rw [HPQ.out]
          exact ⟨rfl, HW.out⟩

end Go.Proofs.Ytbmlbnbhjligdaa

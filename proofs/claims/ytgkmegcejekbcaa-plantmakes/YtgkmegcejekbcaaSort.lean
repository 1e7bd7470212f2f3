/- slices.SortFunc at writes with their devices: they come in the order of their steps. -/
import Derived.Test.YtgkmegcejekbcaaSettle
import Derived.Test.YtgkmegcejekbcaaShelf
namespace Go.Proofs.Ytgkmegcejekbcaa
open Go.RowKit Go.Maps Go.Sort Go.Lib

/-- the cells of a write with its device's number -/
def dCells (x : Wr) : List Value := .int .i64 (x.dev : Nat) :: wrCells x
def dcells (l : List Wr) : List Value := l.flatMap dCells
theorem dCells_length (x : Wr) (h : x.b.length = 64) : (dCells x).length = 67 := by simp [dCells, wrCells_length x h]
theorem dCells_one (x : Wr) : ∀ v ∈ dCells x, v.oneCell' = true := by
  intro v hv
  rcases List.mem_cons.1 hv with rfl | hv
  · rfl
  · exact wrCells_one x v hv
theorem dcells_snoc (l : List Wr) (x : Wr) : dcells (l ++ [x]) = dcells l ++ dCells x := by simp [dcells]
theorem dcells_length (l : List Wr) (h : ∀ x ∈ l, x.b.length = 64) : (dcells l).length = l.length * 67 := by
  induction l with
  | nil => rfl
  | cons x l ih =>
    have := ih (fun y hy => h y (by simp [hy]))
    simp only [dcells, List.flatMap_cons, List.length_append, List.length_cons] at *
    rw [this, dCells_length x (h x (by simp))]
    omega
theorem dcells_at (l : List Wr) (h : ∀ x ∈ l, x.b.length = 64) (j i : Nat) (x : Wr) (hj : l[j]? = some x) (hi : i < 67) : (dcells l)[j * 67 + i]? = (dCells x)[i]? := by
  induction l generalizing j with
  | nil => simp at hj
  | cons y l ih =>
    have hy := dCells_length y (h y (by simp))
    unfold dcells at *
    rw [List.flatMap_cons]
    cases j with
    | zero =>
      simp at hj
      subst hj
      rw [List.getElem?_append_left (by omega)]
      simp
    | succ j =>
      rw [List.getElem?_append_right (by omega), hy, show (j + 1) * 67 + i - 67 = j * 67 + i by omega]
      exact ih (fun z hz => h z (by simp [hz])) j (by simpa using hj)

/-- writes as they can be sorted -/
def WOk (x : Wr) : Prop := x.step < 4611686018427387904 ∧ x.b.length = 64
abbrev WS := { x : Wr // WOk x }
instance : Inhabited WS := ⟨⟨⟨0, 0, 0, List.replicate 64 0⟩, by decide, by simp⟩⟩
def encW (x : WS) : List Value := dCells x.1
def cfW (x y : WS) : Int := (x.1.step : Int) - (y.1.step : Int)
theorem ltW (x y : WS) : ltOf cfW x y = decide (x.1.step < y.1.step) := by
  unfold ltOf cfW
  congr 1
  simp only [eq_iff_iff]
  omega
theorem swoW : SWO (ltOf cfW) where
  irrefl x := by rw [ltW]; simp
  trans x y z h1 h2 := by rw [ltW] at *; simp at *; omega
  ntrans x y z h1 h2 := by rw [ltW] at *; simp at *; omega

section
variable {w : World} {ops : Array Oper} {rest : List Oper} {o : Oper} {a : Act} {Q : Exit → Act → World → Prop}
theorem wpList_boxE {t : Nat} (x : Operand) (hgd : o.guard = none) (ho : o.op = .box t x) (cs : List Value) (hx : a.eval x = .agg cs.toArray)
    (h : wpList Try.prog ops Q rest (a.put o.dst (.pointer (some ⟨w.heap.size, 0, none⟩))) (w.alloc (.cells cs.toArray t))) : wpList Try.prog ops Q (o :: rest) a w :=
  wpList_value hgd _ _ (by simp [execOp, ho, hx, Instr.box, newVar, newRow, Value.cells]) h
end

set_option maxHeartbeats 400000 in
set_option maxRecDepth 100000 in
theorem closure_any (x y : WS) (W : World) : Calls Try.prog 62 #[.agg (encW x).toArray, .agg (encW y).toArray] W fun e w' => e = .returned (.int .i64 (cfW x y)) ∧ ∃ q os', w' = grow (W.drewN q) os' := by
  obtain ⟨r, hr⟩ : ∃ r, r = cfW x y := ⟨_, rfl⟩
  obtain ⟨sx, hsx⟩ : ∃ sx, sx = x.1.step := ⟨_, rfl⟩
  obtain ⟨sy, hsy⟩ : ∃ sy, sy = y.1.step := ⟨_, rfl⟩
  have hx : sx < 4611686018427387904 := by rw [hsx]; exact x.2.1
  have hy : sy < 4611686018427387904 := by rw [hsy]; exact y.2.1
  rw [← hr]
  have HRR : Hid (r = (sx : Int) - (sy : Int)) := by rw [hr, hsx, hsy]; exact rfl
  go_enter Try.func62, Try.ntmps62
  go_upto_region 0 with fail
  refine wp_region_lit ?_
  refine wpList_boxE (.tmp 0) rfl rfl (encW x) rfl ?_
  refine wpList_boxE (.tmp 1) rfl rfl (encW y) rfl ?_
  refine wpList_assign (.const (.int .i64 0)) rfl rfl _ rfl ?_
  refine wpList_nil ?_
  simp only [Act.put, List.setIfInBounds_toArray, List.set_cons_succ, List.set_cons_zero]
  obtain ⟨w1, hw1⟩ : ∃ w1, w1 = W.alloc (.cells (encW x).toArray 93) := ⟨_, rfl⟩
  rw [← hw1]
  obtain ⟨w2, hw2⟩ : ∃ w2, w2 = w1.alloc (.cells (encW y).toArray 93) := ⟨_, rfl⟩
  rw [← hw2]
  have r1 : Row w1 W.heap.size 93 (encW x) := by rw [hw1]; exact Row.new W 93 _
  have r12 : Row w2 W.heap.size 93 (encW x) := by rw [hw2]; exact r1.alloc _
  have r2 : Row w2 w1.heap.size 93 (encW y) := by rw [hw2]; exact Row.new w1 93 _
  have cx : w2.cell? ⟨W.heap.size, 1, none⟩ = some (.int .i64 (sx : Nat)) := by rw [hsx]; exact r12.at 1 _ rfl
  have cy : w2.cell? ⟨w1.heap.size, 1, none⟩ = some (.int .i64 (sy : Nat)) := by rw [hsy]; exact r2.at 1 _ rfl
  have HG : Hid (w2 = grow (W.drewN 0) #[.cells (encW x).toArray 93, .cells (encW y).toArray 93]) := by
    rw [hw2, hw1, alloc_eq_grow, alloc_eq_grow, grow_grow]
    exact rfl
  generalize W.heap.size = g1 at *
  generalize w1.heap.size = g2 at *
  clear r1 r12 r2 hw2 hw1 hsx hsy hr
  go_wp2
  go_ret
  refine ⟨?_, 0, _, HG.out⟩
  rw [HRR.out]
  rfl

theorem cmpLaysW (blk off size : Nat) (w : World) : CmpLays Try.prog 62 #[] encW 67 cfW blk off size w := fun _ _ _ _ x y => closure_any x y _
theorem en62 : EntersF 62 := Go.Proofs.enters_of Try.func62 (by kernel_rfl) rfl
theorem sorted_ch {α : Type} [Inhabited α] (enc : α → List Value) (k : Nat) (w : World) (g off n : Nat) (d : Array α) (os : Array Obj) : Ch (· = g) w (sortWorldK enc k w g off n d os) := by
  unfold sortWorldK putRowK putRow mapBlock
  refine ⟨rfl, rfl, rfl, by simp [grow, Sort.ahead], fun b hb hne => ?_⟩
  rw [heap_grow_old _ _ (by simpa [Sort.ahead] using hb)]
  simp [Sort.ahead, Array.getElem?_modify, Ne.symm hne]

/-- one row of steps that rise is the only order -/
theorem sorted_unique : ∀ (l l' : List Wr), l.Perm l' → l.Pairwise (fun x y => x.step < y.step) → l'.Pairwise (fun x y => x.step ≤ y.step) → l' = l
  | [], l', hp, _, _ => by simpa using hp.symm
  | x :: l, l', hp, h1, h2 => by
    cases l' with
    | nil => simp at hp
    | cons y l' =>
      obtain ⟨hx, k1⟩ := List.pairwise_cons.1 h1
      obtain ⟨hy, k2⟩ := List.pairwise_cons.1 h2
      have hxm : x ∈ y :: l' := hp.subset (by simp)
      have hym : y ∈ x :: l := hp.symm.subset (by simp)
      have e : y = x := by
        rcases List.mem_cons.1 hym with e | hm
        · exact e
        · rcases List.mem_cons.1 hxm with e | hm'
          · exact e.symm
          · have := hx y hm
            have := hy x hm'
            omega
      subst e
      rw [sorted_unique l l' hp.cons_inv k1 k2]

theorem toWS (l : List Wr) (h : ∀ x ∈ l, WOk x) : ∃ d : List WS, d.map (·.1) = l :=
  ⟨l.attach.map fun x => ⟨x.1, h x.1 x.2⟩, by simp⟩

/-- the sort of writes that wait -/
theorem sort_any (l srt : List Wr) (hl : ∀ x ∈ l, WOk x) (hp : srt.Perm l) (ho : srt.Pairwise fun x y => x.step < y.step) (hlen : l.length < 4611686018427387904) (w : World) (b cap : Nat) (hb : b < w.heap.size) (hcell : ∀ j u, (dcells l)[j]? = some u → w.cell? ⟨b, 0 + j, none⟩ = some u ∧ w.frozen? ⟨b, 0 + j, none⟩ = false) :
    Calls Try.prog 61 #[.slice (some ⟨b, 0, none⟩) l.length cap, .func (.func 62) #[] #[]] w fun e w' => e = .returned noResult ∧ (∀ j u, (dcells srt)[j]? = some u → w'.cell? ⟨b, j, none⟩ = some u) ∧ Ch (· = b) w w' := by
  obtain ⟨d, hd⟩ := toWS l hl
  have hdl : d.toArray.size = l.length := by rw [← hd]; simp
  have hflat : ∀ (e : List WS) (j : Nat), j < e.length * 67 → (flatK encW 67 e.toArray)[j]! = (dcells (e.map (·.1)))[j]! := by
    intro e j hj
    rw [get_flatK encW 67 e.toArray j (by simpa using hj)]
    have hq : j / 67 < e.length := by omega
    have hx : (e.map (·.1))[j / 67]? = some e[j / 67].1 := by simp [hq]
    have := dcells_at (e.map (·.1)) (fun x hx => by obtain ⟨y, _, rfl⟩ := List.mem_map.1 hx; exact y.2.2) (j / 67) (j % 67) _ hx (by omega)
    rw [show j / 67 * 67 + j % 67 = j by omega] at this
    have e1 : e.toArray[j / 67]! = e[j / 67] := by simp [hq]
    rw [e1]
    unfold encW
    rw [List.getElem!_eq_getElem?_getD, List.getElem!_eq_getElem?_getD, this]
  have hH : HoldsK encW 67 w b 0 d.toArray := by
    intro j hj
    have hj' : j < d.length * 67 := by simpa using hj
    have hlt : j < (dcells l).length := by
      rw [dcells_length l (fun x hx => (hl x hx).2), ← hd]
      simpa using hj'
    have hc := hcell j _ (List.getElem?_eq_getElem hlt)
    refine ⟨?_, hc.2⟩
    rw [hc.1, hflat d j hj', hd]
    simp [hlt]
  have hcon := AnyQ.slices_SortFunc Try.laySort 67 Try.isAgg93 Try.sizeOf93 encW (fun x => dCells_length x.1 x.2.2) (fun x v hv => dCells_one x.1 v hv) cfW swoW 62 #[] b 0 cap d.toArray w en62 (cmpLaysW b 0 _ w) hH hb (by omega)
  change Calls Try.prog 61 _ _ _ at hcon
  rw [hdl] at hcon
  refine hcon.mono ?_
  rintro e w' ⟨rfl, d', n, os, hperm, hsort, rfl⟩
  obtain ⟨hsz, _, hpm⟩ := hperm
  have hpm' : d'.toList.Perm d := by
    have e1 : d'.extract 0 l.length = d' := by rw [← hdl, ← hsz]; simp
    have e2 : d.toArray.extract 0 l.length = d.toArray := by rw [← hdl]; simp
    rw [e1, e2] at hpm
    simpa using hpm
  have hsrt : (d'.toList.map (·.1)).Pairwise (fun x y : Wr => x.step ≤ y.step) := by
    rw [List.pairwise_map, List.pairwise_iff_getElem]
    intro i j hi hj hij
    have hj' : j < d'.size := by simpa using hj
    have := hsort i j (Nat.zero_le _) hij (by rw [← hdl, ← hsz]; exact hj')
    rw [ltW] at this
    simp only [decide_eq_false_iff_not] at this
    have e1 : d'[i]! = d'.toList[i] := by simp [show i < d'.size by omega]
    have e2 : d'[j]! = d'.toList[j] := by simp [hj']
    rw [e1, e2] at this
    omega
  have heq : d'.toList.map (·.1) = srt := by
    refine sorted_unique srt _ ?_ ho hsrt
    refine hp.trans ?_
    rw [← hd]
    exact (hpm'.map _).symm
  refine ⟨rfl, fun j u hu => ?_, sorted_ch encW 67 w b 0 n d' os⟩
  have hHH := holdsK_sortWorldK_c encW 67 w b 0 d.toArray d' n os hH hb (by rw [hsz])
  have hj : j < d'.toList.length * 67 := by
    have := (List.getElem?_eq_some_iff.1 hu).1
    rw [← heq, dcells_length _ (fun x hx => by obtain ⟨y, _, rfl⟩ := List.mem_map.1 hx; exact y.2.2)] at this
    simpa using this
  have := (hHH j (by simpa using hj)).1
  rw [Nat.zero_add] at this
  rw [this]
  have h2 := hflat d'.toList j hj
  rw [show d'.toList.toArray = d' from rfl] at h2
  rw [show (id (flatK encW 67 d')[j]!) = (flatK encW 67 d')[j]! from rfl, h2, heq]
  obtain ⟨hlt, rfl⟩ := List.getElem?_eq_some_iff.1 hu
  simp [hlt]
end Go.Proofs.Ytgkmegcejekbcaa

/- The walk of plant.New. -/
import Derived.Test.YtgkmegcejekbcaaNewDev
namespace Go.Proofs.Ytgkmegcejekbcaa
open Go.RowKit Go.Maps

/-- a plant as it is made -/
def newPl (ds ts : List Int) : Pl :=
  let sh := ds.map (fun n => (false, n.toNat)) ++ ts.map (fun n => (true, n.toNat))
  { sh := sh, fl := fun i => fresh (sh.getD i (false, 0)).1 (sh.getD i (false, 0)).2, wts := [], on := true, fuse := -1, steps := 0, clock := 0 }
def shapeOk (ds ts : List Int) : Bool := decide (1 ≤ ds.length + ts.length) && (decide (ds.length + ts.length ≤ 12) && (sizesOk ds && sizesOk ts))
theorem newPl_n (ds ts : List Int) : (newPl ds ts).n = ds.length + ts.length := by simp [newPl, Pl.n]
theorem newPl_disk (ds ts : List Int) (i : Nat) (h : i < ds.length) : (newPl ds ts).tape i = false ∧ (newPl ds ts).size i = (ds.getD i 0).toNat := by
  unfold Pl.tape Pl.size newPl
  simp [List.getElem?_append_left, h]
theorem newPl_tape (ds ts : List Int) (i : Nat) (h : i < ts.length) : (newPl ds ts).tape (ds.length + i) = true ∧ (newPl ds ts).size (ds.length + i) = (ts.getD i 0).toNat := by
  unfold Pl.tape Pl.size newPl
  simp [h]

def NewIn (W : World) (c : Nat → Colour) (t gp B : Nat) (m : Pl) (k : Nat) : Prop :=
  ∃ (v : Value) (gl : List Nat), Row W gp 69 [v, .bool true, .int .i64 (-1), .int .i64 0, .int .i64 0] ∧ c gp = (t, 0) ∧ gl.length = k ∧ W.ownsRow B 70 1 v k (gl.map ptr) ∧ (∀ b, v.ownBlock = some b → c b = (t, 0)) ∧
    ∀ i, i < k → DevIn W c (t, i + 1) (gl.getD i 0) (m.tape i) (m.size i) (fresh (m.tape i) (m.size i)) []
theorem info70 : (Try.prog.info? 70).map (fun i => (i.zero, i.size, i.bytes)) = some (some (.pointer none), 1, 8) := by kernel_rfl
theorem size67 : (Try.prog.info? 67).map (·.size) = some 1 := by kernel_rfl
theorem run_onePtr (w : World) (g : Nat) : (Instr.buildSlice 67 1 #[(0, ptr g)]).run Try.prog w = .ok (.slice (some ⟨w.heap.size, 0, none⟩) 1 1) (w.alloc (.cells #[ptr g] 70)) := by kernel_rfl
theorem en38 : EntersF 38 := Go.Proofs.enters_of Try.func38 (by kernel_rfl) rfl
theorem ptrs_one (gl : List Nat) : ∀ v ∈ gl.map ptr, v.oneCell' = true := by
  intro v hv
  obtain ⟨g, _, rfl⟩ := List.mem_map.1 hv
  rfl

/-- one more device is there -/
theorem new_step {W W5 W7 : World} {c : Nat → Colour} {t gp B k gd : Nat} {m : Pl} {v v7 : Value} {gl : List Nat} (hr : Row W gp 69 [v, .bool true, .int .i64 (-1), .int .i64 0, .int .i64 0]) (hcg : c gp = (t, 0)) (hgl : gl.length = k) (ho : W.ownsRow B 70 1 v k (gl.map ptr)) (hob : ∀ b, v.ownBlock = some b → c b = (t, 0))
    (hdv : ∀ i, i < k → DevIn W c (t, i + 1) (gl.getD i 0) (m.tape i) (m.size i) (fresh (m.tape i) (m.size i)) [])
    (hd : DevIn W5 (paint c W.heap.size (t, k + 1)) (t, k + 1) gd (m.tape k) (m.size k) (fresh (m.tape k) (m.size k)) []) (hb5 : Below W.heap.size W W5)
    (ho7 : W7.ownsRow B 70 1 v7 (k + 1) (gl.map ptr ++ [ptr gd])) (hg7 : (W5.alloc (.cells #[ptr gd] 70)).grownBy W7 v.ownBlock) (hloc : v7.ownBlock = v.ownBlock ∨ v7.ownBlock = some (W5.alloc (.cells #[ptr gd] 70)).heap.size) :
    NewIn (W7.setRow gp ([v7, .bool true, .int .i64 (-1), .int .i64 0, .int .i64 0] : List Value).toArray) (paint (paint c W.heap.size (t, k + 1)) W5.heap.size (t, 0)) t gp B m (k + 1) ∧
    (∀ b, b < W.heap.size → paint (paint c W.heap.size (t, k + 1)) W5.heap.size (t, 0) b = c b) ∧ Row W7 gp 69 [v, .bool true, .int .i64 (-1), .int .i64 0, .int .i64 0] ∧
    ∀ b T cs, T ≠ 70 → b ≠ gp → Row W b T cs → Row (W7.setRow gp ([v7, .bool true, .int .i64 (-1), .int .i64 0, .int .i64 0] : List Value).toArray) b T cs := by
  obtain ⟨c2, hc2⟩ : ∃ c2, c2 = paint (paint c W.heap.size (t, k + 1)) W5.heap.size (t, 0) := ⟨_, rfl⟩
  have hsz := hb5.size
  have hold : ∀ b, b < W.heap.size → c2 b = c b := fun b hb => by rw [hc2, paint_old _ _ _ _ (by omega), paint_old _ _ _ _ hb]
  have hmid : ∀ b, b < W5.heap.size → c2 b = paint c W.heap.size (t, k + 1) b := fun b hb => by rw [hc2, paint_old _ _ _ _ hb]
  have hnew : ∀ b, W5.heap.size ≤ b → c2 b = (t, 0) := fun b hb => by rw [hc2, paint_new _ _ _ _ hb]
  have hgp := hr.lt
  have hne : ∀ b, v.ownBlock = some b → b ≠ gp := fun b hb => by
    obtain ⟨_, h⟩ := ho
    rcases h with ⟨rfl, _⟩ | ⟨g', cp, cur, rfl, _, hg, _⟩
    · cases hb
    · cases hb
      rintro rfl
      rw [show W.heap[g']? = _ from hr] at hg
      cases hg
  have k7 : ∀ b, b < W5.heap.size → v.ownBlock ≠ some b → W7.heap[b]? = W5.heap[b]? := fun b hb hn => by
    rw [hg7.block b (by simp; omega) (fun e => hn e.symm)]
    exact Below.heap_alloc _ _ _ hb
  have hr7 : Row W7 gp 69 [v, .bool true, .int .i64 (-1), .int .i64 0, .int .i64 0] := by
    show W7.heap[gp]? = _
    rw [k7 gp (by omega) (fun e => hne gp e rfl), hb5.block gp hgp]
    exact hr
  rw [← hc2]
  refine ⟨⟨v7, gl ++ [gd], hr7.setRow _, (hold gp hgp).trans hcg, by simp [hgl], ?_, ?_, ?_⟩, hold, hr7, fun b T cs hT hb hrb => ?_⟩
  · have e : (gl ++ [gd]).map ptr = gl.map ptr ++ [ptr gd] := by simp
    rw [e]
    obtain ⟨hl, h⟩ := ho7
    refine ⟨hl, ?_⟩
    rcases h with h | ⟨g', cp, cur, rfl, h0, hg, h⟩
    · exact Or.inl h
    · refine Or.inr ⟨g', cp, cur, rfl, h0, ?_, h⟩
      rw [Go.setRow_other W7 gp g' _ ?_]
      · exact hg
      · rintro rfl
        rw [show W7.heap[g']? = _ from hr7] at hg
        cases hg
  · intro b hb
    rcases hloc with hl | hl
    · have hvb : v.ownBlock = some b := hl ▸ hb
      have hlt : b < W.heap.size := (ho.lt b hvb).2
      rw [hold b hlt]
      exact hob b hvb
    · rw [hl] at hb
      cases hb
      exact hnew _ (by simp)
  · intro i hi
    by_cases hik : i < k
    · have e : (gl ++ [gd]).getD i 0 = gl.getD i 0 := by simp [List.getElem?_append_left (show i < gl.length by omega)]
      rw [e]
      refine (hdv i hik).kept fun b hb hk => ⟨?_, (hold b hb).trans hk⟩
      have h1 : b ≠ gp := by rintro rfl; rw [hcg] at hk; simp at hk
      have h2 : v.ownBlock ≠ some b := fun e => by
        have := hob b e
        rw [this] at hk
        simp at hk
      rw [Go.setRow_other W7 gp b _ h1, k7 b (by omega) h2, hb5.block b hb]
    · have e0 : i = k := by omega
      subst e0
      have e : (gl ++ [gd]).getD i 0 = gd := by rw [← hgl]; simp
      rw [e]
      refine hd.kept fun b hb hk => ⟨?_, by rw [hmid b hb]; exact hk⟩
      have h1 : b ≠ gp := by
        rintro rfl
        rw [paint_old _ _ _ _ hgp, hcg] at hk
        simp at hk
      have h2 : v.ownBlock ≠ some b := fun e => by
        have hlt : b < W.heap.size := (ho.lt b e).2
        rw [paint_old _ _ _ _ hlt, hob b e] at hk
        simp at hk
      rw [Go.setRow_other W7 gp b _ h1, k7 b hb h2]
  · show (W7.setRow gp _).heap[b]? = _
    rw [Go.setRow_other W7 gp b _ hb, k7 b (by have := hrb.lt; omega) ?_, hb5.block b hrb.lt]
    · exact hrb
    · intro e
      obtain ⟨_, h⟩ := ho
      rcases h with ⟨rfl, _⟩ | ⟨g', cp, cur, rfl, _, hg, _⟩
      · cases e
      · cases e
        rw [show W.heap[g']? = _ from hrb] at hg
        simp at hg
        exact hT hg.2
/-- all devices are there -/
theorem new_done {W : World} {c : Nat → Colour} {t gp B : Nat} {ds ts : List Int} (h : NewIn W c t gp B (newPl ds ts) (ds.length + ts.length)) (hpos : 1 ≤ ds.length + ts.length) : ∃ db cap gs, PlantAt W c t gp db cap gs (newPl ds ts) := by
  obtain ⟨v, gl, hr, hcg, hgl, ho, hob, hdv⟩ := h
  obtain ⟨hl, ho⟩ := ho
  rcases ho with ⟨_, h0⟩ | ⟨db, cap, cur, rfl, _, hg, hc1, _, _, hcur⟩
  · omega
  · have hn := newPl_n ds ts
    refine ⟨db, cap, fun i => gl.getD i 0, ⟨?_, hcg, hob db rfl, ?_, (Array.getElem?_eq_some_iff.1 hg).1, by rw [hn]; exact hc1, fun i hi => ?_, fun i hi => ?_⟩⟩
    · unfold plCells
      rw [hn]
      exact hr
    · rintro rfl
      rw [show W.heap[db]? = _ from hr] at hg
      simp at hg
    · rw [hn] at hi
      have : (gl.map ptr)[i]? = some (ptr (gl.getD i 0)) := by simp [show i < gl.length by omega]
      rw [← hcur, List.getElem?_take] at this
      split at this
      · simp [World.cell?, hg]
        simpa using this
      · cases this
    · have e1 : (newPl ds ts).fl i = fresh ((newPl ds ts).tape i) ((newPl ds ts).size i) := rfl
      have e2 : (newPl ds ts).wt i = [] := rfl
      rw [e1, e2]
      exact hdv i (by rw [← hn]; exact hi)
end Go.Proofs.Ytgkmegcejekbcaa

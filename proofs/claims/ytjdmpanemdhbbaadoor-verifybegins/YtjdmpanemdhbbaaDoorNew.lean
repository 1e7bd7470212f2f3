/- The walks of sha.New and of sha.Sum. -/
import Derived.Test.YtjdmpanemdhbbaaDoorSum
namespace Go.Proofs.YtjdmpanemdhbbaaDoor
open Go.RowKit

/-- the start lies in its place -/
def StartIn (w : World) : Prop := ∀ i : Nat, i < 8 → w.cell? ⟨0, i, none⟩ = some (.int .u32 (Sha.U (Sha.start.list.getD i 0)))
theorem StartIn.later {w wx : World} (hb : Below w.heap.size w wx) (h : StartIn w) : StartIn wx := fun t ht => cell_later hb (h t ht)
theorem Only.startIn {g : Nat} {w w' : World} (h : Only g w w') (hg : 1 < g) (hr : StartIn w) : StartIn w' := fun t ht => h.cell (by omega) (hr t ht)

/-- a State that has taken nothing -/
def newCells : List Value := stCells Sha.start (List.replicate 64 0) 0
theorem full_nil : Sha.full [] = Sha.start := rfl
theorem stIn_new {w : World} {g : Nat} (h : Row w g 70 newCells) : StIn w g [] := by
  refine ⟨List.replicate 64 0, ?_, by simp, ?_, rfl⟩
  · rw [full_nil]
    exact h
  · intro c hc
    have := (List.mem_replicate.1 hc).2
    omega
theorem start_one : ∀ v ∈ wcells Sha.start.list, v.oneCell' = true := wcells_one _

section
variable {w : World} {ops : Array Oper} {rest : List Oper} {o : Oper} {a : Act} {Q : Exit → Act → World → Prop}
theorem run_build : (Instr.build 70 #[(0, .agg (wcells Sha.start.list).toArray)]).run Tryd.prog w = .ok (.agg newCells.toArray) w := by
  kernel_rfl
theorem wpList_build (x : Operand) (hgd : o.guard = none) (ho : o.op = .build 70 #[(0, x)]) (hx : a.eval x = .agg (wcells Sha.start.list).toArray)
    (h : wpList Tryd.prog ops Q rest (a.put o.dst (.agg newCells.toArray)) w) : wpList Tryd.prog ops Q (o :: rest) a w :=
  wpList_value hgd _ w (by simp [execOp, ho, hx, run_build]) h
end
theorem newCells_length : newCells.length = 73 := by unfold newCells; rw [stCells_length]; simp
theorem start_at {w : World} (h : StartIn w) : ∀ j v, (wcells Sha.start.list)[j]? = some v → w.cell? ⟨0, 0 + j, none⟩ = some v := by
  intro j v hv
  have hj : j < 8 := by
    have := (List.getElem?_eq_some_iff.1 hv).1
    rwa [len8] at this
  rw [Nat.zero_add, h j hj, ← hv, wcells_at Sha.start.list j hj]
theorem TabIn.lt {w : World} (h : TabIn w) : 1 < w.heap.size := block_lt_of_cell (h 0 (by decide))

set_option maxHeartbeats 1000000 in
set_option maxRecDepth 100000 in
theorem sum_any (v : Value) (cs : List Nat) (w : World) (hv : SliceIn w v cs) (ht : TabIn w) (hst : StartIn w) (hlen : cs.length < 1152921504606846976) :
    Calls Tryd.prog 30 #[v] w fun e w' => e = .returned (.agg (bcells (Sha.sha cs)).toArray) ∧ Below w.heap.size w w' := by
  have h1lt := ht.lt
  go_enter Tryd.func30, Tryd.ntmps30
  go_upto_region 0 with fail
  refine wp_region_lit ?_
  refine wpList_alloc' (zerosU8 32) zero25 rfl rfl ?_
  intro w1 r1 s1 b1
  refine wpList_nil ?_
  go_upto_region 1 with fail
  refine wp_region_lit ?_
  refine wpList_load agg37 (.global 0) rfl rfl 0 0 rfl (wcells Sha.start.list) (len8 _) (start_at (hst.later b1)) ?_
  refine wpList_build (.tmp 4) rfl rfl rfl ?_
  refine wpList_alloc' zeroState zero41 rfl rfl ?_
  intro w2 r2 s2 b2
  refine wpList_store0 agg41 (.tmp 3) (.tmp 5) rfl rfl rfl w1.heap.size 0 70 rfl newCells zeroState rfl newCells_length r2 (by rw [newCells_length, zeroState_length]; decide) (stCells_one _ _ _) ?_
  refine wpList_nil ?_
  rw [splice_all _ _ (by rw [newCells_length, zeroState_length])]
  have hs3 : StIn (w2.setRow w1.heap.size newCells.toArray) w1.heap.size [] := stIn_new (r2.setRow _)
  have b3 : Below w.heap.size w (w2.setRow w1.heap.size newCells.toArray) := below_setRow (b1.trans (b2.mono (by omega))) (by omega) _
  have r3 : Row (w2.setRow w1.heap.size newCells.toArray) w.heap.size 23 (zerosU8 32) := (r1.later b2 (by omega)).setRow_other (by omega) _
  obtain ⟨g3, hg3⟩ : ∃ g3, g3 = w1.heap.size := ⟨_, rfl⟩
  obtain ⟨g2, hg2⟩ : ∃ g2, g2 = w.heap.size := ⟨_, rfl⟩
  rw [← hg3] at hs3 b3 r3 ⊢
  rw [← hg2] at r3 ⊢
  have h23 : g2 < g3 := by omega
  have HG2 : Hid (g2 = w.heap.size) := hg2
  generalize w2.setRow g3 newCells.toArray = w3 at *
  clear r1 r2 b1 b2 s1 s2 hg3 hg2
  go_wp2_with fail
  refine (write_any g3 v [] cs _ hs3 (hv.off (by have := HG2.out; omega) b3) (ht.later b3) (by have := HG2.out; omega) (by simp; omega)).mono ?_
  rintro e w4 ⟨rfl, hs4, ho4⟩
  have b4 : Below w.heap.size w w4 := b3.trans (ho4.below (by have := HG2.out; omega) b3.size)
  have r4 : Row w4 g2 23 (zerosU8 32) := ho4.row (by omega) r3
  rw [List.nil_append] at hs4
  clear hs3 b3 r3 ho4
  go_upto_region 3 with fail
  refine wp_region_lit ?_
  have hcall := stateSum_any g3 cs w4 hs4 (ht.later b4) (by have := HG2.out; omega) hlen
  go_wp2_with (go_at_call 43; refine hcall.mono ?_)
  rintro e w5 ⟨rfl, b5⟩
  have b6 : Below w.heap.size w w5 := b4.trans (b5.mono b4.size)
  have r5 := r4.later b5 r4.lt
  clear hcall hs4 r4 b4 b5
  have hl32 : (bcells (Sha.sha cs)).length = 32 := by rw [bcells_length, sha_length]
  simp only []
  go_step
  refine wpList_store0 agg25 (.tmp 2) (.tmp 8) rfl rfl rfl g2 0 23 rfl (bcells (Sha.sha cs)) (zerosU8 32) rfl hl32 r5 (by rw [hl32]; simp [zerosU8]) (bcells_one _) ?_
  refine wpList_nil ?_
  rw [splice_all _ _ (by rw [hl32]; simp [zerosU8])]
  have hr := r5.setRow (bcells (Sha.sha cs))
  have hbl := below_setRow b6 (show w.heap.size ≤ g2 by have := HG2.out; omega) (bcells (Sha.sha cs)).toArray
  clear r5 b6
  go_wp2
  exact bodyPost_ret (results_cell agg25 Tryd.results30 _ _ g2 23 rfl _ hl32 hr) rfl ⟨rfl, hbl⟩
end Go.Proofs.YtjdmpanemdhbbaaDoor

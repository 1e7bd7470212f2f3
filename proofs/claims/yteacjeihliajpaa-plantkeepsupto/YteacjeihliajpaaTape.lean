/- What becomes of one tape's blocks, and the walk of the law PlantTapes. -/
import Derived.Test.YteacjeihliajpaaShown
namespace Go.Proofs.Yteacjeihliajpaa
open Go.RowKit Go.Maps

/-- where all writes are of one tape, a boot keeps a beginning, perhaps with a torn block at its end -/
theorem boot_tape {m : Pl} (ks : List Int) (d : Nat) (ht : m.tape d = true) (hall : ∀ x ∈ m.wts, x.dev = d) : ∀ n, n ≤ m.wts.length →
    ((bootTo m ks n).2 d = false ∧ (bootTo m ks n).1 d = m.fl d ++ (m.wts.take n).map (·.b)) ∨
    ((bootTo m ks n).2 d = true ∧ ∃ k x, k < n ∧ m.wts[k]? = some x ∧ ((bootTo m ks n).1 d = m.fl d ++ (m.wts.take k).map (·.b) ∨ (bootTo m ks n).1 d = m.fl d ++ (m.wts.take k).map (·.b) ++ [torn x.b]))
  | 0, _ => Or.inl ⟨rfl, by simp [bootTo]⟩
  | n + 1, hn => by
    obtain ⟨x, hx⟩ : ∃ x, m.wts[n]? = some x := ⟨_, List.getElem?_eq_getElem (by omega)⟩
    have hxd : x.dev = d := hall x (List.mem_of_getElem? hx)
    rw [bootTo_succ m ks n x hx]
    unfold bootStep
    rcases boot_tape ks d ht hall n (by omega) with ⟨he, hf⟩ | ⟨he, k, y, hk, hy, hf⟩
    · rw [if_neg (by rw [hxd, he]; simp), hxd, ht]
      simp only [upd, if_true]
      unfold goesOn settled
      by_cases hodd : bootK ks n % 2 = 1
      · left
        refine ⟨by simp [hodd], ?_⟩
        rw [if_pos hodd]
        unfold lay
        rw [if_pos rfl, hf, take_next _ n x hx]
        simp
      · right
        refine ⟨by simp [hodd], n, x, by omega, hx, ?_⟩
        rw [if_neg hodd]
        by_cases h4 : bootK ks n % 4 = 2
        · right
          rw [if_pos ⟨rfl, h4⟩]
          unfold lay
          rw [if_pos rfl, hf]
        · left
          rw [if_neg (by simp [h4]), hf]
    · rw [if_pos (by rw [hxd, he])]
      exact Or.inr ⟨he, k, y, by omega, hy, hf⟩

/-- what a tape of 40 blocks has behind some appends: A is flushed, Bl waits -/
structure TapeIs (m : Pl) (A Bl : List Nat) : Prop where
  wf : m.WF
  sh : m.sh = [(false, 1), (true, 40)]
  on : m.on = true
  fuse : m.fuse = -1
  fl : m.fl 1 = A.map ones
  wt : m.wts.map (·.b) = Bl.map ones
  dev : ∀ x ∈ m.wts, x.dev = 1
theorem TapeIs.n {m : Pl} {A Bl : List Nat} (h : TapeIs m A Bl) : m.n = 2 := by unfold Pl.n; rw [h.sh]; rfl
theorem TapeIs.tape {m : Pl} {A Bl : List Nat} (h : TapeIs m A Bl) : m.tape 1 = true := by unfold Pl.tape; rw [h.sh]; rfl
theorem TapeIs.size {m : Pl} {A Bl : List Nat} (h : TapeIs m A Bl) : m.size 1 = 40 := by unfold Pl.size; rw [h.sh]; rfl
theorem TapeIs.wt1 {m : Pl} {A Bl : List Nat} (h : TapeIs m A Bl) : m.wt 1 = m.wts := by
  unfold Pl.wt
  exact List.filter_eq_self.2 fun x hx => by simp [h.dev x hx]
theorem TapeIs.wlen {m : Pl} {A Bl : List Nat} (h : TapeIs m A Bl) : m.wts.length = Bl.length := by
  have := congrArg List.length h.wt
  simpa using this
theorem TapeIs.len {m : Pl} {A Bl : List Nat} (h : TapeIs m A Bl) : m.len 1 = A.length + Bl.length := by
  unfold Pl.len
  rw [if_pos h.tape, h.wt1, h.fl, h.wlen]
  simp
theorem TapeIs.has {m : Pl} {A Bl : List Nat} (h : TapeIs m A Bl) : m.has 1 := by
  unfold Pl.has
  rw [h.n]
  decide
theorem tape_new : TapeIs (newPl [1] [40]) [] [] := ⟨newPl_wf _ _ (by decide), rfl, rfl, rfl, rfl, rfl, fun x hx => by cases hx⟩
theorem TapeIs.step_fuse {m : Pl} {A Bl : List Nat} (h : TapeIs m A Bl) : m.step = { m with steps := m.steps + 1 } := by
  unfold Pl.step
  rw [if_neg (by rw [h.fuse]; decide), h.fuse]
  simp
/-- one more block -/
theorem TapeIs.append {m : Pl} {A Bl : List Nat} (h : TapeIs m A Bl) (x : Nat) (hx : x < 256) (hl : A.length + Bl.length < 40) :
    (m.append 1 (ones x)).1 = A.length + Bl.length ∧ (m.append 1 (ones x)).2.1 = 0 ∧ TapeIs (m.append 1 (ones x)).2.2 A (Bl ++ [x]) ∧ (m.append 1 (ones x)).2.2.steps = m.steps + 1 := by
  have hwf := Pl.append_wf h.wf 1 (ones x) (ones_sec x hx).2
  have e : m.append 1 (ones x) = (A.length + Bl.length, 0, m.step.wait 1 (A.length + Bl.length) (ones x)) := by
    unfold Pl.append
    rw [if_neg (by rw [h.on]; decide), if_neg (by simp only [Classical.not_not]; exact ⟨h.has, h.tape⟩), if_neg (by simp [ones]), if_neg (by rw [show ((1 : Int)).toNat = 1 from rfl, h.size, h.len]; omega), if_neg (by rw [h.fuse]; decide)]
    rw [show ((1 : Int)).toNat = 1 from rfl, h.len]
  rw [e] at hwf ⊢
  refine ⟨rfl, rfl, ⟨hwf, ?_, ?_, ?_, ?_, ?_, ?_⟩, ?_⟩
  · show m.step.sh = _
    rw [m.step_sh, h.sh]
  · show m.step.on = true
    rw [h.step_fuse]
    exact h.on
  · show m.step.fuse = -1
    rw [h.step_fuse]
    exact h.fuse
  · show m.step.fl 1 = _
    rw [m.step_fl, h.fl]
  · show (m.step.wts ++ [(⟨1, m.step.steps, A.length + Bl.length, ones x⟩ : Wr)]).map (·.b) = _
    rw [m.step_wts, List.map_append, h.wt]
    simp
  · intro y hy
    have hy' : y ∈ m.step.wts ++ [⟨1, m.step.steps, A.length + Bl.length, ones x⟩] := hy
    rw [m.step_wts] at hy'
    rcases List.mem_append.1 hy' with hy | hy
    · exact h.dev y hy
    · rw [List.mem_singleton.1 hy]
  · show m.step.steps = _
    rw [h.step_fuse]
/-- the tape is full -/
theorem TapeIs.full {m : Pl} {A Bl : List Nat} (h : TapeIs m A Bl) (x : Nat) (hl : 40 ≤ A.length + Bl.length) : m.append 1 (ones x) = (0, 3, m) := by
  unfold Pl.append
  rw [if_neg (by rw [h.on]; decide), if_neg (by simp only [Classical.not_not]; exact ⟨h.has, h.tape⟩), if_neg (by simp [ones]), if_pos (by rw [show ((1 : Int)).toNat = 1 from rfl, h.size, h.len]; omega)]
theorem layAll_tape (fl : List (List Nat)) (l : List Wr) : layAll true fl l = fl ++ l.map (·.b) := by
  induction l generalizing fl with
  | nil => simp [layAll]
  | cons x l ih =>
    have e : layAll true fl (x :: l) = layAll true (lay true fl x.place x.b) l := rfl
    rw [e, ih]
    simp [lay]
theorem TapeIs.flush {m : Pl} {A Bl : List Nat} (h : TapeIs m A Bl) : (m.flush 1).1 = 0 ∧ TapeIs (m.flush 1).2 (A ++ Bl) [] ∧ (m.flush 1).2.steps = m.steps + 1 := by
  have hwf := Pl.flush_wf h.wf 1
  have e : m.flush 1 = (0, m.step.flushed 1) := by
    unfold Pl.flush
    rw [if_neg (by rw [h.on]; decide), if_neg (by simp only [Classical.not_not]; exact h.has), if_neg (by rw [h.fuse]; decide)]
    rfl
  rw [e] at hwf ⊢
  have hn : (m.step.flushed 1).wts = [] := by
    show m.step.wts.filter _ = []
    rw [m.step_wts, List.filter_eq_nil_iff]
    intro x hx
    simp [h.dev x hx]
  refine ⟨rfl, ⟨hwf, ?_, ?_, ?_, ?_, by rw [hn]; rfl, by rw [hn]; intro x hx; cases hx⟩, ?_⟩
  · show m.step.sh = _
    rw [m.step_sh, h.sh]
  · show m.step.on = true
    rw [h.step_fuse]
    exact h.on
  · show m.step.fuse = -1
    rw [h.step_fuse]
    exact h.fuse
  · have e2 : (m.step.flushed 1).fl 1 = layAll (m.step.tape 1) (m.step.fl 1) (m.step.wt 1) := by unfold Pl.flushed upd; simp
    show (m.step.flushed 1).fl 1 = _
    rw [e2, m.step_tape, m.step_fl, m.step_wt, h.tape, h.wt1, layAll_tape, h.fl, h.wt]
    simp
  · show m.step.steps = _
    rw [h.step_fuse]
/-- behind a boot -/
theorem TapeIs.boot {m : Pl} {A Bl : List Nat} (h : TapeIs m A Bl) (ks : List Int) : (m.boot ks).WF ∧ (m.boot ks).sh = [(false, 1), (true, 40)] ∧ (m.boot ks).on = true ∧ (m.boot ks).fuse = -1 ∧ (m.boot ks).wts = [] ∧ (m.boot ks).steps = m.steps ∧
    ∃ k, k ≤ Bl.length ∧ ((m.boot ks).fl 1 = (A ++ Bl.take k).map ones ∨ (∃ x, Bl[k]? = some x ∧ (m.boot ks).fl 1 = (A ++ Bl.take k).map ones ++ [torn (ones x)])) := by
  refine ⟨Pl.boot_wf h.wf ks, h.sh, rfl, rfl, rfl, rfl, ?_⟩
  have hm : ∀ k, (m.wts.take k).map (·.b) = (Bl.take k).map ones := fun k => by rw [List.map_take, h.wt, List.map_take]
  rcases boot_tape ks 1 h.tape h.dev m.wts.length (Nat.le_refl _) with ⟨_, hf⟩ | ⟨_, k, x, hk, hx, hf⟩
  · refine ⟨Bl.length, Nat.le_refl _, Or.inl ?_⟩
    show (bootTo m ks m.wts.length).1 1 = _
    rw [hf, h.fl, hm, h.wlen]
    simp
  · have hkl : k < Bl.length := by rw [← h.wlen]; exact hk
    refine ⟨k, by omega, ?_⟩
    have hxb : x.b = ones (Bl[k]'hkl) := by
      have : (m.wts.map (·.b))[k]? = some x.b := by simp [hx]
      rw [h.wt] at this
      simp [hkl] at this
      exact this.symm
    rcases hf with hf | hf
    · left
      show (bootTo m ks m.wts.length).1 1 = _
      rw [hf, h.fl, hm]
      simp
    · right
      refine ⟨Bl[k], List.getElem?_eq_getElem hkl, ?_⟩
      show (bootTo m ks m.wts.length).1 1 = _
      rw [hf, h.fl, hm, hxb]
      simp
end Go.Proofs.Yteacjeihliajpaa

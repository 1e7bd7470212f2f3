/- What the calls make of a plant. -/
import Derived.Test.YtgkmegcejekbcaaMath
namespace Go.Proofs.Ytgkmegcejekbcaa

/-- is there such a device, such a place -/
def Pl.has (m : Pl) (d : Int) : Prop := 0 ≤ d ∧ d < (m.n : Int)
instance (m : Pl) (d : Int) : Decidable (m.has d) := inferInstanceAs (Decidable (_ ∧ _))
/-- Write: the answer, and the plant behind it -/
def Pl.write (m : Pl) (d p : Int) (s : List Nat) : Int × Pl :=
  if m.on = false then (2, m)
  else if ¬ (m.has d ∧ m.tape d.toNat = false ∧ 0 ≤ p ∧ p < (m.size d.toNat : Int)) then (31, m)
  else if s.length ≠ 64 then (32, m)
  else if m.fuse = 0 then (2, m.step)
  else (0, m.step.wait d.toNat p.toNat s)
/-- Append: the place, the answer, the plant -/
def Pl.append (m : Pl) (d : Int) (s : List Nat) : Nat × Int × Pl :=
  if m.on = false then (0, 2, m)
  else if ¬ (m.has d ∧ m.tape d.toNat = true) then (0, 31, m)
  else if s.length ≠ 64 then (0, 32, m)
  else if m.size d.toNat ≤ m.len d.toNat then (0, 3, m)
  else if m.fuse = 0 then (0, 2, m.step)
  else (m.len d.toNat, 0, m.step.wait d.toNat (m.len d.toNat) s)
def Pl.flush (m : Pl) (d : Int) : Int × Pl :=
  if m.on = false then (2, m) else if ¬ m.has d then (31, m) else if m.fuse = 0 then (2, m.step) else (0, m.step.flushed d.toNat)
/-- Read: the bytes, the answer -/
def Pl.read (m : Pl) (d p : Int) : Option (List Nat) × Int :=
  if m.on = false then (none, 2) else if ¬ (m.has d ∧ 0 ≤ p ∧ p < (m.len d.toNat : Int)) then (none, 31) else (some (m.rd d.toNat p.toNat), 0)

theorem Pl.step_sh (m : Pl) : m.step.sh = m.sh := by unfold Pl.step; split <;> rfl
theorem Pl.step_fl (m : Pl) : m.step.fl = m.fl := by unfold Pl.step; split <;> rfl
theorem Pl.step_wts (m : Pl) : m.step.wts = m.wts := by unfold Pl.step; split <;> rfl
theorem Pl.step_n (m : Pl) : m.step.n = m.n := by unfold Pl.n; rw [m.step_sh]
theorem Pl.step_tape (m : Pl) (i : Nat) : m.step.tape i = m.tape i := by unfold Pl.tape; rw [m.step_sh]
theorem Pl.step_size (m : Pl) (i : Nat) : m.step.size i = m.size i := by unfold Pl.size; rw [m.step_sh]
theorem Pl.step_wt (m : Pl) (i : Nat) : m.step.wt i = m.wt i := by unfold Pl.wt; rw [m.step_wts]
theorem Pl.step_len (m : Pl) (i : Nat) : m.step.len i = m.len i := by unfold Pl.len; rw [m.step_tape, m.step_fl, m.step_wt, m.step_size]
theorem Pl.step_steps (m : Pl) (h : m.fuse ≠ 0) : m.step.steps = m.steps + 1 := by unfold Pl.step; rw [if_neg h]
theorem Pl.step_wf {m : Pl} (h : m.WF) : m.step.WF := by
  have e := m.step_sh
  have e1 := m.step_fl
  have e2 := m.step_wts
  have hs : m.steps ≤ m.step.steps := by unfold Pl.step; split <;> simp
  refine ⟨by rw [e]; exact h.few, by rw [e]; exact h.pos, fun i hi => by rw [m.step_size]; exact h.sizes i (by rwa [e] at hi), fun i => by rw [e1]; exact h.secs i, fun i hi ht => by rw [e1, m.step_size]; exact h.disk i (by rwa [e] at hi) (by rwa [m.step_tape] at ht),
    fun i hi ht => by rw [e1, m.step_size, m.step_wt]; exact h.tapes i (by rwa [e] at hi) (by rwa [m.step_tape] at ht), by rw [e2]; exact h.wsec, ?_, by rw [e2]; exact h.order, by rw [e2]; exact Nat.le_trans h.count hs, ?_, ?_, ?_, ?_⟩
  · rw [e2]
    intro x hx
    have := h.wdev x hx
    rw [e, m.step_size]
    exact ⟨this.1, this.2.1, by omega⟩
  · have := h.fuse0
    unfold Pl.step
    split
    · simp
    · dsimp only
      split <;> omega
  · have := h.fuse1
    unfold Pl.step
    split
    · simp
    · dsimp only
      split <;> omega
  · have := h.clock0
    unfold Pl.step
    split <;> simpa using this
  · have := h.clock1
    unfold Pl.step
    split <;> simpa using this
theorem Pl.wt_mem {m : Pl} {i : Nat} {x : Wr} (h : x ∈ m.wt i) : x ∈ m.wts ∧ x.dev = i := by
  unfold Pl.wt at h
  simpa using h
theorem Pl.wt_len (m : Pl) (i : Nat) : (m.wt i).length ≤ m.wts.length := by unfold Pl.wt; exact List.length_filter_le _ _
/-- a write, behind a step that was done -/
theorem Pl.wait_wf {m : Pl} (h : m.WF) (hf : m.fuse ≠ 0) (i p : Nat) (s : List Nat) (hi : i < m.n) (hp : p < m.size i) (hs : s.length = 64 ∧ ∀ c ∈ s, c < 256) (ht : m.tape i = true → p = m.len i ∧ m.len i < m.size i) : (m.step.wait i p s).WF := by
  have H := Pl.step_wf h
  have hst := m.step_steps hf
  have hn : m.step.sh.length = m.n := by rw [m.step_sh]; rfl
  refine ⟨H.few, H.pos, H.sizes, H.secs, H.disk, ?_, ?_, ?_, ?_, ?_, H.fuse0, H.fuse1, H.clock0, H.clock1⟩
  · intro j hj htj
    have hj2 : m.step.tape j = true := htj
    obtain ⟨h1, h2⟩ := H.tapes j hj hj2
    rw [Pl.wt_wait]
    by_cases hij : i = j
    · subst hij
      rw [if_pos rfl]
      have htm : m.tape i = true := by rwa [m.step_tape] at hj2
      obtain ⟨hp1, hp2⟩ := ht htm
      have hlen : m.len i = (m.fl i).length + (m.wt i).length := by unfold Pl.len; rw [if_pos htm]
      have e1 : (m.step.wait i p s).fl i = m.fl i := by show m.step.fl i = _; rw [m.step_fl]
      have e2 : (m.step.wait i p s).size i = m.size i := m.step_size i
      rw [e1, e2, m.step_wt]
      refine ⟨by simp; omega, fun k x hx => ?_⟩
      rw [m.step_fl, m.step_wt] at h2
      rcases Nat.lt_or_ge k (m.wt i).length with hk | hk
      · rw [List.getElem?_append_left hk] at hx
        exact h2 k x hx
      · rw [List.getElem?_append_right hk] at hx
        have hk0 : k - (m.wt i).length = 0 := by
          have := (List.getElem?_eq_some_iff.1 hx).1
          simp at this
          omega
        rw [hk0] at hx
        simp at hx
        subst hx
        simp only
        omega
    · rw [if_neg hij]
      exact ⟨h1, h2⟩
  · intro x hx
    rcases List.mem_append.1 hx with hx | hx
    · exact H.wsec x hx
    · obtain rfl := List.mem_singleton.1 hx
      exact hs
  · intro x hx
    rcases List.mem_append.1 hx with hx | hx
    · exact H.wdev x hx
    · obtain rfl := List.mem_singleton.1 hx
      exact ⟨by show i < m.step.sh.length; omega, by show p < m.step.size i; rw [m.step_size]; exact hp, Nat.le_refl _⟩
  · show (m.step.wts ++ [_]).Pairwise _
    rw [List.pairwise_append]
    refine ⟨H.order, by simp, fun x hx y hy => ?_⟩
    obtain rfl := List.mem_singleton.1 hy
    rw [m.step_wts] at hx
    have := (h.wdev x hx).2.2
    show x.step < m.step.steps
    omega
  · show (m.step.wts ++ [_]).length ≤ m.step.steps
    rw [List.length_append, m.step_wts, hst]
    have := h.count
    simp
    omega
end Go.Proofs.Ytgkmegcejekbcaa

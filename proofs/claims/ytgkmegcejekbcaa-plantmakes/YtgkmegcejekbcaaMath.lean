/- Plants as plain data, and what the calls make of them. No word of memory. -/
namespace Go.Proofs.Ytgkmegcejekbcaa

/-- a write that waits -/
structure Wr where
  dev : Nat
  step : Nat
  place : Nat
  b : List Nat

def zeros : List Nat := List.replicate 64 0

def lastR : List Wr → Nat → Option Nat
  | [], _ => none
  | x :: r, p => if x.place = p then some r.length else lastR r p
/-- which of the writes was the last to a place -/
def lastIdx (l : List Wr) (p : Nat) : Option Nat := lastR l.reverse p
theorem lastIdx_nil (p : Nat) : lastIdx [] p = none := rfl
theorem lastIdx_snoc (l : List Wr) (x : Wr) (p : Nat) : lastIdx (l ++ [x]) p = if x.place = p then some l.length else lastIdx l p := by
  simp [lastIdx, lastR]
theorem lastR_lt : ∀ (l : List Wr) (p j : Nat), lastR l p = some j → j < l.length
  | [], _, _, h => by simp [lastR] at h
  | x :: r, p, j, h => by
    unfold lastR at h
    split at h
    · simp at h; simp; omega
    · have := lastR_lt r p j h; simp; omega
theorem lastIdx_lt {l : List Wr} {p j : Nat} (h : lastIdx l p = some j) : j < l.length := by
  have := lastR_lt _ _ _ h
  simpa using this
/-- what was written there last, if anything was -/
def lastAt (l : List Wr) (p : Nat) : Option (List Nat) := (lastIdx l p).bind fun j => (l[j]?).map (·.b)
theorem lastAt_nil (p : Nat) : lastAt [] p = none := rfl
theorem lastAt_snoc (l : List Wr) (x : Wr) (p : Nat) : lastAt (l ++ [x]) p = if x.place = p then some x.b else lastAt l p := by
  unfold lastAt
  rw [lastIdx_snoc]
  by_cases h : x.place = p
  · simp [h]
  · rw [if_neg h, if_neg h]
    cases hl : lastIdx l p with
    | none => rfl
    | some j => simp [List.getElem?_append_left (lastIdx_lt hl)]

structure Pl where
  sh : List (Bool × Nat)
  fl : Nat → List (List Nat)
  wts : List Wr
  on : Bool
  fuse : Int
  steps : Nat
  clock : Int

def Pl.n (m : Pl) : Nat := m.sh.length
def Pl.tape (m : Pl) (i : Nat) : Bool := (m.sh.getD i (false, 0)).1
def Pl.size (m : Pl) (i : Nat) : Nat := (m.sh.getD i (false, 0)).2
def Pl.wt (m : Pl) (i : Nat) : List Wr := m.wts.filter fun x => x.dev == i
def Pl.len (m : Pl) (i : Nat) : Nat := if m.tape i then (m.fl i).length + (m.wt i).length else m.size i
def Pl.lenF (m : Pl) (i : Nat) : Nat := if m.tape i then (m.fl i).length else m.size i
def Pl.rd (m : Pl) (i p : Nat) : List Nat := (lastAt (m.wt i) p).getD ((m.fl i).getD p zeros)

/-- what a device keeps of a write -/
def lay (tape : Bool) (fl : List (List Nat)) (p : Nat) (b : List Nat) : List (List Nat) := if tape then fl ++ [b] else fl.set p b
def layAll (tape : Bool) (fl : List (List Nat)) (l : List Wr) : List (List Nat) := l.foldl (fun f x => lay tape f x.place x.b) fl

/-- what holds of every plant -/
structure Pl.WF (m : Pl) : Prop where
  few : m.sh.length ≤ 12
  pos : 1 ≤ m.sh.length
  sizes : ∀ i, i < m.sh.length → 1 ≤ m.size i ∧ m.size i ≤ 4096
  secs : ∀ i, ∀ s ∈ m.fl i, s.length = 64 ∧ ∀ c ∈ s, c < 256
  disk : ∀ i, i < m.sh.length → m.tape i = false → (m.fl i).length = m.size i
  tapes : ∀ i, i < m.sh.length → m.tape i = true → (m.fl i).length + (m.wt i).length ≤ m.size i ∧ ∀ j x, (m.wt i)[j]? = some x → x.place = (m.fl i).length + j
  wsec : ∀ x ∈ m.wts, x.b.length = 64 ∧ ∀ c ∈ x.b, c < 256
  wdev : ∀ x ∈ m.wts, x.dev < m.sh.length ∧ x.place < m.size x.dev ∧ x.step ≤ m.steps
  order : m.wts.Pairwise fun x y => x.step < y.step
  count : m.wts.length ≤ m.steps
  fuse0 : -9223372036854775808 ≤ m.fuse
  fuse1 : m.fuse ≤ 9223372036854775807
  clock0 : 0 ≤ m.clock
  clock1 : m.clock ≤ 1099511627776

/-- a step: done or not -/
def Pl.stepOk (m : Pl) : Bool := !(m.fuse == 0)
def Pl.step (m : Pl) : Pl := if m.fuse = 0 then { m with on := false, fuse := -1 } else { m with fuse := if 0 < m.fuse then m.fuse - 1 else m.fuse, steps := m.steps + 1 }
def Pl.wait (m : Pl) (i p : Nat) (b : List Nat) : Pl := { m with wts := m.wts ++ [⟨i, m.steps, p, b⟩] }

def upd (f : Nat → List (List Nat)) (i : Nat) (x : List (List Nat)) : Nat → List (List Nat) := fun j => if j = i then x else f j
def Pl.flushed (m : Pl) (i : Nat) : Pl := { m with fl := upd m.fl i (layAll (m.tape i) (m.fl i) (m.wt i)), wts := m.wts.filter fun x => !(x.dev == i) }

theorem Pl.wt_wait (m : Pl) (i p : Nat) (b : List Nat) (j : Nat) : (m.wait i p b).wt j = if i = j then m.wt j ++ [⟨i, m.steps, p, b⟩] else m.wt j := by
  unfold Pl.wt Pl.wait
  by_cases h : i = j
  · simp [List.filter_append, h]
  · simp [List.filter_append, h]
theorem Pl.wt_flushed (m : Pl) (i j : Nat) : (m.flushed i).wt j = if j = i then [] else m.wt j := by
  unfold Pl.wt Pl.flushed
  simp only [List.filter_filter]
  by_cases h : j = i
  · subst h
    simp
  · rw [if_neg h]
    apply List.filter_congr
    intro x _
    by_cases hx : x.dev = j
    · simp [hx, h]
    · simp [hx]
end Go.Proofs.Ytgkmegcejekbcaa

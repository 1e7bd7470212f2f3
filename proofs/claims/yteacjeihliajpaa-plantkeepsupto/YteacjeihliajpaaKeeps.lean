/- What a boot keeps of a disk: no word of memory. -/
import Derived.Test.YteacjeihliajpaaOffC
namespace Go.Proofs.Yteacjeihliajpaa
open Go.RowKit Go.Maps

/-- what was written first, place by place -/
def olds (l : List Nat) : Nat → List Nat
  | 0 => List.replicate 16 0
  | n + 1 => (olds l n).set (n % 16) (l.getD n 0)
theorem olds_length (l : List Nat) : ∀ n, (olds l n).length = 16
  | 0 => by simp [olds]
  | n + 1 => by simp [olds, olds_length l n]
theorem getD_256 {l : List Nat} (h : ∀ z ∈ l, z < 256) (j : Nat) : l.getD j 0 < 256 := by
  by_cases hj : j < l.length
  · simpa [hj] using h _ (List.getElem_mem hj)
  · simp [hj]
theorem olds_256 {l : List Nat} (h : ∀ z ∈ l, z < 256) : ∀ n, ∀ z ∈ olds l n, z < 256
  | 0, z, hz => by rw [(List.mem_replicate.1 hz).2]; decide
  | n + 1, z, hz => by
    rcases List.mem_or_eq_of_mem_set hz with hz | rfl
    · exact olds_256 h n z hz
    · exact getD_256 h n
theorem rd_wait (m : Pl) (i p : Nat) (b : List Nat) (s : Nat) : (m.wait i p b).rd i s = if p = s then b else m.rd i s := by
  unfold Pl.rd
  rw [Pl.wt_wait, if_pos rfl, lastAt_snoc]
  by_cases h : p = s
  · simp [h]
  · rw [if_neg h, if_neg h]
    rfl
theorem rd_step (m : Pl) (i s : Nat) : m.step.rd i s = m.rd i s := by
  unfold Pl.rd
  rw [m.step_wt, m.step_fl]
theorem layAll_rd (fl : List (List Nat)) (s : Nat) (hs : s < fl.length) (l : List Wr) : (layAll false fl l).getD s zeros = (lastAt l s).getD (fl.getD s zeros) := by
  obtain ⟨r, rfl⟩ : ∃ r, l = r.reverse := ⟨l.reverse, by simp⟩
  induction r with
  | nil => rfl
  | cons x r ih =>
    rw [List.reverse_cons, lastAt_snoc]
    have e : layAll false fl (r.reverse ++ [x]) = (layAll false fl r.reverse).set x.place x.b := by
      unfold layAll
      rw [List.foldl_append]
      rfl
    have hl : (layAll false fl r.reverse).length = fl.length := by rw [layAll_length]; simp
    rw [e]
    by_cases h : x.place = s
    · subst h
      rw [if_pos rfl]
      simp [List.getD_eq_getElem?_getD, hl, hs]
    · rw [if_neg h, ← ih]
      simp [List.getD_eq_getElem?_getD, List.getElem?_set_ne h]
/-- a plant of one disk of 16 -/
structure DiskIs (m : Pl) : Prop where
  wf : m.WF
  sh : m.sh = [(false, 16)]
  on : m.on = true
  fuse : m.fuse = -1
section
variable {m : Pl}
theorem DiskIs.n (h : DiskIs m) : m.n = 1 := by unfold Pl.n; rw [h.sh]; rfl
theorem DiskIs.has (h : DiskIs m) : m.has 0 := by unfold Pl.has; rw [h.n]; decide
theorem DiskIs.tape (h : DiskIs m) : m.tape 0 = false := by unfold Pl.tape; rw [h.sh]; rfl
theorem DiskIs.size (h : DiskIs m) : m.size 0 = 16 := by unfold Pl.size; rw [h.sh]; rfl
theorem DiskIs.step_is (h : DiskIs m) : m.step = { m with steps := m.steps + 1 } := by
  unfold Pl.step
  rw [if_neg (by rw [h.fuse]; decide), h.fuse]
  simp
theorem DiskIs.flen (h : DiskIs m) : (m.fl 0).length = 16 := by
  have := h.wf.disk 0 (by rw [h.sh]; decide) h.tape
  rw [this, h.size]
theorem DiskIs.wdev (h : DiskIs m) (x : Wr) (hx : x ∈ m.wts) : x.dev = 0 := by
  have := (h.wf.wdev x hx).1
  rw [h.sh] at this
  simp at this
  exact this
theorem DiskIs.wt (h : DiskIs m) : m.wt 0 = m.wts := by
  unfold Pl.wt
  exact List.filter_eq_self.2 fun x hx => by simp [h.wdev x hx]
theorem DiskIs.write (h : DiskIs m) (p x : Nat) (hp : p < 16) (hx : x < 256) : m.write 0 (p : Int) (ones x) = (0, m.step.wait 0 p (ones x)) ∧ DiskIs (m.step.wait 0 p (ones x)) := by
  have hwf := Pl.write_wf h.wf 0 (p : Int) (ones x) (ones_sec x hx).2
  have e : m.write 0 (p : Int) (ones x) = (0, m.step.wait 0 p (ones x)) := by
    unfold Pl.write
    rw [if_neg (by rw [h.on]; decide), if_neg (by simp only [Classical.not_not]; exact ⟨h.has, h.tape, by omega, by rw [show (0 : Int).toNat = 0 from rfl, h.size]; omega⟩), if_neg (by simp [ones]), if_neg (by rw [h.fuse]; decide)]
    rfl
  rw [e] at hwf
  refine ⟨e, hwf, ?_, ?_, ?_⟩
  · show m.step.sh = _
    rw [m.step_sh, h.sh]
  · show m.step.on = _
    rw [h.step_is]; exact h.on
  · show m.step.fuse = _
    rw [h.step_is]; exact h.fuse
theorem DiskIs.flush (h : DiskIs m) : m.flush 0 = (0, m.step.flushed 0) ∧ DiskIs (m.step.flushed 0) ∧ (m.step.flushed 0).wts = [] ∧ (∀ s, s < 16 → ((m.step.flushed 0).fl 0).getD s zeros = m.rd 0 s) := by
  have hwf := Pl.flush_wf h.wf 0
  have e : m.flush 0 = (0, m.step.flushed 0) := by
    unfold Pl.flush
    rw [if_neg (by rw [h.on]; decide), if_neg (by simp only [Classical.not_not]; exact h.has), if_neg (by rw [h.fuse]; decide)]
    rfl
  rw [e] at hwf
  refine ⟨e, ⟨hwf, ?_, ?_, ?_⟩, ?_, fun s hs => ?_⟩
  · show m.step.sh = _
    rw [m.step_sh, h.sh]
  · show m.step.on = _
    rw [h.step_is]; exact h.on
  · show m.step.fuse = _
    rw [h.step_is]; exact h.fuse
  · show m.step.wts.filter _ = []
    rw [m.step_wts]
    exact List.filter_eq_nil_iff.2 fun x hx => by simp [h.wdev x hx]
  · have e2 : (m.step.flushed 0).fl 0 = layAll (m.step.tape 0) (m.step.fl 0) (m.step.wt 0) := by
      unfold Pl.flushed
      simp only [upd, if_true]
    rw [e2, m.step_tape, h.tape, m.step_fl, m.step_wt, layAll_rd _ _ (by rw [h.flen]; exact hs)]
    rfl
/-- what waits: n writes of t -/
structure ThenIs (m : Pl) (o t : List Nat) (n : Nat) : Prop where
  disk : DiskIs m
  fl : ∀ s, s < 16 → (m.fl 0).getD s zeros = ones (o.getD s 0)
  len : m.wts.length = n
  wts : ∀ i x, m.wts[i]? = some x → x.dev = 0 ∧ x.place = 3 * i % 16 ∧ x.b = ones (t.getD i 0)
theorem ThenIs.write {o t : List Nat} {n : Nat} (h : ThenIs m o t n) (hx : t.getD n 0 < 256) : (m.write 0 ((3 * n % 16 : Nat) : Int) (ones (t.getD n 0))).1 = 0 ∧ ThenIs (m.write 0 ((3 * n % 16 : Nat) : Int) (ones (t.getD n 0))).2 o t (n + 1) ∧ (m.write 0 ((3 * n % 16 : Nat) : Int) (ones (t.getD n 0))).2.steps = m.steps + 1 := by
  obtain ⟨e, hd⟩ := h.disk.write (3 * n % 16) (t.getD n 0) (by omega) hx
  rw [e]
  have ew : (m.step.wait 0 (3 * n % 16) (ones (t.getD n 0))).wts = m.wts ++ [⟨0, m.step.steps, 3 * n % 16, ones (t.getD n 0)⟩] := by
    show m.step.wts ++ _ = _
    rw [m.step_wts]
  refine ⟨rfl, ⟨hd, ?_, by rw [ew]; simp [h.len], fun i x hx => ?_⟩, ?_⟩
  · intro s hs
    show (m.step.fl 0).getD s zeros = _
    rw [m.step_fl]
    exact h.fl s hs
  · rw [ew] at hx
    by_cases hi : i < m.wts.length
    · rw [List.getElem?_append_left hi] at hx
      exact h.wts i x hx
    · have hi2 : i = n := by
        have := (List.getElem?_eq_some_iff.1 hx).1
        simp at this
        have := h.len
        omega
      subst hi2
      rw [List.getElem?_append_right (by omega)] at hx
      rw [show i - m.wts.length = 0 by have := h.len; omega] at hx
      simp at hx
      subst hx
      exact ⟨rfl, rfl, rfl⟩
  · show m.step.steps = _
    rw [h.disk.step_is]
theorem ThenIs.booted {o t : List Nat} {n : Nat} (h : ThenIs m o t n) (ks : List Int) : ∀ k, k ≤ n → (bootTo m ks k).2 0 = false ∧ ∀ s, s < 16 → ((bootTo m ks k).1 0).getD s zeros = ones (o.getD s 0) ∨ ∃ i, i < k ∧ 3 * i % 16 = s ∧ ((bootTo m ks k).1 0).getD s zeros = ones (t.getD i 0)
  | 0, _ => ⟨rfl, fun s hs => Or.inl (h.fl s hs)⟩
  | k + 1, hk => by
    obtain ⟨x, hx⟩ : ∃ x, m.wts[k]? = some x := ⟨_, List.getElem?_eq_getElem (by have := h.len; omega)⟩
    obtain ⟨hxd, hxp, hxb⟩ := h.wts k x hx
    obtain ⟨h1, h2⟩ := h.booted ks k (by omega)
    have hlen : ((bootTo m ks k).1 0).length = 16 := by
      have := (boot_place h.disk.wf ks k (by have := h.len; omega) 0 (by rw [h.disk.n]; decide)).2.1 h.disk.tape
      rw [this, h.disk.size]
    rw [bootTo_succ m ks k x hx]
    unfold bootStep
    rw [if_neg (by rw [hxd, h1]; decide), hxd, h.disk.tape]
    refine ⟨by simp [goesOn], fun s hs => ?_⟩
    have e : upd (bootTo m ks k).1 0 (settled false ((bootTo m ks k).1 0) x.place x.b (bootK ks k)) 0 = settled false ((bootTo m ks k).1 0) x.place x.b (bootK ks k) := by simp [upd]
    simp only [e]
    have hold : ((bootTo m ks k).1 0).getD s zeros = ones (o.getD s 0) ∨ ∃ i, i < k + 1 ∧ 3 * i % 16 = s ∧ ((bootTo m ks k).1 0).getD s zeros = ones (t.getD i 0) := by
      rcases h2 s hs with h | ⟨i, hi, h⟩
      · exact Or.inl h
      · exact Or.inr ⟨i, by omega, h⟩
    unfold settled
    by_cases hodd : bootK ks k % 2 = 1
    · rw [if_pos hodd]
      unfold lay
      simp only [Bool.false_eq_true, if_false]
      by_cases hp : x.place = s
      · right
        refine ⟨k, by omega, by omega, ?_⟩
        rw [hp, ← hxb]
        simp [List.getD_eq_getElem?_getD, hlen, hs]
      · rw [List.getD_eq_getElem?_getD, List.getElem?_set_ne hp, ← List.getD_eq_getElem?_getD]
        exact hold
    · rw [if_neg hodd]
      simp only [Bool.false_eq_true, false_and, if_false]
      exact hold
theorem ThenIs.none {o t : List Nat} {n : Nat} (h : ThenIs m o t n) : ∀ k, k ≤ n → (bootTo m [0] k).2 0 = false ∧ (bootTo m [0] k).1 0 = m.fl 0
  | 0, _ => ⟨rfl, rfl⟩
  | k + 1, hk => by
    obtain ⟨x, hx⟩ : ∃ x, m.wts[k]? = some x := ⟨_, List.getElem?_eq_getElem (by have := h.len; omega)⟩
    obtain ⟨hxd, _, _⟩ := h.wts k x hx
    obtain ⟨h1, h2⟩ := h.none k (by omega)
    rw [bootTo_succ m [0] k x hx]
    unfold bootStep
    rw [if_neg (by rw [hxd, h1]; decide), hxd, h.disk.tape]
    have hk0 : bootK [0] k = 0 := by simp [bootK, Nat.mod_one]
    rw [hk0]
    refine ⟨by simp [goesOn], ?_⟩
    show upd (bootTo m [0] k).1 0 (settled false ((bootTo m [0] k).1 0) x.place x.b 0) 0 = _
    simp [upd, settled, h2]
/-- a plant that reads as g says -/
structure Reads (m : Pl) (S : Nat) (g : Nat → Nat) : Prop where
  wf : m.WF
  on : m.on = true
  n : m.n = 1
  len : m.len 0 = 16
  steps : m.steps = S
  rd : ∀ s, s < 16 → m.rd 0 s = ones (g s)
theorem rd_boot (m : Pl) (ks : List Int) (s : Nat) : (m.boot ks).rd 0 s = ((bootTo m ks m.wts.length).1 0).getD s zeros := rfl
theorem ThenIs.bootP {o t : List Nat} {n : Nat} (h : ThenIs m o t n) (ks : List Int) : ∃ g, Reads (m.boot ks) m.steps g ∧ ∀ s, s < 16 → g s = o.getD s 0 ∨ ∃ i, i < n ∧ 3 * i % 16 = s ∧ g s = t.getD i 0 := by
  have hb := (h.booted ks n (Nat.le_refl _)).2
  have hrd : ∀ s, s < 16 → (m.boot ks).rd 0 s = ones (o.getD s 0) ∨ ∃ i, i < n ∧ 3 * i % 16 = s ∧ (m.boot ks).rd 0 s = ones (t.getD i 0) := by
    intro s hs
    rw [rd_boot, h.len]
    exact hb s hs
  have hone : ∀ s, ∃ v, s < 16 → (m.boot ks).rd 0 s = ones v ∧ (v = o.getD s 0 ∨ ∃ i, i < n ∧ 3 * i % 16 = s ∧ v = t.getD i 0) := by
    intro s
    by_cases hs : s < 16
    · rcases hrd s hs with h | ⟨i, h1, h2, h3⟩
      · exact ⟨_, fun _ => ⟨h, Or.inl rfl⟩⟩
      · exact ⟨_, fun _ => ⟨h3, Or.inr ⟨i, h1, h2, rfl⟩⟩⟩
    · exact ⟨0, fun h => absurd h hs⟩
  refine ⟨fun s => (hone s).choose, ⟨Pl.boot_wf h.disk.wf _, rfl, h.disk.n, ?_, rfl, fun s hs => ((hone s).choose_spec hs).1⟩, fun s hs => ((hone s).choose_spec hs).2⟩
  unfold Pl.len
  have e1 : (m.boot ks).tape 0 = false := h.disk.tape
  rw [e1]
  exact h.disk.size
theorem ThenIs.bootQ {o t : List Nat} {n : Nat} (h : ThenIs m o t n) : Reads (m.boot [0]) m.steps (fun s => o.getD s 0) := by
  refine ⟨Pl.boot_wf h.disk.wf _, rfl, h.disk.n, ?_, rfl, fun s hs => ?_⟩
  · unfold Pl.len
    have e1 : (m.boot [0]).tape 0 = false := h.disk.tape
    rw [e1]
    exact h.disk.size
  · rw [rd_boot, h.len, (h.none n (Nat.le_refl _)).2]
    exact h.fl s hs
end
end Go.Proofs.Yteacjeihliajpaa

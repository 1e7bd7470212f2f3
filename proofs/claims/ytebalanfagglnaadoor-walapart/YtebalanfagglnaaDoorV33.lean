/- Layer 8: plain: sectors laid down while a fuse may burn. Layer 8: plain: a journal whatever crashes came. Layer 8: plain: Append and Format, done or cut off. Layer 8: whether the power is on. -/
import Derived.Test.YtebalanfagglnaaDoorV32
namespace Go.Proofs.YtebalanfagglnaaDoor
open Go.RowKit Go.Maps

/-- on, a disk; whatever the fuse -/
structure Lv (m : Pl) (i : Nat) : Prop where
  wf : m.WF
  on : m.on = true
  lt : i < m.n
  disk : m.tape i = false
/-- what the other devices have is as it was -/
structure Oth (m m' : Pl) (i : Nat) : Prop where
  sh : m'.sh = m.sh
  steps : m.steps ≤ m'.steps
  same : ∀ j, j ≠ i → m'.fl j = m.fl j ∧ m'.wt j = m.wt j
theorem Oth.trans {a b c : Pl} {i : Nat} (h : Oth a b i) (k : Oth b c i) : Oth a c i := ⟨k.sh.trans h.sh, Nat.le_trans h.steps k.steps, fun j hj => ⟨(k.same j hj).1.trans (h.same j hj).1, (k.same j hj).2.trans (h.same j hj).2⟩⟩
theorem Pl.step_ge (m : Pl) : m.steps ≤ m.step.steps := by unfold Pl.step; split <;> simp
theorem Oth.step (m : Pl) (i : Nat) : Oth m m.step i := ⟨m.step_sh, m.step_ge, fun j _ => ⟨by rw [m.step_fl], m.step_wt j⟩⟩
theorem Oth.wait (m : Pl) (i a : Nat) (s : List Nat) : Oth m (m.wait i a s) i := ⟨rfl, Nat.le_refl _, fun j hj => ⟨rfl, by rw [Pl.wt_wait, if_neg (Ne.symm hj)]⟩⟩
theorem Oth.flushed (m : Pl) (i : Nat) : Oth m (m.flushed i) i := ⟨rfl, Nat.le_refl _, fun j hj => ⟨by show upd m.fl i _ j = _; simp [upd, hj], by rw [Pl.wt_flushed, if_neg hj]⟩⟩
theorem Oth.size {m m' : Pl} {i : Nat} (h : Oth m m' i) (j : Nat) : m'.size j = m.size j := by unfold Pl.size; rw [h.sh]
theorem Oth.tape {m m' : Pl} {i : Nat} (h : Oth m m' i) (j : Nat) : m'.tape j = m.tape j := by unfold Pl.tape; rw [h.sh]
theorem Oth.n {m m' : Pl} {i : Nat} (h : Oth m m' i) : m'.n = m.n := by unfold Pl.n; rw [h.sh]
theorem Oth.rd {m m' : Pl} {i : Nat} (h : Oth m m' i) (j p : Nat) (hj : j ≠ i) : m'.rd j p = m.rd j p := by unfold Pl.rd; rw [(h.same j hj).1, (h.same j hj).2]
theorem Pl.step_rd (m : Pl) (i p : Nat) : m.step.rd i p = m.rd i p := by unfold Pl.rd; rw [m.step_wt, m.step_fl]
theorem Pl.step_on (m : Pl) (h : m.fuse ≠ 0) : m.step.on = m.on := by unfold Pl.step; rw [if_neg h]
theorem Pl.step_off (m : Pl) (h : m.fuse = 0) : m.step.on = false := by unfold Pl.step; rw [if_pos h]
theorem Pl.step_neg (m : Pl) (h : m.fuse < 0) : m.step.fuse < 0 := by unfold Pl.step; rw [if_neg (by omega)]; show (if 0 < m.fuse then _ else m.fuse) < 0; rw [if_neg (by omega)]; exact h
theorem Lv.step {m : Pl} {i : Nat} (h : Lv m i) (hf : m.fuse ≠ 0) : Lv m.step i := ⟨Pl.step_wf h.wf, by rw [m.step_on hf]; exact h.on, by rw [m.step_n]; exact h.lt, by rw [m.step_tape]; exact h.disk⟩
theorem Lv.write {m : Pl} {i : Nat} (h : Lv m i) (a : Nat) (s : List Nat) (hs : Sec s) (ha : a < m.size i) : m.write (i : Int) (a : Int) s = if m.fuse = 0 then (2, m.step) else (0, m.step.wait i a s) := by
  have hlt := h.lt
  unfold Pl.write
  rw [if_neg (by rw [h.on]; decide), if_neg (by
    rw [Int.toNat_natCast]
    exact fun hn => hn ⟨⟨by omega, by omega⟩, h.disk, by omega, by omega⟩), if_neg (fun hn => hn hs.1), Int.toNat_natCast, Int.toNat_natCast]
theorem Lv.flush {m : Pl} {i : Nat} (h : Lv m i) : m.flush (i : Int) = if m.fuse = 0 then (2, m.step) else (0, m.step.flushed i) := by
  have hlt := h.lt
  unfold Pl.flush
  rw [if_neg (by rw [h.on]; decide), if_neg (fun hn => hn ⟨by omega, by omega⟩), Int.toNat_natCast]
theorem rd_wait (m : Pl) (i a : Nat) (s : List Nat) (p : Nat) : (m.wait i a s).rd i p = if a = p then s else m.rd i p := by
  unfold Pl.rd
  rw [Pl.wt_wait, if_pos rfl, lastAt_snoc]
  show Option.getD (if a = p then some s else _) _ = _
  by_cases e : a = p
  · rw [if_pos e, if_pos e]; rfl
  · rw [if_neg e, if_neg e]; rfl
theorem Lv.rd_flushed {m : Pl} {i : Nat} (h : Lv m i) (p : Nat) : (m.flushed i).rd i p = m.rd i p := by
  unfold Pl.rd
  rw [Pl.wt_flushed, if_pos rfl, lastAt_nil]
  show Option.getD none ((upd m.fl i (layAll (m.tape i) (m.fl i) (m.wt i)) i).getD p zeros) = _
  unfold upd
  rw [if_pos rfl, h.disk]
  refine layAll_get _ _ (fun x hx => ?_) p
  have hx2 := List.mem_filter.1 hx
  have hdv : x.dev = i := by simpa using hx2.2
  have h1 := h.wf.wdev x hx2.1
  rw [h.wf.disk i h.lt h.disk, ← hdv]
  exact h1.2.1
theorem Lv.wait {m : Pl} {i : Nat} (h : Lv m i) (hf : m.fuse ≠ 0) (a : Nat) (s : List Nat) (hs : Sec s) (ha : a < m.size i) : Lv (m.step.wait i a s) i := by
  have e := h.write a s hs ha
  rw [if_neg hf] at e
  have hw := Pl.write_wf h.wf (i : Int) (a : Int) s hs.2
  rw [e] at hw
  have h1 := h.step hf
  exact ⟨hw, h1.on, h1.lt, h1.disk⟩
theorem Lv.flushed {m : Pl} {i : Nat} (h : Lv m i) (hf : m.fuse ≠ 0) : Lv (m.step.flushed i) i := by
  have h1 := h.step hf
  exact ⟨Pl.flushed_wf h1.wf i, h1.on, h1.lt, h1.disk⟩
/-- all is laid down -/
structure LayOk (m m' : Pl) (i a : Nat) (L : List (List Nat)) : Prop where
  lv : Lv m' i
  wt : m'.wt i = []
  oth : Oth m m' i
  rd : ∀ p, m'.rd i p = if a ≤ p ∧ p < a + L.length then L.getD (p - a) [] else m.rd i p
  more : m.steps + L.length + 1 ≤ m'.steps
  le : m'.steps ≤ m.steps + L.length + 1
  fuse : m.fuse < 0 → m'.fuse < 0
/-- the power went off within -/
structure LayNo (m m' : Pl) (i a : Nat) (L : List (List Nat)) : Prop where
  wf : m'.WF
  off : m'.on = false
  oth : Oth m m' i
  fl : m'.fl i = m.fl i
  wt : ∀ x ∈ m'.wt i, x ∈ m.wt i ∨ ∃ j, j < L.length ∧ x.place = a + j ∧ x.b = L.getD j [] ∧ m.steps + 1 ≤ m'.steps
  le : m'.steps ≤ m.steps + L.length + 1
  fuse : 0 ≤ m.fuse
theorem Lv.lay {i : Nat} : ∀ (L : List (List Nat)) (a : Nat) (m : Pl), Lv m i → (∀ s ∈ L, Sec s) → a + L.length ≤ m.size i → ((m.lay (i : Int) a L).1 = 0 ∧ LayOk m (m.lay (i : Int) a L).2 i a L) ∨ ((m.lay (i : Int) a L).1 = 2 ∧ LayNo m (m.lay (i : Int) a L).2 i a L) := by
  intro L
  induction L with
  | nil =>
    intro a m h _ _
    unfold Pl.lay
    rw [h.flush]
    by_cases hf : m.fuse = 0
    · right
      rw [if_pos hf]
      exact ⟨rfl, Pl.step_wf h.wf, m.step_off hf, Oth.step m i, by rw [m.step_fl], fun x hx => by rw [m.step_wt] at hx; exact Or.inl hx, by have := m.step_le; simpa using this, by omega⟩
    · left
      rw [if_neg hf]
      have hst := m.step_steps hf
      refine ⟨rfl, h.flushed hf, ?_, (Oth.step m i).trans (Oth.flushed _ i), fun p => ?_, ?_, ?_, fun hn => m.step_neg hn⟩
      · show (m.step.flushed i).wt i = []
        rw [Pl.wt_flushed, if_pos rfl]
      · rw [if_neg (by simp)]
        show (m.step.flushed i).rd i p = _
        rw [(h.step hf).rd_flushed, m.step_rd]
      · show m.steps + 0 + 1 ≤ m.step.steps
        omega
      · show m.step.steps ≤ m.steps + 0 + 1
        omega
  | cons s L ih =>
    intro a m h hs hl
    rw [List.length_cons] at hl
    unfold Pl.lay
    rw [h.write a s (hs s (by simp)) (by omega)]
    by_cases hf : m.fuse = 0
    · right
      rw [if_pos hf, if_neg (show ¬ (2 : Int) = 0 by decide)]
      exact ⟨rfl, Pl.step_wf h.wf, m.step_off hf, Oth.step m i, by rw [m.step_fl], fun x hx => by rw [m.step_wt] at hx; exact Or.inl hx, by have := m.step_le; rw [List.length_cons]; show m.step.steps ≤ _; omega, by omega⟩
    · rw [if_neg hf, if_pos rfl]
      show ((m.step.wait i a s).lay (i : Int) (a + 1) L).1 = 0 ∧ LayOk m ((m.step.wait i a s).lay (i : Int) (a + 1) L).2 i a (s :: L) ∨ ((m.step.wait i a s).lay (i : Int) (a + 1) L).1 = 2 ∧ LayNo m ((m.step.wait i a s).lay (i : Int) (a + 1) L).2 i a (s :: L)
      have hst := m.step_steps hf
      have ho : Oth m (m.step.wait i a s) i := (Oth.step m i).trans (Oth.wait _ i a s)
      have hsz : (m.step.wait i a s).size i = m.size i := ho.size i
      have hst1 : (m.step.wait i a s).steps = m.steps + 1 := hst
      rcases ih (a + 1) (m.step.wait i a s) (h.wait hf a s (hs s (by simp)) (by omega)) (fun x hx => hs x (by simp [hx])) (by rw [hsz]; omega) with ⟨k1, k⟩ | ⟨k1, k⟩
      · left
        refine ⟨k1, k.lv, k.wt, ho.trans k.oth, fun p => ?_, by have := k.more; rw [List.length_cons]; omega, by have := k.le; rw [List.length_cons]; omega, fun hn => k.fuse (m.step_neg hn)⟩
        rw [k.rd p, rd_wait, m.step_rd, List.length_cons]
        by_cases e : a = p
        · subst e
          rw [if_neg (by omega), if_pos rfl, if_pos (by omega), Nat.sub_self]
          rfl
        · by_cases e2 : a + 1 ≤ p ∧ p < a + 1 + L.length
          · rw [if_pos e2, if_pos (by omega), show p - a = (p - (a + 1)) + 1 by omega]
            rfl
          · rw [if_neg e2, if_neg e, if_neg (by omega)]
      · right
        refine ⟨k1, k.wf, k.off, ho.trans k.oth, k.fl.trans (by show m.step.fl i = _; rw [m.step_fl]), fun x hx => ?_, by have := k.le; rw [List.length_cons]; omega, ?_⟩
        · have hge := k.oth.steps
          rcases k.wt x hx with h1 | ⟨j, h1, h2, h3, h4⟩
          · rw [Pl.wt_wait, if_pos rfl, m.step_wt] at h1
            rcases List.mem_append.1 h1 with h1 | h1
            · exact Or.inl h1
            · refine Or.inr ⟨0, by simp, ?_, ?_, by omega⟩
              · rw [List.mem_singleton.1 h1]; rfl
              · rw [List.mem_singleton.1 h1]; rfl
          · exact Or.inr ⟨j + 1, by rw [List.length_cons]; omega, by omega, by rw [h3]; rfl, by omega⟩
        · have h5 := k.fuse
          rcases Int.lt_or_le m.fuse 0 with hn | hn
          · have := m.step_neg hn
            have : (m.step.wait i a s).fuse < 0 := this
            omega
          · exact hn
/-- of a disk a boot keeps what was there, or a write that waited -/
theorem boot_disk (m : Pl) (keep : List Int) (i : Nat) (ht : m.tape i = false) (p : Nat) : ∀ n, n ≤ m.wts.length → ((bootTo m keep n).1 i).getD p zeros = (m.fl i).getD p zeros ∨ ∃ x ∈ m.wt i, x.place = p ∧ ((bootTo m keep n).1 i).getD p zeros = x.b := by
  intro n
  induction n with
  | zero => intro _; exact Or.inl rfl
  | succ n ih =>
    intro hn
    have hx : m.wts[n]? = some m.wts[n] := List.getElem?_eq_getElem (by omega)
    rw [bootTo_succ m keep n _ hx]
    have hi := ih (by omega)
    unfold bootStep
    split
    · exact hi
    · by_cases hd : (m.wts[n]).dev = i
      · have hmem : m.wts[n] ∈ m.wt i := List.mem_filter.2 ⟨List.getElem_mem _, by simp [hd]⟩
        have hu : ∀ x, upd (bootTo m keep n).1 (m.wts[n]).dev x i = x := fun x => by unfold upd; rw [if_pos hd.symm]
        show (upd (bootTo m keep n).1 _ _ i).getD p zeros = _ ∨ ∃ x ∈ m.wt i, x.place = p ∧ (upd (bootTo m keep n).1 _ _ i).getD p zeros = x.b
        rw [hu, hd, ht]
        unfold settled
        split
        · show (((bootTo m keep n).1 i).set (m.wts[n]).place (m.wts[n]).b).getD p zeros = _ ∨ ∃ x ∈ m.wt i, x.place = p ∧ (((bootTo m keep n).1 i).set (m.wts[n]).place (m.wts[n]).b).getD p zeros = x.b
          by_cases e : (m.wts[n]).place = p
          · by_cases hl : p < ((bootTo m keep n).1 i).length
            · refine Or.inr ⟨_, hmem, e, ?_⟩
              rw [e]
              simp [List.getD_eq_getElem?_getD, hl]
            · rw [List.set_eq_of_length_le (by omega)]
              exact hi
          · rw [show (((bootTo m keep n).1 i).set (m.wts[n]).place (m.wts[n]).b).getD p zeros = ((bootTo m keep n).1 i).getD p zeros by simp [List.getD_eq_getElem?_getD, List.getElem?_set_ne e]]
            exact hi
        · rw [if_neg (fun hn => by cases hn.1)]
          exact hi
      · show (upd _ _ _ i).getD p zeros = _ ∨ ∃ x ∈ m.wt i, x.place = p ∧ (upd _ _ _ i).getD p zeros = x.b
        unfold upd
        rw [if_neg (Ne.symm hd)]
        exact hi
theorem Lv.boot {m : Pl} {i : Nat} (hwf : m.WF) (hlt : i < m.n) (ht : m.tape i = false) (keep : List Int) : Lv (m.boot keep) i := ⟨Pl.boot_wf hwf keep, rfl, hlt, ht⟩
/-- behind a boot each sector is as it was, or as it was laid down -/
theorem LayNo.boot {m m' : Pl} {i a : Nat} {L : List (List Nat)} (h : LayNo m m' i a L) (hw : m.wt i = []) (ht : m.tape i = false) (keep : List Int) (p : Nat) : (m'.boot keep).rd i p = m.rd i p ∨ ∃ j, j < L.length ∧ p = a + j ∧ (m'.boot keep).rd i p = L.getD j [] ∧ m.steps + 1 ≤ m'.steps := by
  have h1 := boot_disk m' keep i (by rw [h.oth.tape]; exact ht) p m'.wts.length (Nat.le_refl _)
  have e : (m'.boot keep).rd i p = ((bootTo m' keep m'.wts.length).1 i).getD p zeros := rfl
  have e2 : m.rd i p = (m.fl i).getD p zeros := by unfold Pl.rd; rw [hw]; rfl
  rw [e, e2]
  rcases h1 with h1 | ⟨x, hx, hp, h1⟩
  · exact Or.inl (by rw [h1, h.fl])
  · rcases h.wt x hx with h2 | ⟨j, h2, h3, h4, h5⟩
    · rw [hw] at h2; cases h2
    · exact Or.inr ⟨j, h2, by omega, by rw [h1, h4], h5⟩
/-- calls and boots: what another device has, of which nothing waits, is as it was -/
structure Rel (m m' : Pl) (i : Nat) : Prop where
  sh : m'.sh = m.sh
  steps : m.steps ≤ m'.steps
  same : ∀ j, j ≠ i → m.wt j = [] → m'.wt j = [] ∧ ∀ p, m'.rd j p = m.rd j p
theorem Rel.refl (m : Pl) (i : Nat) : Rel m m i := ⟨rfl, Nat.le_refl _, fun _ _ h => ⟨h, fun _ => rfl⟩⟩
theorem Rel.trans {a b c : Pl} {i : Nat} (h : Rel a b i) (k : Rel b c i) : Rel a c i := ⟨k.sh.trans h.sh, Nat.le_trans h.steps k.steps, fun j hj hw => ⟨(k.same j hj (h.same j hj hw).1).1, fun p => ((k.same j hj (h.same j hj hw).1).2 p).trans ((h.same j hj hw).2 p)⟩⟩
theorem Oth.rel {m m' : Pl} {i : Nat} (h : Oth m m' i) : Rel m m' i := ⟨h.sh, h.steps, fun j hj hw => ⟨by rw [(h.same j hj).2]; exact hw, fun p => h.rd j p hj⟩⟩
theorem Rel.boot (m : Pl) (i : Nat) (keep : List Int) : Rel m (m.boot keep) i := ⟨rfl, Nat.le_refl _, fun j _ hw => ⟨rfl, fun p => boot_rd m keep j p hw⟩⟩
theorem Rel.fuse (m : Pl) (i : Nat) (n : Int) : Rel m (m.fuseTo n) i := by
  unfold Pl.fuseTo
  split
  · exact ⟨rfl, Nat.le_refl _, fun j _ hw => ⟨hw, fun _ => rfl⟩⟩
  · exact Rel.refl m i
end Go.Proofs.YtebalanfagglnaaDoor

namespace Go.Proofs.YtebalanfagglnaaDoor
open Go.RowKit Go.Maps

theorem partOk_zeros : partOk zeros = false := by
  unfold partOk payB
  rw [kindOf_zeros]
  simp
/-- the sector at E + j goes with the one at E -/
def Match (X : Nat → List Nat) (n E j : Nat) : Prop := E + j < n - 1 ∧ partOk (X (E + j)) = true ∧ pS (X (E + j)) = pS (X E) ∧ pL (X (E + j)) = pL (X E) ∧ pI (X (E + j)) = j
/-- no row begins behind E or at it; all is of sessions below B -/
structure Tail (X : Nat → List Nat) (n B F E : Nat) : Prop where
  each : ∀ a, E ≤ a → a < n - 1 → Old F (X a) ∨ (partOk (X a) = true ∧ pS (X a) < B ∧ a ≤ E + pI (X a))
  stop : E < n - 1 → partOk (X E) = true → F ≤ pS (X E) → ∃ j, j < secsOf (pL (X E)) ∧ ¬ Match X n E j
theorem Tail.below {X : Nat → List Nat} {n B F E a : Nat} (h : Tail X n B F E) (hF : F ≤ B) (h1 : E ≤ a) (h2 : a < n - 1) : X a = zeros ∨ (partOk (X a) = true ∧ pS (X a) < B) := by
  rcases h.each a h1 h2 with (h3 | h3) | h3
  · exact Or.inl h3
  · exact Or.inr ⟨h3.1, by omega⟩
  · exact Or.inr ⟨h3.1, h3.2.1⟩
theorem Tail.mono {X : Nat → List Nat} {n B B' F E : Nat} (h : Tail X n B F E) (hB : B ≤ B') : Tail X n B' F E := ⟨fun a h1 h2 => (h.each a h1 h2).imp id fun h3 => ⟨h3.1, by omega, h3.2.2⟩, h.stop⟩
theorem Tail.congr {X Y : Nat → List Nat} {n B F E : Nat} (h : Tail X n B F E) (e : ∀ a, Y a = X a) : Tail Y n B F E := by
  have : Y = X := funext e
  rw [this]
  exact h
/-- a row further on: none begins behind it -/
theorem Tail.on {X Y : Nat → List Nat} {n B F E k : Nat} (h : Tail X n B F E) (hk : 0 < k) (e : ∀ a, E + k ≤ a → Y a = X a) : Tail Y n B F (E + k) := by
  refine ⟨fun a h1 h2 => ?_, fun h1 h2 h3 => ?_⟩
  · rw [e a h1]
    exact (h.each a (by omega) h2).imp id fun h3 => ⟨h3.1, h3.2.1, by omega⟩
  · refine ⟨0, secsOf_pos _, fun hm => ?_⟩
    have h5 := hm.2.2.2.2
    rw [Nat.add_zero] at h5
    rw [e _ (Nat.le_refl _)] at h2 h3 h5
    rcases h.each (E + k) (by omega) h1 with (h4 | h4) | h4
    · rw [h4, partOk_zeros] at h2; cases h2
    · omega
    · omega
theorem rdEr_ok {n S a : Nat} {b : List Nat} (h : n - 1 ≤ a ∨ b = zeros ∨ (partOk b = true ∧ pS b ≤ S)) : rdEr n b a S = 0 := by
  rcases h with h | h | h
  · unfold rdEr partIs partEr
    rw [decide_eq_false (by omega)]
    rfl
  · subst h
    have h1 := partIs_zeros n a
    unfold rdEr
    rw [h1.1, h1.2]
    rfl
  · unfold rdEr partEr
    rw [decide_eq_false (show ¬ S < pS b by omega), Bool.and_false, h.1]
    simp
theorem rowGo_stop (A : Nat → Bool) (X : Nat → List Nat) (E : Int → Nat → Int) (a : Nat) (f : Int) (hE : ∀ j, E f (a + j) = f) (j0 : Nat) (hj0 : (A (a + j0) && decide (pS (X (a + j0)) = pS (X a) ∧ pL (X (a + j0)) = pL (X a) ∧ pI (X (a + j0)) = j0)) = false) : ∀ (n j : Nat) (acc : List Nat), j ≤ j0 → j0 < secsOf (pL (X a)) → rowGo A X E a n j acc f = ([], 0, f) := by
  intro n
  induction n with
  | zero => intro j acc _ _; rfl
  | succ n ih =>
    intro j acc h1 h2
    by_cases hg : (A (a + j) && decide (pS (X (a + j)) = pS (X a) ∧ pL (X (a + j)) = pL (X a) ∧ pI (X (a + j)) = j)) = true
    · have hne : j ≠ j0 := fun e => by subst e; rw [hj0] at hg; cases hg
      rw [rowGo_on _ _ _ _ _ _ _ _ (by omega) hg (by omega), hE, show n + 1 - 1 = n by omega]
      exact ih (j + 1) _ (by omega) h2
    · exact rowGo_no _ _ _ _ _ _ _ _ (by simpa using hg)
/-- what is read behind the rows: nothing -/
theorem Tail.rowRd {X : Nat → List Nat} {n S B F E : Nat} (h : Tail X n B F E) (hF : F ≤ B) (hB : B ≤ S + 1) : rowRd (fun a => rdOk n (X a) a S F) X (fun f a => rdF f n (X a) a S) E 0 = ([], 0, 0) := by
  have hE : ∀ j, rdF 0 n (X (E + j)) (E + j) S = 0 := fun j => by
    unfold rdF
    rw [rdEr_ok, if_pos rfl]
    by_cases hj : E + j < n - 1
    · rcases h.below hF (show E ≤ E + j by omega) hj with h1 | h1
      · exact Or.inr (Or.inl h1)
      · exact Or.inr (Or.inr ⟨h1.1, by omega⟩)
    · exact Or.inl (by omega)
  obtain ⟨j0, h1, h2⟩ : ∃ j0, j0 < secsOf (pL (X E)) ∧ (rdOk n (X (E + j0)) (E + j0) S F && decide (pS (X (E + j0)) = pS (X E) ∧ pL (X (E + j0)) = pL (X E) ∧ pI (X (E + j0)) = j0)) = false := by
    by_cases hg : rdOk n (X E) E S F = true
    · have hg2 := hg
      unfold rdOk partIs at hg2
      simp only [Bool.and_eq_true, decide_eq_true_eq] at hg2
      obtain ⟨j, h3, h4⟩ := h.stop hg2.1.1 hg2.1.2.2 hg2.2.2
      refine ⟨j, h3, Bool.eq_false_iff.2 fun hn => h4 ?_⟩
      simp only [Bool.and_eq_true, decide_eq_true_eq] at hn
      unfold rdOk partIs at hn
      simp only [Bool.and_eq_true, decide_eq_true_eq] at hn
      exact ⟨hn.1.1.1, hn.1.1.2.2, hn.2.1, hn.2.2.1, hn.2.2.2⟩
    · refine ⟨0, secsOf_pos _, ?_⟩
      rw [Nat.add_zero, Bool.eq_false_iff.2 hg]
      rfl
  unfold Go.Proofs.YtebalanfagglnaaDoor.rowRd
  have e0 : rdF 0 n (X E) E S = 0 := hE 0
  show rowGo _ X _ E _ 0 [] (rdF 0 n (X E) E S) = _
  rw [e0]
  exact rowGo_stop (fun a => rdOk n (X a) a S F) X (fun f a => rdF f n (X a) a S) E 0 hE j0 h2 _ 0 [] (Nat.zero_le _) h1

/-- a journal at rest, of session S, of which all behind the rows is of sessions below B -/
structure Jd (m : Pl) (i n S B F : Nat) (rows : List (Nat × List (List Nat))) : Prop where
  lv : Lv m i
  wt : m.wt i = []
  size : m.size i = n
  big : 8 ≤ n
  head : m.rd i 0 = headSec S F
  le : F ≤ S
  leB : F ≤ B
  ltB : B ≤ S + 1
  ses : S ≤ m.steps + 1
  log : LogAt (logX m i) S F 0 rows
  fits : logLen rows ≤ n - 1
  tail : Tail (logX m i) n B F (logLen rows)
/-- what holds of a journal holds of every plant whose disk has the same -/
theorem Jd.same {m m' : Pl} {i n S B F : Nat} {rows : List (Nat × List (List Nat))} (h : Jd m i n S B F rows) (lv : Lv m' i) (wt : m'.wt i = []) (sh : m'.sh = m.sh) (st : m.steps ≤ m'.steps) (rd : ∀ p, m'.rd i p = m.rd i p) : Jd m' i n S B F rows := by
  have hx : ∀ a, logX m' i a = logX m i a := fun a => rd (1 + a)
  exact ⟨lv, wt, by unfold Pl.size; rw [sh]; exact h.size, h.big, by rw [rd]; exact h.head, h.le, h.leB, h.ltB, by have := h.ses; omega, LogAt.mono (Nat.le_refl S) rows 0 (fun p _ _ => hx p) h.log, h.fits, h.tail.congr hx⟩
theorem Jd.lt {m : Pl} {i n S B F : Nat} {rows : List (Nat × List (List Nat))} (h : Jd m i n S B F rows) (hst : m.steps < 1099511627776) : S < 4611686018427387904 := by have := h.ses; omega
theorem Jd.logOf {m : Pl} {i n S B F : Nat} {rows : List (Nat × List (List Nat))} (h : Jd m i n S B F rows) (hst : m.steps < 1099511627776) : logOf m n i S F = (some (rows.map (·.2), logLen rows), 0) := by
  have hn : n ≤ 4096 := by rw [← h.size]; exact (h.lv.wf.sizes i h.lv.lt).2
  have h1 := txsGo_log (logX m i) n S F (h.lt hst) rows 0 4200 [] h.log (by have := h.fits; omega) (by
    rw [Nat.zero_add]
    exact h.tail.rowRd h.leB h.ltB) (by have := logLen_ge rows; have := h.fits; omega)
  rw [Nat.zero_add, List.nil_append] at h1
  exact h1
theorem Jd.boot {m : Pl} {i n S B F : Nat} {rows : List (Nat × List (List Nat))} (h : Jd m i n S B F rows) (keep : List Int) : Jd (m.boot keep) i n S B F rows :=
  h.same (Lv.boot h.lv.wf h.lv.lt h.lv.disk keep) rfl rfl (Nat.le_refl _) fun p => boot_rd m keep i p h.wt
theorem Jd.fuse {m : Pl} {i n S B F : Nat} {rows : List (Nat × List (List Nat))} (h : Jd m i n S B F rows) (k : Int) (h0 : -9223372036854775808 ≤ k) (h1 : k ≤ 9223372036854775807) : Jd (m.fuseTo k) i n S B F rows := by
  have hwf := Pl.fuse_wf h.lv.wf k h0 h1
  have e : m.fuseTo k = { m with fuse := k } := by unfold Pl.fuseTo; rw [if_pos h.lv.on]
  rw [e] at hwf ⊢
  exact h.same ⟨hwf, h.lv.on, h.lv.lt, h.lv.disk⟩ h.wt rfl (Nat.le_refl _) fun _ => rfl
theorem headOpen {m : Pl} {i S F : Nat} (h : m.rd i 0 = headSec S F) (hle : F ≤ S) (hSl : S < 4611686018427387904) : headOk (m.rd i 0) = true ∧ hS (m.rd i 0) = S ∧ hF (m.rd i 0) = F := by
  rw [h]
  exact ⟨headOk_head S F hle hSl, hS_head S F (by omega), hF_head S F (by omega)⟩
theorem Jd.openR {m : Pl} {i n S B F : Nat} {rows : List (Nat × List (List Nat))} (h : Jd m i n S B F rows) (hst : m.steps < 1099511627776) : m.openR n i = m.begin (i : Int) (S + 1) F := by
  obtain ⟨h3, h1, h2⟩ := headOpen h.head h.le (h.lt hst)
  unfold Pl.openR
  rw [h3, if_pos rfl, h1, h2, h.logOf hst]
  rfl
/-- a head laid down anew: done, or cut off -/
theorem Jd.beginC {m : Pl} {i n S B F : Nat} {rows : List (Nat × List (List Nat))} (h : Jd m i n S B F rows) (hB : B ≤ S + 1) :
    ((m.begin (i : Int) (S + 1) F).1 = 0 ∧ LayOk m (m.begin (i : Int) (S + 1) F).2 i 0 [headSec (S + 1) F] ∧ Jd (m.begin (i : Int) (S + 1) F).2 i n (S + 1) (S + 1) F rows) ∨
    ((m.begin (i : Int) (S + 1) F).1 = 2 ∧ LayNo m (m.begin (i : Int) (S + 1) F).2 i 0 [headSec (S + 1) F] ∧ ∀ keep, Jd ((m.begin (i : Int) (S + 1) F).2.boot keep) i n S B F rows ∨ Jd ((m.begin (i : Int) (S + 1) F).2.boot keep) i n (S + 1) B F rows) := by
  have hb := h.big
  have hle := h.le
  have hses := h.ses
  have hleB := h.leB
  unfold Pl.begin
  rcases Lv.lay [headSec (S + 1) F] 0 m h.lv (fun s hs => by rw [List.mem_singleton.1 hs]; exact headSec_sec _ _) (by rw [h.size]; simp; omega) with ⟨k1, k⟩ | ⟨k1, k⟩
  · left
    have hx : ∀ a, logX (m.lay (i : Int) 0 [headSec (S + 1) F]).2 i a = logX m i a := fun a => by
      unfold logX
      rw [k.rd, if_neg (by simp)]
    have hmore := k.more
    refine ⟨k1, k, k.lv, k.wt, by rw [k.oth.size]; exact h.size, hb, ?_, by omega, by omega, by omega, by omega, LogAt.mono (Nat.le_succ S) rows 0 (fun p _ _ => hx p) h.log, h.fits, (h.tail.mono hB).congr hx⟩
    rw [k.rd, if_pos (by simp)]
    rfl
  · right
    refine ⟨k1, k, fun keep => ?_⟩
    have hx : ∀ a, logX ((m.lay (i : Int) 0 [headSec (S + 1) F]).2.boot keep) i a = logX m i a := fun a => by
      rcases k.boot h.wt h.lv.disk keep (1 + a) with e | ⟨j, h1, h2, _⟩
      · exact e
      · simp at h1; omega
    have lv : Lv ((m.lay (i : Int) 0 [headSec (S + 1) F]).2.boot keep) i := Lv.boot k.wf (by rw [k.oth.n]; exact h.lv.lt) (by rw [k.oth.tape]; exact h.lv.disk) keep
    have hsz : Pl.size ((m.lay (i : Int) 0 [headSec (S + 1) F]).2.boot keep) i = n := (k.oth.size i).trans h.size
    have hss := k.oth.steps
    rcases k.boot h.wt h.lv.disk keep 0 with e | ⟨j, h1, h2, e, hs⟩
    · left
      exact ⟨lv, rfl, hsz, hb, by rw [e]; exact h.head, h.le, h.leB, h.ltB, by show S ≤ (m.lay (i : Int) 0 [headSec (S + 1) F]).2.steps + 1; omega, LogAt.mono (Nat.le_refl S) rows 0 (fun p _ _ => hx p) h.log, h.fits, h.tail.congr hx⟩
    · right
      have hj : j = 0 := by omega
      subst hj
      exact ⟨lv, rfl, hsz, hb, by rw [e]; rfl, by omega, h.leB, by omega, by show S + 1 ≤ (m.lay (i : Int) 0 [headSec (S + 1) F]).2.steps + 1; omega, LogAt.mono (Nat.le_succ S) rows 0 (fun p _ _ => hx p) h.log, h.fits, h.tail.congr hx⟩
/-- every sector of the log is blank, or a part of a session up to S -/
theorem Jd.all {m : Pl} {i n S B F : Nat} {rows : List (Nat × List (List Nat))} (h : Jd m i n S B F rows) (hS : S < 4611686018427387904) (a : Nat) (ha : a < n - 1) : Old (S + 1) (logX m i a) := by
  by_cases e : a < logLen rows
  · exact LogAt.old hS rows 0 a h.log (Nat.zero_le _) (by omega)
  · have hB := h.ltB
    rcases h.tail.below h.leB (show logLen rows ≤ a by omega) ha with h1 | h1
    · exact Or.inl h1
    · exact Or.inr ⟨h1.1, by omega⟩
theorem Tail.old {X : Nat → List Nat} {n B F : Nat} (h : ∀ a, a < n - 1 → Old F (X a)) : Tail X n B F 0 := ⟨fun a _ h2 => Or.inl (h a h2), fun h1 h2 h3 => by
  rcases h 0 h1 with h4 | h4
  · rw [h4, partOk_zeros] at h2; cases h2
  · omega⟩
theorem Jd.truncC {m : Pl} {i n S B F : Nat} {rows : List (Nat × List (List Nat))} (h : Jd m i n S B F rows) (hS : S < 4611686018427387904) :
    ((m.trunc (i : Int) S).1 = 0 ∧ LayOk m (m.trunc (i : Int) S).2 i 0 [headSec (S + 1) (S + 1)] ∧ Jd (m.trunc (i : Int) S).2 i n (S + 1) (S + 1) (S + 1) []) ∨
    ((m.trunc (i : Int) S).1 = 2 ∧ LayNo m (m.trunc (i : Int) S).2 i 0 [headSec (S + 1) (S + 1)] ∧ ∀ keep, Jd ((m.trunc (i : Int) S).2.boot keep) i n S B F rows ∨ Jd ((m.trunc (i : Int) S).2.boot keep) i n (S + 1) (S + 1) (S + 1) []) := by
  have hb := h.big
  have hle := h.le
  have hses := h.ses
  unfold Pl.trunc Pl.begin
  rcases Lv.lay [headSec (S + 1) (S + 1)] 0 m h.lv (fun s hs => by rw [List.mem_singleton.1 hs]; exact headSec_sec _ _) (by rw [h.size]; simp; omega) with ⟨k1, k⟩ | ⟨k1, k⟩
  · left
    have hx : ∀ a, logX (m.lay (i : Int) 0 [headSec (S + 1) (S + 1)]).2 i a = logX m i a := fun a => by
      unfold logX
      rw [k.rd, if_neg (by simp)]
    have hmore := k.more
    refine ⟨k1, k, k.lv, k.wt, by rw [k.oth.size]; exact h.size, hb, ?_, Nat.le_refl _, Nat.le_refl _, by omega, by omega, trivial, Nat.zero_le _, Tail.old fun a ha => by rw [hx]; exact h.all hS a ha⟩
    rw [k.rd, if_pos (by simp)]
    rfl
  · right
    refine ⟨k1, k, fun keep => ?_⟩
    have hx : ∀ a, logX ((m.lay (i : Int) 0 [headSec (S + 1) (S + 1)]).2.boot keep) i a = logX m i a := fun a => by
      rcases k.boot h.wt h.lv.disk keep (1 + a) with e | ⟨j, h1, h2, _⟩
      · exact e
      · simp at h1; omega
    have lv : Lv ((m.lay (i : Int) 0 [headSec (S + 1) (S + 1)]).2.boot keep) i := Lv.boot k.wf (by rw [k.oth.n]; exact h.lv.lt) (by rw [k.oth.tape]; exact h.lv.disk) keep
    have hsz : Pl.size ((m.lay (i : Int) 0 [headSec (S + 1) (S + 1)]).2.boot keep) i = n := (k.oth.size i).trans h.size
    have hss := k.oth.steps
    rcases k.boot h.wt h.lv.disk keep 0 with e | ⟨j, h1, h2, e, hs⟩
    · left
      exact ⟨lv, rfl, hsz, hb, by rw [e]; exact h.head, h.le, h.leB, h.ltB, by show S ≤ (m.lay (i : Int) 0 [headSec (S + 1) (S + 1)]).2.steps + 1; omega, LogAt.mono (Nat.le_refl S) rows 0 (fun p _ _ => hx p) h.log, h.fits, h.tail.congr hx⟩
    · right
      have hj : j = 0 := by omega
      subst hj
      exact ⟨lv, rfl, hsz, hb, by rw [e]; rfl, Nat.le_refl _, Nat.le_refl _, by omega, by show S + 1 ≤ (m.lay (i : Int) 0 [headSec (S + 1) (S + 1)]).2.steps + 1; omega, trivial, Nat.zero_le _, Tail.old fun a ha => by rw [hx]; exact h.all hS a ha⟩
end Go.Proofs.YtebalanfagglnaaDoor

namespace Go.Proofs.YtebalanfagglnaaDoor
open Go.RowKit Go.Maps

/-- the new sector j of a row -/
def newSec (S : Nat) (L : List (List Nat)) (j : Nat) : List Nat := partSec S j (txSize L) (pieceAt (bodyOf L) j)
theorem newSec_is (S : Nat) (L : List (List Nat)) (hl : longTx L = false) (hS : S < 4611686018427387904) (j : Nat) (hj : j < secsOf (txSize L)) : partOk (newSec S L j) = true ∧ pS (newSec S L j) = S ∧ pL (newSec S L j) = txSize L ∧ pI (newSec S L j) = j := by
  have hnl := notLong hl
  have hK : secsOf (txSize L) ≤ 250 := by unfold secsOf; omega
  have hpl : (pieceAt (bodyOf L) j).length ≤ 44 := by rw [pieceAt_eq, List.length_take]; omega
  unfold newSec
  exact ⟨by rw [partOk_part _ _ _ _ hpl (by omega) (by omega)]; exact decide_eq_true hj, pS_part _ _ _ _ hpl (by omega), pL_part _ _ _ _ hpl (by omega), pI_part _ _ _ _ hpl (by omega)⟩
theorem rowSecs_new (S : Nat) (L : List (List Nat)) (j : Nat) (hj : j < secsOf (txSize L)) : (rowSecs S (bodyOf L)).getD j [] = newSec S L j := by
  rw [rowSecs_at _ _ _ (by rw [bodyOf_length]; exact hj), bodyOf_length]
  rfl
/-- all of the row was kept -/
theorem Tail.whole {X Y : Nat → List Nat} {n S F E : Nat} {L : List (List Nat)} (h : Tail X n S F E) (e : ∀ a, E + secsOf (txSize L) ≤ a → Y a = X a) : Tail Y n S F (E + secsOf (txSize L)) := h.on (secsOf_pos _) e
/-- some of it was lost -/
theorem Tail.torn {X Y : Nat → List Nat} {n S F E : Nat} {L : List (List Nat)} (h : Tail X n S F E) (hFS : F ≤ S) (hl : longTx L = false) (hS : S < 4611686018427387904)
    (e : ∀ a, Y a = X a ∨ ∃ j, j < secsOf (txSize L) ∧ a = E + j ∧ Y a = newSec S L j) (j1 : Nat) (hj1 : j1 < secsOf (txSize L)) (hn1 : Y (E + j1) ≠ newSec S L j1) (hfit : E + secsOf (txSize L) ≤ n - 1) : Tail Y n (S + 1) F E := by
  have old : ∀ a, E ≤ a → a < n - 1 → partOk (X a) = true → pS (X a) < S := fun a h1 h2 h3 => by
    rcases h.below hFS h1 h2 with h4 | h4
    · rw [h4, partOk_zeros] at h3; cases h3
    · exact h4.2
  refine ⟨fun a h1 h2 => ?_, fun h1 h2 h3 => ?_⟩
  · rcases e a with e1 | ⟨j, h3, h4, e1⟩
    · rw [e1]
      exact (h.each a h1 h2).imp id fun h5 => ⟨h5.1, by omega, h5.2.2⟩
    · obtain ⟨k1, k2, k3, k4⟩ := newSec_is S L hl hS j h3
      rw [e1]
      exact Or.inr ⟨k1, by omega, by omega⟩
  · have ej1 : Y (E + j1) = X (E + j1) := by
      rcases e (E + j1) with e1 | ⟨j, h4, h5, e1⟩
      · exact e1
      · have : j = j1 := by omega
        subst this
        exact absurd e1 hn1
    rcases e E with e0 | ⟨j, h4, h5, e0⟩
    · rw [e0] at h2 h3
      have hS0 := old E (Nat.le_refl _) h1 h2
      obtain ⟨j0, h6, h7⟩ := h.stop h1 h2 h3
      refine ⟨j0, by rw [e0]; exact h6, fun hm => ?_⟩
      rcases e (E + j0) with e1 | ⟨j, h8, h9, e1⟩
      · refine h7 ⟨hm.1, ?_, ?_, ?_, ?_⟩
        · rw [← e1]; exact hm.2.1
        · rw [← e1, ← e0]; exact hm.2.2.1
        · rw [← e1, ← e0]; exact hm.2.2.2.1
        · rw [← e1]; exact hm.2.2.2.2
      · have h10 := hm.2.2.1
        rw [e1, (newSec_is S L hl hS j h8).2.1, e0] at h10
        omega
    · have hj : j = 0 := by omega
      subst hj
      obtain ⟨k1, k2, k3, k4⟩ := newSec_is S L hl hS 0 h4
      refine ⟨j1, by rw [e0, k3]; exact hj1, fun hm => ?_⟩
      have h10 := hm.2.2.1
      have h11 := hm.2.1
      rw [ej1] at h10 h11
      rw [e0, k2] at h10
      have := old (E + j1) (by omega) (by omega) h11
      omega
theorem Jd.appC {m : Pl} {i n S F : Nat} {rows : List (Nat × List (List Nat))} (h : Jd m i n S S F rows) (hS : S < 4611686018427387904) (L : List (List Nat)) (hl : longTx L = false) (hb : ∀ r ∈ L, ∀ c ∈ r, c < 256) (hf : logLen rows + secsOf (txSize L) ≤ n - 1) :
    ((m.app i S (logLen rows) n L).1 = 0 ∧ LayOk m (m.app i S (logLen rows) n L).2.1 i (1 + logLen rows) (rowSecs S (bodyOf L)) ∧ Jd (m.app i S (logLen rows) n L).2.1 i n S S F (rows ++ [(S, L)]) ∧ (m.app i S (logLen rows) n L).2.2 = logLen (rows ++ [(S, L)])) ∨
    ((m.app i S (logLen rows) n L).1 = 2 ∧ LayNo m (m.app i S (logLen rows) n L).2.1 i (1 + logLen rows) (rowSecs S (bodyOf L)) ∧ ∀ keep, Jd ((m.app i S (logLen rows) n L).2.1.boot keep) i n S (S + 1) F rows ∨ Jd ((m.app i S (logLen rows) n L).2.1.boot keep) i n S (S + 1) F (rows ++ [(S, L)])) := by
  have hbig := h.big
  have hle := h.le
  have hses := h.ses
  have hfb : fitsB L n (logLen rows) = true := by
    unfold fitsB
    rw [hl, decide_eq_true (by omega)]
    rfl
  have hrl : (rowSecs S (bodyOf L)).length = secsOf (txSize L) := by rw [rowSecs_length, bodyOf_length]
  have happ : m.app i S (logLen rows) n L = ((m.lay (i : Int) (1 + logLen rows) (rowSecs S (bodyOf L))).1, (m.lay (i : Int) (1 + logLen rows) (rowSecs S (bodyOf L))).2, if (m.lay (i : Int) (1 + logLen rows) (rowSecs S (bodyOf L))).1 = 0 then logLen rows + secsOf (txSize L) else logLen rows) := by
    unfold Pl.app
    rw [hl, hfb]
    rfl
  rw [happ]
  rcases Lv.lay (rowSecs S (bodyOf L)) (1 + logLen rows) m h.lv (rowSecs_sec S _ (bodyOf_lt L hb)) (by rw [h.size, hrl]; omega) with ⟨k1, k⟩ | ⟨k1, k⟩
  · left
    have hrd := k.rd
    rw [hrl] at hrd
    have hge := k.oth.steps
    refine ⟨k1, k, ⟨k.lv, k.wt, by rw [k.oth.size]; exact h.size, hbig, ?_, hle, hle, by omega, by show S ≤ (m.lay (i : Int) (1 + logLen rows) (rowSecs S (bodyOf L))).2.steps + 1; omega, ?_, by rw [logLen_snoc]; exact hf, ?_⟩, by show (if _ then _ else _) = _; rw [if_pos k1, logLen_snoc]⟩
    · show (m.lay (i : Int) (1 + logLen rows) (rowSecs S (bodyOf L))).2.rd i 0 = _
      rw [hrd, if_neg (by omega)]
      exact h.head
    · refine LogAt.snoc _ rows 0 (LogAt.mono (Nat.le_refl S) rows 0 (fun p _ hp => ?_) h.log) ⟨fun j hj => ?_, hle, Nat.le_refl _, hl, trivial⟩
      · show (m.lay (i : Int) (1 + logLen rows) (rowSecs S (bodyOf L))).2.rd i (1 + p) = m.rd i (1 + p)
        rw [hrd, if_neg (by omega)]
      · have hj' : j < secsOf (txSize L) := hj
        show (m.lay (i : Int) (1 + logLen rows) (rowSecs S (bodyOf L))).2.rd i (1 + (0 + logLen rows + j)) = _
        rw [hrd, if_pos (by omega), show 1 + (0 + logLen rows + j) - (1 + logLen rows) = j by omega, rowSecs_new _ _ _ hj']
        rfl
    · rw [logLen_snoc]
      refine h.tail.whole fun a ha => ?_
      have ha' : logLen rows + secsOf (txSize L) ≤ a := ha
      show (m.lay (i : Int) (1 + logLen rows) (rowSecs S (bodyOf L))).2.rd i (1 + a) = m.rd i (1 + a)
      rw [hrd, if_neg (by omega)]
  · right
    refine ⟨k1, k, fun keep => ?_⟩
    show Jd ((m.lay (i : Int) (1 + logLen rows) (rowSecs S (bodyOf L))).2.boot keep) i n S (S + 1) F rows ∨ Jd ((m.lay (i : Int) (1 + logLen rows) (rowSecs S (bodyOf L))).2.boot keep) i n S (S + 1) F (rows ++ [(S, L)])
    obtain ⟨M, hM⟩ : ∃ M, M = (m.lay (i : Int) (1 + logLen rows) (rowSecs S (bodyOf L))).2 := ⟨_, rfl⟩
    rw [← hM] at k ⊢
    have hx : ∀ a, logX (M.boot keep) i a = logX m i a ∨ ∃ j, j < secsOf (txSize L) ∧ a = logLen rows + j ∧ logX (M.boot keep) i a = newSec S L j := fun a => by
      rcases k.boot h.wt h.lv.disk keep (1 + a) with e | ⟨j, h1, h2, h3, _⟩
      · exact Or.inl e
      · rw [hrl] at h1
        exact Or.inr ⟨j, h1, by omega, by rw [← rowSecs_new S L j h1]; exact h3⟩
    have hhead : (M.boot keep).rd i 0 = headSec S F := by
      rcases k.boot h.wt h.lv.disk keep 0 with e | ⟨j, h1, h2, h3, _⟩
      · rw [e]; exact h.head
      · omega
    have lv : Lv (M.boot keep) i := Lv.boot k.wf (by rw [k.oth.n]; exact h.lv.lt) (by rw [k.oth.tape]; exact h.lv.disk) keep
    have hsz : (M.boot keep).size i = n := (k.oth.size i).trans h.size
    have hss : S ≤ (M.boot keep).steps + 1 := by show S ≤ M.steps + 1; have := k.oth.steps; omega
    have hlow : ∀ p, p < logLen rows → logX (M.boot keep) i p = logX m i p := fun p hp => by
      rcases hx p with e | ⟨j, _, h2, _⟩
      · exact e
      · omega
    by_cases hall : ∀ j, j < secsOf (txSize L) → logX (M.boot keep) i (logLen rows + j) = newSec S L j
    · right
      refine ⟨lv, rfl, hsz, hbig, hhead, hle, by omega, Nat.le_refl _, hss, ?_, by rw [logLen_snoc]; exact hf, ?_⟩
      · refine LogAt.snoc _ rows 0 (LogAt.mono (Nat.le_refl S) rows 0 (fun p _ hp => hlow p (by omega)) h.log) ⟨fun j hj => ?_, hle, Nat.le_refl _, hl, trivial⟩
        rw [Nat.zero_add]
        exact hall j hj
      · rw [logLen_snoc]
        refine (h.tail.whole fun a ha => ?_).mono (Nat.le_succ S)
        rcases hx a with e | ⟨j, h1, h2, _⟩
        · exact e
        · have ha' : logLen rows + secsOf (txSize L) ≤ a := ha
          omega
    · left
      obtain ⟨j1, hj1⟩ := Classical.not_forall.1 hall
      obtain ⟨hj2, hj3⟩ := Classical.not_imp.1 hj1
      exact ⟨lv, rfl, hsz, hbig, hhead, hle, by omega, Nat.le_refl _, hss, LogAt.mono (Nat.le_refl S) rows 0 (fun p _ hp => hlow p (by omega)) h.log, h.fits, h.tail.torn hle hl hS hx j1 hj2 hj3 hf⟩

/-- a disk whose head is blank: no journal -/
structure Blank (m : Pl) (i n : Nat) : Prop where
  lv : Lv m i
  wt : m.wt i = []
  size : m.size i = n
  big : 8 ≤ n
  head : m.rd i 0 = zeros
theorem headOk_zeros : headOk zeros = false := by
  unfold headOk payB
  rw [kindOf_zeros]
  simp
theorem Blank.openR {m : Pl} {i n : Nat} (h : Blank m i n) : m.openR n i = (4, m) := by
  unfold Pl.openR
  rw [h.head, headOk_zeros, if_neg (by decide)]
/-- Format, whatever the disk had: done, or cut off: what was there, no head, or an empty journal -/
theorem format_C {m : Pl} {i n : Nat} (lv : Lv m i) (hn : m.size i = n) (h8 : 8 ≤ n) :
    ((m.format3 i n).1 = 0 ∧ Oth m (m.format3 i n).2 i ∧ (m.format3 i n).2.steps ≤ m.steps + n + 4 ∧ (m.fuse < 0 → (m.format3 i n).2.fuse < 0) ∧ Jd (m.format3 i n).2 i n 1 1 1 []) ∨
    ((m.format3 i n).1 = 2 ∧ Oth m (m.format3 i n).2 i ∧ (m.format3 i n).2.steps ≤ m.steps + n + 4 ∧ 0 ≤ m.fuse ∧ (m.format3 i n).2.on = false ∧ (m.format3 i n).2.WF ∧ (m.wt i = [] → ∀ keep, (∀ p, ((m.format3 i n).2.boot keep).rd i p = m.rd i p) ∨ Blank ((m.format3 i n).2.boot keep) i n ∨ Jd ((m.format3 i n).2.boot keep) i n 1 1 1 [])) := by
  unfold Pl.format3
  rcases Lv.lay [zeros] 0 m lv (fun s hs => by rw [List.mem_singleton.1 hs]; exact zeros_sec) (by simp; omega) with ⟨a1, a⟩ | ⟨a1, a⟩
  · rw [if_pos a1]
    obtain ⟨m1, hm1⟩ : ∃ m1, m1 = (m.lay (i : Int) 0 [zeros]).2 := ⟨_, rfl⟩
    rw [← hm1] at a ⊢
    have z1 : m1.size i = n := (a.oth.size i).trans hn
    have r1 : m1.rd i 0 = zeros := by rw [a.rd, if_pos (by simp)]; rfl
    have le1 := a.le
    simp only [List.length_singleton] at le1
    rcases Lv.lay (List.replicate (n - 1) zeros) 1 m1 a.lv (fun s hs => by rw [(List.mem_replicate.1 hs).2]; exact zeros_sec) (by rw [z1, List.length_replicate]; omega) with ⟨b1, b⟩ | ⟨b1, b⟩
    · rw [if_pos b1]
      obtain ⟨m2, hm2⟩ : ∃ m2, m2 = (m1.lay (i : Int) 1 (List.replicate (n - 1) zeros)).2 := ⟨_, rfl⟩
      rw [← hm2] at b ⊢
      have z2 : m2.size i = n := (b.oth.size i).trans z1
      have r2 : ∀ p, p < n → m2.rd i p = zeros := fun p hp => by
        rw [b.rd, List.length_replicate]
        by_cases e : 1 ≤ p
        · rw [if_pos (by omega), List.getD_eq_getElem?_getD, List.getElem?_replicate, if_pos (by omega)]
          rfl
        · rw [if_neg (by omega), show p = 0 by omega]
          exact r1
      have le2 := b.le
      rw [List.length_replicate] at le2
      rcases Lv.lay [headSec 1 1] 0 m2 b.lv (fun s hs => by rw [List.mem_singleton.1 hs]; exact headSec_sec 1 1) (by rw [z2]; simp; omega) with ⟨c1, c⟩ | ⟨c1, c⟩
      · left
        have le3 := c.le
        simp only [List.length_singleton] at le3
        refine ⟨c1, a.oth.trans (b.oth.trans c.oth), by omega, fun hf => c.fuse (b.fuse (a.fuse hf)), c.lv, c.wt, (c.oth.size i).trans z2, h8, by rw [c.rd, if_pos (by simp)]; rfl, Nat.le_refl _, Nat.le_refl _, by decide, by omega, trivial, Nat.zero_le _, Tail.old fun a ha => ?_⟩
        unfold logX
        rw [c.rd, if_neg (by simp)]
        exact Or.inl (r2 _ (by omega))
      · right
        have le3 := c.le
        simp only [List.length_singleton] at le3
        have f2 := c.fuse
        refine ⟨c1, a.oth.trans (b.oth.trans c.oth), by omega, ?_, c.off, c.wf, fun _ keep => Or.inr ?_⟩
        · rcases Int.lt_or_le m.fuse 0 with hf | hf
          · have := b.fuse (a.fuse hf); omega
          · exact hf
        · have lv3 : Lv ((m2.lay (i : Int) 0 [headSec 1 1]).2.boot keep) i := Lv.boot c.wf (by rw [c.oth.n]; exact b.lv.lt) (by rw [c.oth.tape]; exact b.lv.disk) keep
          have z3 : ((m2.lay (i : Int) 0 [headSec 1 1]).2.boot keep).size i = n := (c.oth.size i).trans z2
          rcases c.boot b.wt b.lv.disk keep 0 with e | ⟨j, h1, h2, e, _⟩
          · exact Or.inl ⟨lv3, rfl, z3, h8, by rw [e]; exact r2 0 (by omega)⟩
          · right
            have hj : j = 0 := by omega
            subst hj
            refine ⟨lv3, rfl, z3, h8, by rw [e]; rfl, Nat.le_refl _, Nat.le_refl _, by decide, by omega, trivial, Nat.zero_le _, Tail.old fun a ha => ?_⟩
            rcases c.boot b.wt b.lv.disk keep (1 + a) with e | ⟨j, h1, h2, _⟩
            · exact Or.inl (by unfold logX; rw [e]; exact r2 _ (by omega))
            · simp at h1; omega
    · right
      rw [if_neg (by rw [b1]; decide)]
      have le2 := b.le
      rw [List.length_replicate] at le2
      have f2 := b.fuse
      refine ⟨b1, a.oth.trans b.oth, by omega, ?_, b.off, b.wf, fun _ keep => Or.inr (Or.inl ⟨Lv.boot b.wf (by rw [b.oth.n]; exact a.lv.lt) (by rw [b.oth.tape]; exact a.lv.disk) keep, rfl, (b.oth.size i).trans z1, h8, ?_⟩)⟩
      · rcases Int.lt_or_le m.fuse 0 with hf | hf
        · have := a.fuse hf; omega
        · exact hf
      · rcases b.boot a.wt a.lv.disk keep 0 with e | ⟨j, h1, h2, _⟩
        · rw [e]; exact r1
        · omega
  · right
    rw [if_neg (by rw [a1]; decide)]
    have le1 := a.le
    simp only [List.length_singleton] at le1
    refine ⟨a1, a.oth, by omega, a.fuse, a.off, a.wf, fun hw keep => ?_⟩
    rcases a.boot hw lv.disk keep 0 with e | ⟨j, h1, h2, e, _⟩
    · left
      intro p
      rcases a.boot hw lv.disk keep p with e' | ⟨j, h1, h2, _⟩
      · exact e'
      · have : p = 0 := by simp at h1; omega
        rw [this]; exact e
    · right; left
      have hj : j = 0 := by omega
      subst hj
      exact ⟨Lv.boot a.wf (by rw [a.oth.n]; exact lv.lt) (by rw [a.oth.tape]; exact lv.disk) keep, rfl, (a.oth.size i).trans hn, h8, by rw [e]; rfl⟩
end Go.Proofs.YtebalanfagglnaaDoor

namespace Go.Proofs.YtebalanfagglnaaDoor
open Go.RowKit Go.Maps

theorem on_cells (w : World) (g : Nat) (b : Bool) (c1 : w.cell? ⟨g, 1, none⟩ = some (.bool b)) : Calls Tryd.prog 22 #[ptr g] w fun e w' => e = .returned (.bool b) ∧ w' = w := by
  go_enter Tryd.func22, Tryd.ntmps22
  go_wp2
  go_ret
  exact ⟨rfl, rfl⟩
theorem Live.isOn {w : World} {c : Nat → Colour} {t g : Nat} {m : Pl} (h : Live w c t g m) : Calls Tryd.prog 22 #[ptr g] w fun e w' => e = .returned (.bool m.on) ∧ w' = w := by
  obtain ⟨⟨db, cap, gs, hP⟩, hwf, _⟩ := h
  exact on_cells w g m.on hP.c1
end Go.Proofs.YtebalanfagglnaaDoor

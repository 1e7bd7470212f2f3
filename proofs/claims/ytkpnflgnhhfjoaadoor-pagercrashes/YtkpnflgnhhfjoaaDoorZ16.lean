/- Layer 9: plain: a plant's disk, whatever its fuse. Layer 9: plain: what a disk with a pager has. Layer 9: plain: a commit, laid down. -/
import Derived.Test.YtkpnflgnhhfjoaaDoorZ06
import Derived.Test.YtkpnflgnhhfjoaaDoorZ15
namespace Go.Proofs.YtkpnflgnhhfjoaaDoor
open Go.RowKit Go.Maps

/-- how a plant's shape is told -/
def ShapeOf (m : Pl) (ds ts : List Nat) : Prop := m.sh = ds.map (fun n => (false, n)) ++ ts.map (fun n => (true, n))
theorem ShapeOf.n {m : Pl} {ds ts : List Nat} (h : ShapeOf m ds ts) : m.n = ds.length + ts.length := by unfold Pl.n; rw [h]; simp
theorem ShapeOf.disk {m : Pl} {ds ts : List Nat} (h : ShapeOf m ds ts) (i : Nat) (hi : i < ds.length) : m.tape i = false ∧ m.size i = ds.getD i 0 := by
  unfold Pl.tape Pl.size
  rw [h]
  simp [List.getElem?_append_left, hi]
/-- sectors laid down one behind the other, and flushed -/
def Pl.lay (m : Pl) (d : Int) (a : Nat) : List (List Nat) → Int × Pl
  | [] => m.flush d
  | s :: r => if (m.write d (a : Int) s).1 = 0 then (m.write d (a : Int) s).2.lay d (a + 1) r else m.write d (a : Int) s
theorem Pl.step_le (m : Pl) : m.step.steps ≤ m.steps + 1 := by
  unfold Pl.step
  split
  · exact Nat.le_succ _
  · exact Nat.le_refl _
theorem layAll_get (fl : List (List Nat)) (l : List Wr) (h : ∀ x ∈ l, x.place < fl.length) (p : Nat) : (layAll false fl l).getD p zeros = (lastAt l p).getD (fl.getD p zeros) := by
  obtain ⟨r, hr⟩ : ∃ r, l = r.reverse := ⟨l.reverse, (List.reverse_reverse l).symm⟩
  subst hr
  induction r with
  | nil => rfl
  | cons x r ih =>
    rw [List.reverse_cons] at h ⊢
    have hx := h x (by simp)
    have hl : (layAll false fl r.reverse).length = fl.length := by rw [layAll_length]; rfl
    rw [layAll_snoc, lastAt_snoc]
    show ((layAll false fl r.reverse).set x.place x.b).getD p zeros = _
    by_cases e : x.place = p
    · rw [if_pos e, ← e]
      simp [List.getD_eq_getElem?_getD, hl, hx]
    · rw [if_neg e, ← ih (fun y hy => h y (List.mem_append_left _ hy))]
      simp [List.getD_eq_getElem?_getD, List.getElem?_set_ne e]
/-- on, a disk; whatever the fuse -/
structure Lv (m : Pl) (i : Nat) : Prop where
  wf : m.WF
  on : m.on = true
  lt : i < m.n
  disk : m.tape i = false
/-- what the other devices have is as it was -/
structure Oth (m m' : Pl) (i : Nat) : Prop where
  sh : m'.sh = m.sh
  steps : m.steps ≤ m'.steps
  same : ∀ j, j ≠ i → m'.fl j = m.fl j ∧ m'.wt j = m.wt j
theorem Oth.refl (m : Pl) (i : Nat) : Oth m m i := ⟨rfl, Nat.le_refl _, fun _ _ => ⟨rfl, rfl⟩⟩
theorem Oth.trans {a b c : Pl} {i : Nat} (h : Oth a b i) (k : Oth b c i) : Oth a c i := ⟨k.sh.trans h.sh, Nat.le_trans h.steps k.steps, fun j hj => ⟨(k.same j hj).1.trans (h.same j hj).1, (k.same j hj).2.trans (h.same j hj).2⟩⟩
theorem Pl.step_ge (m : Pl) : m.steps ≤ m.step.steps := by unfold Pl.step; split <;> simp
theorem Oth.step (m : Pl) (i : Nat) : Oth m m.step i := ⟨m.step_sh, m.step_ge, fun j _ => ⟨by rw [m.step_fl], m.step_wt j⟩⟩
theorem Oth.wait (m : Pl) (i a : Nat) (s : List Nat) : Oth m (m.wait i a s) i := ⟨rfl, Nat.le_refl _, fun j hj => ⟨rfl, by rw [Pl.wt_wait, if_neg (Ne.symm hj)]⟩⟩
theorem Oth.flushed (m : Pl) (i : Nat) : Oth m (m.flushed i) i := ⟨rfl, Nat.le_refl _, fun j hj => ⟨by show upd m.fl i _ j = _; simp [upd, hj], by rw [Pl.wt_flushed, if_neg hj]⟩⟩
theorem Oth.size {m m' : Pl} {i : Nat} (h : Oth m m' i) (j : Nat) : m'.size j = m.size j := by unfold Pl.size; rw [h.sh]
theorem Oth.tape {m m' : Pl} {i : Nat} (h : Oth m m' i) (j : Nat) : m'.tape j = m.tape j := by unfold Pl.tape; rw [h.sh]
theorem Oth.n {m m' : Pl} {i : Nat} (h : Oth m m' i) : m'.n = m.n := by unfold Pl.n; rw [h.sh]
theorem Pl.step_rd (m : Pl) (i p : Nat) : m.step.rd i p = m.rd i p := by unfold Pl.rd; rw [m.step_wt, m.step_fl]
theorem Pl.step_on (m : Pl) (h : m.fuse ≠ 0) : m.step.on = m.on := by unfold Pl.step; rw [if_neg h]
theorem Pl.step_off (m : Pl) (h : m.fuse = 0) : m.step.on = false := by unfold Pl.step; rw [if_pos h]
theorem Pl.step_neg (m : Pl) (h : m.fuse < 0) : m.step.fuse < 0 := by unfold Pl.step; rw [if_neg (by omega)]; show (if 0 < m.fuse then _ else m.fuse) < 0; rw [if_neg (by omega)]; exact h
theorem Lv.step {m : Pl} {i : Nat} (h : Lv m i) (hf : m.fuse ≠ 0) : Lv m.step i := ⟨Pl.step_wf h.wf, by rw [m.step_on hf]; exact h.on, by rw [m.step_n]; exact h.lt, by rw [m.step_tape]; exact h.disk⟩
theorem Lv.write {m : Pl} {i : Nat} (h : Lv m i) (a : Nat) (s : List Nat) (hs : Sec s) (ha : a < m.size i) : m.write (i : Int) (a : Int) s = if m.fuse = 0 then (2, m.step) else (0, m.step.wait i a s) := by
  have hlt := h.lt
  unfold Pl.write
  rw [if_neg (by rw [h.on]; decide), if_neg (by
    rw [Int.toNat_natCast]
    exact fun hn => hn ⟨⟨by omega, by omega⟩, h.disk, by omega, by omega⟩), if_neg (fun hn => hn hs.1), Int.toNat_natCast, Int.toNat_natCast]
theorem Lv.flush {m : Pl} {i : Nat} (h : Lv m i) : m.flush (i : Int) = if m.fuse = 0 then (2, m.step) else (0, m.step.flushed i) := by
  have hlt := h.lt
  unfold Pl.flush
  rw [if_neg (by rw [h.on]; decide), if_neg (fun hn => hn ⟨by omega, by omega⟩), Int.toNat_natCast]
theorem rd_wait (m : Pl) (i a : Nat) (s : List Nat) (p : Nat) : (m.wait i a s).rd i p = if a = p then s else m.rd i p := by
  unfold Pl.rd
  rw [Pl.wt_wait, if_pos rfl, lastAt_snoc]
  show Option.getD (if a = p then some s else _) _ = _
  by_cases e : a = p
  · rw [if_pos e, if_pos e]; rfl
  · rw [if_neg e, if_neg e]; rfl
theorem Lv.rd_flushed {m : Pl} {i : Nat} (h : Lv m i) (p : Nat) : (m.flushed i).rd i p = m.rd i p := by
  unfold Pl.rd
  rw [Pl.wt_flushed, if_pos rfl, lastAt_nil]
  show Option.getD none ((upd m.fl i (layAll (m.tape i) (m.fl i) (m.wt i)) i).getD p zeros) = _
  unfold upd
  rw [if_pos rfl, h.disk]
  refine layAll_get _ _ (fun x hx => ?_) p
  have hx2 := List.mem_filter.1 hx
  have hdv : x.dev = i := by simpa using hx2.2
  have h1 := h.wf.wdev x hx2.1
  rw [h.wf.disk i h.lt h.disk, ← hdv]
  exact h1.2.1
theorem Lv.wait {m : Pl} {i : Nat} (h : Lv m i) (hf : m.fuse ≠ 0) (a : Nat) (s : List Nat) (hs : Sec s) (ha : a < m.size i) : Lv (m.step.wait i a s) i := by
  have e := h.write a s hs ha
  rw [if_neg hf] at e
  have hw := Pl.write_wf h.wf (i : Int) (a : Int) s hs.2
  rw [e] at hw
  have h1 := h.step hf
  exact ⟨hw, h1.on, h1.lt, h1.disk⟩
theorem Lv.flushed {m : Pl} {i : Nat} (h : Lv m i) (hf : m.fuse ≠ 0) : Lv (m.step.flushed i) i := by
  have h1 := h.step hf
  exact ⟨Pl.flushed_wf h1.wf i, h1.on, h1.lt, h1.disk⟩
/-- all is laid down -/
structure LayOk (m m' : Pl) (i a : Nat) (L : List (List Nat)) : Prop where
  lv : Lv m' i
  wt : m'.wt i = []
  oth : Oth m m' i
  rd : ∀ p, m'.rd i p = if a ≤ p ∧ p < a + L.length then L.getD (p - a) [] else m.rd i p
  more : m.steps + L.length + 1 ≤ m'.steps
  le : m'.steps ≤ m.steps + L.length + 1
  fuse : m.fuse < 0 → m'.fuse < 0
/-- the power went off within -/
structure LayNo (m m' : Pl) (i a : Nat) (L : List (List Nat)) : Prop where
  wf : m'.WF
  off : m'.on = false
  oth : Oth m m' i
  fl : m'.fl i = m.fl i
  wt : ∀ x ∈ m'.wt i, x ∈ m.wt i ∨ ∃ j, j < L.length ∧ x.place = a + j ∧ x.b = L.getD j [] ∧ m.steps + 1 ≤ m'.steps
  le : m'.steps ≤ m.steps + L.length + 1
  fuse : 0 ≤ m.fuse
theorem Lv.lay {i : Nat} : ∀ (L : List (List Nat)) (a : Nat) (m : Pl), Lv m i → (∀ s ∈ L, Sec s) → a + L.length ≤ m.size i → ((m.lay (i : Int) a L).1 = 0 ∧ LayOk m (m.lay (i : Int) a L).2 i a L) ∨ ((m.lay (i : Int) a L).1 = 2 ∧ LayNo m (m.lay (i : Int) a L).2 i a L) := by
  intro L
  induction L with
  | nil =>
    intro a m h _ _
    unfold Pl.lay
    rw [h.flush]
    by_cases hf : m.fuse = 0
    · right
      rw [if_pos hf]
      exact ⟨rfl, Pl.step_wf h.wf, m.step_off hf, Oth.step m i, by rw [m.step_fl], fun x hx => by rw [m.step_wt] at hx; exact Or.inl hx, by have := m.step_le; simpa using this, by omega⟩
    · left
      rw [if_neg hf]
      have hst := m.step_steps hf
      refine ⟨rfl, h.flushed hf, ?_, (Oth.step m i).trans (Oth.flushed _ i), fun p => ?_, ?_, ?_, fun hn => m.step_neg hn⟩
      · show (m.step.flushed i).wt i = []
        rw [Pl.wt_flushed, if_pos rfl]
      · rw [if_neg (by simp)]
        show (m.step.flushed i).rd i p = _
        rw [(h.step hf).rd_flushed, m.step_rd]
      · show m.steps + 0 + 1 ≤ m.step.steps
        omega
      · show m.step.steps ≤ m.steps + 0 + 1
        omega
  | cons s L ih =>
    intro a m h hs hl
    rw [List.length_cons] at hl
    unfold Pl.lay
    rw [h.write a s (hs s (by simp)) (by omega)]
    by_cases hf : m.fuse = 0
    · right
      rw [if_pos hf, if_neg (show ¬ (2 : Int) = 0 by decide)]
      exact ⟨rfl, Pl.step_wf h.wf, m.step_off hf, Oth.step m i, by rw [m.step_fl], fun x hx => by rw [m.step_wt] at hx; exact Or.inl hx, by have := m.step_le; rw [List.length_cons]; show m.step.steps ≤ _; omega, by omega⟩
    · rw [if_neg hf, if_pos rfl]
      show ((m.step.wait i a s).lay (i : Int) (a + 1) L).1 = 0 ∧ LayOk m ((m.step.wait i a s).lay (i : Int) (a + 1) L).2 i a (s :: L) ∨ ((m.step.wait i a s).lay (i : Int) (a + 1) L).1 = 2 ∧ LayNo m ((m.step.wait i a s).lay (i : Int) (a + 1) L).2 i a (s :: L)
      have hst := m.step_steps hf
      have ho : Oth m (m.step.wait i a s) i := (Oth.step m i).trans (Oth.wait _ i a s)
      have hsz : (m.step.wait i a s).size i = m.size i := ho.size i
      have hst1 : (m.step.wait i a s).steps = m.steps + 1 := hst
      rcases ih (a + 1) (m.step.wait i a s) (h.wait hf a s (hs s (by simp)) (by omega)) (fun x hx => hs x (by simp [hx])) (by rw [hsz]; omega) with ⟨k1, k⟩ | ⟨k1, k⟩
      · left
        refine ⟨k1, k.lv, k.wt, ho.trans k.oth, fun p => ?_, by have := k.more; rw [List.length_cons]; omega, by have := k.le; rw [List.length_cons]; omega, fun hn => k.fuse (m.step_neg hn)⟩
        rw [k.rd p, rd_wait, m.step_rd, List.length_cons]
        by_cases e : a = p
        · subst e
          rw [if_neg (by omega), if_pos rfl, if_pos (by omega), Nat.sub_self]
          rfl
        · by_cases e2 : a + 1 ≤ p ∧ p < a + 1 + L.length
          · rw [if_pos e2, if_pos (by omega), show p - a = (p - (a + 1)) + 1 by omega]
            rfl
          · rw [if_neg e2, if_neg e, if_neg (by omega)]
      · right
        refine ⟨k1, k.wf, k.off, ho.trans k.oth, k.fl.trans (by show m.step.fl i = _; rw [m.step_fl]), fun x hx => ?_, by have := k.le; rw [List.length_cons]; omega, ?_⟩
        · have hge := k.oth.steps
          rcases k.wt x hx with h1 | ⟨j, h1, h2, h3, h4⟩
          · rw [Pl.wt_wait, if_pos rfl, m.step_wt] at h1
            rcases List.mem_append.1 h1 with h1 | h1
            · exact Or.inl h1
            · refine Or.inr ⟨0, by simp, ?_, ?_, by omega⟩
              · rw [List.mem_singleton.1 h1]; rfl
              · rw [List.mem_singleton.1 h1]; rfl
          · exact Or.inr ⟨j + 1, by rw [List.length_cons]; omega, by omega, by rw [h3]; rfl, by omega⟩
        · have h5 := k.fuse
          rcases Int.lt_or_le m.fuse 0 with hn | hn
          · have := m.step_neg hn
            have : (m.step.wait i a s).fuse < 0 := this
            omega
          · exact hn
/-- of a disk a boot keeps what was there, or a write that waited -/
theorem boot_disk (m : Pl) (keep : List Int) (i : Nat) (ht : m.tape i = false) (p : Nat) : ∀ n, n ≤ m.wts.length → ((bootTo m keep n).1 i).getD p zeros = (m.fl i).getD p zeros ∨ ∃ x ∈ m.wt i, x.place = p ∧ ((bootTo m keep n).1 i).getD p zeros = x.b := by
  intro n
  induction n with
  | zero => intro _; exact Or.inl rfl
  | succ n ih =>
    intro hn
    have hx : m.wts[n]? = some m.wts[n] := List.getElem?_eq_getElem (by omega)
    rw [bootTo_succ m keep n _ hx]
    have hi := ih (by omega)
    unfold bootStep
    split
    · exact hi
    · by_cases hd : (m.wts[n]).dev = i
      · have hmem : m.wts[n] ∈ m.wt i := List.mem_filter.2 ⟨List.getElem_mem _, by simp [hd]⟩
        have hu : ∀ x, upd (bootTo m keep n).1 (m.wts[n]).dev x i = x := fun x => by unfold upd; rw [if_pos hd.symm]
        show (upd (bootTo m keep n).1 _ _ i).getD p zeros = _ ∨ ∃ x ∈ m.wt i, x.place = p ∧ (upd (bootTo m keep n).1 _ _ i).getD p zeros = x.b
        rw [hu, hd, ht]
        unfold settled
        split
        · show (((bootTo m keep n).1 i).set (m.wts[n]).place (m.wts[n]).b).getD p zeros = _ ∨ ∃ x ∈ m.wt i, x.place = p ∧ (((bootTo m keep n).1 i).set (m.wts[n]).place (m.wts[n]).b).getD p zeros = x.b
          by_cases e : (m.wts[n]).place = p
          · by_cases hl : p < ((bootTo m keep n).1 i).length
            · refine Or.inr ⟨_, hmem, e, ?_⟩
              rw [e]
              simp [List.getD_eq_getElem?_getD, hl]
            · rw [List.set_eq_of_length_le (by omega)]
              exact hi
          · rw [show (((bootTo m keep n).1 i).set (m.wts[n]).place (m.wts[n]).b).getD p zeros = ((bootTo m keep n).1 i).getD p zeros by simp [List.getD_eq_getElem?_getD, List.getElem?_set_ne e]]
            exact hi
        · rw [if_neg (fun hn => by cases hn.1)]
          exact hi
      · show (upd _ _ _ i).getD p zeros = _ ∨ ∃ x ∈ m.wt i, x.place = p ∧ (upd _ _ _ i).getD p zeros = x.b
        unfold upd
        rw [if_neg (Ne.symm hd)]
        exact hi
theorem Lv.boot {m : Pl} {i : Nat} (hwf : m.WF) (hlt : i < m.n) (ht : m.tape i = false) (keep : List Int) : Lv (m.boot keep) i := ⟨Pl.boot_wf hwf keep, rfl, hlt, ht⟩
/-- calls and boots: what another device has, of which nothing waits, is as it was -/
structure Rel (m m' : Pl) (i : Nat) : Prop where
  sh : m'.sh = m.sh
  steps : m.steps ≤ m'.steps
  same : ∀ j, j ≠ i → m.wt j = [] → m'.wt j = [] ∧ ∀ p, m'.rd j p = m.rd j p
end Go.Proofs.YtkpnflgnhhfjoaaDoor

namespace Go.Proofs.YtkpnflgnhhfjoaaDoor
open Go.RowKit Go.Maps

theorem lastR_none : ∀ (l : List Wr) (p : Nat), (∀ x ∈ l, x.place ≠ p) → lastR l p = none
  | [], _, _ => rfl
  | x :: r, p, h => by
    unfold lastR
    rw [if_neg (h x (by simp))]
    exact lastR_none r p fun y hy => h y (by simp [hy])
theorem lastAt_none {l : List Wr} {p : Nat} (h : ∀ x ∈ l, x.place ≠ p) : lastAt l p = none := by
  unfold lastAt lastIdx
  rw [lastR_none _ p fun x hx => h x (List.mem_reverse.1 hx)]
  rfl
/-- nothing waits for this place, and it has b -/
def Firm (m : Pl) (i p : Nat) (b : List Nat) : Prop := (∀ x ∈ m.wt i, x.place ≠ p) ∧ (m.fl i).getD p zeros = b
theorem Firm.rd {m : Pl} {i p : Nat} {b : List Nat} (h : Firm m i p b) : m.rd i p = b := by
  unfold Pl.rd
  rw [lastAt_none h.1]
  exact h.2
theorem Firm.of_rd {m : Pl} {i p : Nat} (hw : m.wt i = []) : Firm m i p (m.rd i p) := by
  refine ⟨fun x hx => (by rw [hw] at hx; cases hx), ?_⟩
  unfold Pl.rd
  rw [hw]
  rfl
theorem Firm.boot {m : Pl} {i p : Nat} {b : List Nat} (h : Firm m i p b) (ht : m.tape i = false) (ks : List Int) : Firm (m.boot ks) i p b := by
  refine ⟨fun x hx => (by cases hx), ?_⟩
  rcases boot_disk m ks i ht p m.wts.length (Nat.le_refl _) with h1 | ⟨x, hx, hp, _⟩
  · exact h1.trans h.2
  · exact absurd hp (h.1 x hx)
/-- the writes that wait, and what is flushed, but for some places -/
theorem Firm.same {m m' : Pl} {i p : Nat} {b : List Nat} (h : Firm m i p b) (hf : m'.fl i = m.fl i) (hw : ∀ x ∈ m'.wt i, x ∈ m.wt i ∨ x.place ≠ p) : Firm m' i p b :=
  ⟨fun x hx => (hw x hx).elim (h.1 x) id, by rw [hf]; exact h.2⟩

/-- how many pages a disk has -/
def pagesN (size : Nat) : Nat := min ((size - 2) / 8) 384
/-- a commit that may be one of a disk of n pages -/
def Holds (h : Hd) (n : Nat) : Prop := (∀ p, n ≤ p → p < 384 → bitP h.used p = false) ∧ (h.root = -1 ∨ hasP h.used h.root = true)
open Classical in
/-- the head that a sector has -/
noncomputable def headAt (X : Nat → List Nat) (n k : Nat) : Option Hd := if hdOk (X k) = true ∧ (hdOf (X k)).num % 2 = k ∧ Holds (hdOf (X k)) n then some (hdOf (X k)) else none
/-- the later one of two -/
def later (a b : Hd) : Option Hd := if a.num = (b.num + 1) % 18446744073709551616 then some a else if b.num = (a.num + 1) % 18446744073709551616 then some b else none
noncomputable def lastOf (X : Nat → List Nat) (n : Nat) : Option Hd := match headAt X n 0, headAt X n 1 with
  | some a, some b => later a b
  | _, _ => none
theorem headAt_sec {X : Nat → List Nat} {n k : Nat} {L : Hd} (hw : L.WF) (hh : Holds L n) (hk : L.num % 2 = k) (hX : X k = hdSec L) : headAt X n k = some L := by
  unfold headAt
  rw [hX, hdOf_sec hw, if_pos ⟨hdOk_sec hw, hk, hh⟩]
theorem headAt_some {X : Nat → List Nat} {n k : Nat} {L : Hd} (hs : Sec (X k)) (h : headAt X n k = some L) : L.WF ∧ Holds L n ∧ L.num % 2 = k ∧ X k = hdSec L := by
  unfold headAt at h
  split at h
  · rename_i hh
    injection h with h
    subst h
    exact ⟨hdOf_wf hs.1 hs.2, hh.2.2, hh.2.1, (of_decide_eq_true hh.1).symm⟩
  · cases h
theorem lastOf_eq {X : Nat → List Nat} {n : Nat} {L L' : Hd} (h1 : L.WF) (h2 : L'.WF) (h3 : Holds L n) (h4 : Holds L' n) (h5 : L.num = (L'.num + 1) % 18446744073709551616) (h6 : X (L.num % 2) = hdSec L) (h7 : X ((L.num + 1) % 2) = hdSec L') : lastOf X n = some L := by
  have hp : L'.num % 2 = (L.num + 1) % 2 := by omega
  rcases Nat.mod_two_eq_zero_or_one L.num with e | e
  · have e' : (L.num + 1) % 2 = 1 := by omega
    rw [e] at h6
    rw [e'] at h7
    unfold lastOf
    rw [headAt_sec h1 h3 e h6, headAt_sec h2 h4 (by omega) h7]
    show later L L' = some L
    unfold later
    rw [if_pos h5]
  · have e' : (L.num + 1) % 2 = 0 := by omega
    rw [e] at h6
    rw [e'] at h7
    unfold lastOf
    rw [headAt_sec h2 h4 (by omega) h7, headAt_sec h1 h3 e h6]
    have := h1.num
    have := h2.num
    show later L' L = some L
    unfold later
    rw [if_neg (by omega), if_pos h5]
/-- the heads of a disk, the later one L -/
structure PgH (m : Pl) (i n : Nat) (L : Hd) : Prop where
  lwf : L.WF
  holds : Holds L n
  head : Firm m i (L.num % 2) (hdSec L)
  prev : ∃ L' : Hd, L'.WF ∧ Holds L' n ∧ L.num = (L'.num + 1) % 18446744073709551616 ∧ Firm m i ((L.num + 1) % 2) (hdSec L')
theorem PgH.last {m : Pl} {i n : Nat} {L : Hd} (h : PgH m i n L) : lastOf (m.rd i) n = some L := by
  obtain ⟨L', h1, h2, h3, h4⟩ := h.prev
  exact lastOf_eq h.lwf h1 h.holds h2 h3 h.head.rd h4.rd
theorem PgH.boot {m : Pl} {i n : Nat} {L : Hd} (h : PgH m i n L) (ht : m.tape i = false) (ks : List Int) : PgH (m.boot ks) i n L := by
  obtain ⟨L', h1, h2, h3, h4⟩ := h.prev
  exact ⟨h.lwf, h.holds, h.head.boot ht ks, L', h1, h2, h3, h4.boot ht ks⟩
theorem PgH.same {m m' : Pl} {i n : Nat} {L : Hd} (h : PgH m i n L) (hf : m'.fl i = m.fl i) (hw : ∀ x ∈ m'.wt i, x ∈ m.wt i ∨ 2 ≤ x.place) : PgH m' i n L := by
  obtain ⟨L', h1, h2, h3, h4⟩ := h.prev
  have hs : ∀ p, p < 2 → ∀ x ∈ m'.wt i, x ∈ m.wt i ∨ x.place ≠ p := fun p hp x hx => (hw x hx).imp id (by omega)
  exact ⟨h.lwf, h.holds, h.head.same hf (hs _ (by omega)), L', h1, h2, h3, h4.same hf (hs _ (by omega))⟩

/-- images of pages -/
def Imgs (X : Nat → List Nat) : Prop := ∀ p, (X p).length = 512 ∧ ∀ c ∈ X p, c < 256
/-- where a page's sector is -/
def placeP (p j : Nat) : Nat := 2 + 8 * p + j
/-- a disk with a pager: the last commit L, whose pages are firm; whatever the power -/
structure PgC (m : Pl) (i n : Nat) (L : Hd) (X : Nat → List Nat) : Prop where
  wf : m.WF
  lt : i < m.n
  disk : m.tape i = false
  pages : n = pagesN (m.size i)
  pos : 1 ≤ n
  h : PgH m i n L
  firm : ∀ p, p < n → bitP L.used p = true → ∀ j, j < 8 → Firm m i (placeP p j) (secAt (X p) j)
  img : Imgs X
/-- .. with the power on, and the pages U in use -/
structure PgO (m : Pl) (i n : Nat) (L : Hd) (U : List Nat) (X : Nat → List Nat) : Prop where
  c : PgC m i n L X
  on : m.on = true
  us : USet U
  out : ∀ p, n ≤ p → p < 384 → bitP U p = false
  vis : ∀ p, p < n → bitP U p = true → ∀ j, j < 8 → m.rd i (placeP p j) = secAt (X p) j
theorem PgC.n384 {m : Pl} {i n : Nat} {L : Hd} {X : Nat → List Nat} (h : PgC m i n L X) : n ≤ 384 ∧ 2 + 8 * n ≤ m.size i := by
  have h1 := h.pages
  have h2 := h.pos
  unfold pagesN at h1
  omega
theorem PgO.lv {m : Pl} {i n : Nat} {L : Hd} {U : List Nat} {X : Nat → List Nat} (h : PgO m i n L U X) : Lv m i := ⟨h.c.wf, h.on, h.c.lt, h.c.disk⟩
/-- opened anew -/
theorem PgC.opened {m : Pl} {i n : Nat} {L : Hd} {X : Nat → List Nat} (h : PgC m i n L X) (hon : m.on = true) : PgO m i n L L.used X :=
  ⟨h, hon, h.h.lwf.used, h.h.holds.1, fun p hp hb j hj => (h.firm p hp hb j hj).rd⟩
/-- behind a crash -/
theorem PgC.boot {m : Pl} {i n : Nat} {L : Hd} {X : Nat → List Nat} (h : PgC m i n L X) (ks : List Int) : PgO (m.boot ks) i n L L.used X :=
  PgC.opened ⟨Pl.boot_wf h.wf ks, h.lt, h.disk, h.pages, h.pos, h.h.boot h.disk ks, fun p hp hb j hj => (h.firm p hp hb j hj).boot h.disk ks, h.img⟩ rfl
theorem PgO.read {m : Pl} {i n : Nat} {L : Hd} {U : List Nat} {X : Nat → List Nat} (h : PgO m i n L U X) {p : Nat} (hp : p < n) (hb : bitP U p = true) : join8 (fun j => m.rd i (placeP p j)) 8 = X p := by
  rw [join8_congr (g := secAt (X p)) 8 fun j hj => h.vis p hp hb j hj, join8_secAt, List.take_of_length_le (by rw [(h.c.img p).1]; omega)]
theorem PgO.free {m : Pl} {i n : Nat} {L : Hd} {U : List Nat} {X : Nat → List Nat} (h : PgO m i n L U X) {p : Nat} (hp : p < 384) : PgO m i n L (lessP U p) X := by
  refine ⟨h.c, h.on, uset_less h.us p, fun q h1 h2 => ?_, fun q h1 h2 j hj => ?_⟩
  · rw [bitP_less h.us hp, h.out q h1 h2, Bool.and_false]
  · rw [bitP_less h.us hp, Bool.and_eq_true] at h2
    exact h.vis q h1 h2.2 j hj

/-- sectors written, not flushed -/
def Pl.wrs (m : Pl) (d : Int) (a : Nat) : List (List Nat) → Int × Pl
  | [] => (0, m)
  | s :: L => if (m.write d (a : Int) s).1 = 0 then (m.write d (a : Int) s).2.wrs d (a + 1) L else m.write d (a : Int) s
structure Wrs (m m' : Pl) (i a : Nat) (L : List (List Nat)) : Prop where
  wf : m'.WF
  oth : Oth m m' i
  fl : m'.fl i = m.fl i
  wt : ∀ x ∈ m'.wt i, x ∈ m.wt i ∨ ∃ j, j < L.length ∧ x.place = a + j
  le : m'.steps ≤ m.steps + L.length
theorem Lv.wrs {i : Nat} : ∀ (L : List (List Nat)) (a : Nat) (m : Pl), Lv m i → (∀ s ∈ L, Sec s) → a + L.length ≤ m.size i → Wrs m (m.wrs (i : Int) a L).2 i a L ∧ (((m.wrs (i : Int) a L).1 = 0 ∧ Lv (m.wrs (i : Int) a L).2 i ∧ (m.fuse < 0 → (m.wrs (i : Int) a L).2.fuse < 0) ∧ ∀ p, (m.wrs (i : Int) a L).2.rd i p = if a ≤ p ∧ p < a + L.length then L.getD (p - a) [] else m.rd i p) ∨ (0 ≤ m.fuse ∧ (m.wrs (i : Int) a L).1 = 2 ∧ (m.wrs (i : Int) a L).2.on = false)) := by
  intro L
  induction L with
  | nil =>
    intro a m h _ _
    refine ⟨⟨h.wf, Oth.refl m i, rfl, fun x hx => Or.inl hx, Nat.le_refl _⟩, Or.inl ⟨rfl, h, id, fun p => ?_⟩⟩
    rw [if_neg (by simp)]
    rfl
  | cons s L ih =>
    intro a m h hs hl
    rw [List.length_cons] at hl
    unfold Pl.wrs
    rw [h.write a s (hs s (by simp)) (by omega)]
    by_cases hf : m.fuse = 0
    · rw [if_pos hf, if_neg (show ¬ (2 : Int) = 0 by decide)]
      exact ⟨⟨Pl.step_wf h.wf, Oth.step m i, by rw [m.step_fl], fun x hx => by rw [m.step_wt] at hx; exact Or.inl hx, by have := m.step_le; rw [List.length_cons]; show m.step.steps ≤ _; omega⟩, Or.inr ⟨by omega, rfl, m.step_off hf⟩⟩
    · rw [if_neg hf, if_pos rfl]
      have hst := m.step_steps hf
      have ho : Oth m (m.step.wait i a s) i := (Oth.step m i).trans (Oth.wait _ i a s)
      have hsz : (m.step.wait i a s).size i = m.size i := ho.size i
      have hst1 : (m.step.wait i a s).steps = m.steps + 1 := hst
      obtain ⟨k1, k2⟩ := ih (a + 1) (m.step.wait i a s) (h.wait hf a s (hs s (by simp)) (by omega)) (fun x hx => hs x (by simp [hx])) (by rw [hsz]; omega)
      refine ⟨⟨k1.wf, ho.trans k1.oth, k1.fl.trans (by show m.step.fl i = _; rw [m.step_fl]), fun x hx => ?_, by have := k1.le; rw [List.length_cons]; show ((m.step.wait i a s).wrs (i : Int) (a + 1) L).2.steps ≤ _; omega⟩, ?_⟩
      · rcases k1.wt x hx with h1 | ⟨j, h1, h2⟩
        · rw [Pl.wt_wait, if_pos rfl, m.step_wt] at h1
          rcases List.mem_append.1 h1 with h1 | h1
          · exact Or.inl h1
          · refine Or.inr ⟨0, by simp, ?_⟩
            rw [List.mem_singleton.1 h1]; rfl
        · exact Or.inr ⟨j + 1, by rw [List.length_cons]; omega, by omega⟩
      · rcases k2 with ⟨k3, k4, k5, k6⟩ | ⟨k3, k4, k5⟩
        · refine Or.inl ⟨k3, k4, fun hn => k5 (m.step_neg hn), fun p => ?_⟩
          show ((m.step.wait i a s).wrs (i : Int) (a + 1) L).2.rd i p = _
          rw [k6 p, rd_wait, m.step_rd, List.length_cons]
          by_cases e : a = p
          · subst e
            rw [if_neg (by omega), if_pos rfl, if_pos (by omega), Nat.sub_self]
            rfl
          · by_cases e2 : a + 1 ≤ p ∧ p < a + 1 + L.length
            · rw [if_pos e2, if_pos (by omega), show p - a = (p - (a + 1)) + 1 by omega]
              rfl
            · rw [if_neg e2, if_neg e, if_neg (by omega)]
        · refine Or.inr ⟨?_, k4, k5⟩
          rcases Int.lt_or_le m.fuse 0 with hn | hn
          · have h1 := m.step_neg hn
            have h2 : (m.step.wait i a s).fuse < 0 := h1
            omega
          · exact hn

/-- the sectors of an image -/
def secs8 (x : List Nat) : List (List Nat) := [secAt x 0, secAt x 1, secAt x 2, secAt x 3, secAt x 4, secAt x 5, secAt x 6, secAt x 7]
theorem secs8_at (x : List Nat) (j : Nat) (h : j < 8) : (secs8 x).getD j [] = secAt x j := by
  match j, h with
  | 0, _ => rfl
  | 1, _ => rfl
  | 2, _ => rfl
  | 3, _ => rfl
  | 4, _ => rfl
  | 5, _ => rfl
  | 6, _ => rfl
  | 7, _ => rfl
theorem secs8_sec {x : List Nat} (h : x.length = 512) (hb : ∀ c ∈ x, c < 256) : ∀ s ∈ secs8 x, Sec s := by
  intro s hs
  simp only [secs8, List.mem_cons, List.not_mem_nil, or_false] at hs
  rcases hs with rfl | rfl | rfl | rfl | rfl | rfl | rfl | rfl <;> exact ⟨secAt_length h (by decide), secAt_lt hb _⟩
def updP (X : Nat → List Nat) (p : Nat) (x : List Nat) : Nat → List Nat := fun q => if q = p then x else X q
theorem Imgs.upd {X : Nat → List Nat} (h : Imgs X) (p : Nat) {x : List Nat} (h1 : x.length = 512) (h2 : ∀ c ∈ x, c < 256) : Imgs (updP X p x) := by
  intro q
  unfold updP
  split
  · exact ⟨h1, h2⟩
  · exact h q
/-- a page that is free is put -/
theorem PgO.put {m : Pl} {i n : Nat} {L : Hd} {U : List Nat} {X : Nat → List Nat} (h : PgO m i n L U X) {p : Nat} (hp : p < n) (h1 : bitP U p = false) (h2 : bitP L.used p = false) {x : List Nat} (hx : x.length = 512) (hb : ∀ c ∈ x, c < 256) :
    Oth m (m.wrs (i : Int) (2 + 8 * p) (secs8 x)).2 i ∧ (m.wrs (i : Int) (2 + 8 * p) (secs8 x)).2.steps ≤ m.steps + 8 ∧ (m.wrs (i : Int) (2 + 8 * p) (secs8 x)).2.WF ∧
    (((m.wrs (i : Int) (2 + 8 * p) (secs8 x)).1 = 0 ∧ PgO (m.wrs (i : Int) (2 + 8 * p) (secs8 x)).2 i n L (withP U p) (updP X p x) ∧ (m.fuse < 0 → (m.wrs (i : Int) (2 + 8 * p) (secs8 x)).2.fuse < 0)) ∨
     (0 ≤ m.fuse ∧ (m.wrs (i : Int) (2 + 8 * p) (secs8 x)).1 = 2 ∧ (m.wrs (i : Int) (2 + 8 * p) (secs8 x)).2.on = false ∧ PgC (m.wrs (i : Int) (2 + 8 * p) (secs8 x)).2 i n L X)) := by
  have hn := h.c.n384
  have hl8 : (secs8 x).length = 8 := rfl
  obtain ⟨k1, k2⟩ := Lv.wrs (secs8 x) (2 + 8 * p) m h.lv (secs8_sec hx hb) (by rw [hl8]; omega)
  have hc : ∀ X', (∀ q, q < n → bitP L.used q = true → X' q = X q) → Imgs X' → PgC (m.wrs (i : Int) (2 + 8 * p) (secs8 x)).2 i n L X' := fun X' hX' hI => by
    refine ⟨k1.wf, by rw [k1.oth.n]; exact h.c.lt, by rw [k1.oth.tape]; exact h.c.disk, by rw [k1.oth.size]; exact h.c.pages, h.c.pos, h.c.h.same k1.fl fun y hy => ?_, fun q hq hqb j hj => ?_, hI⟩
    · rcases k1.wt y hy with e | ⟨j, _, e⟩
      · exact Or.inl e
      · exact Or.inr (by omega)
    · rw [hX' q hq hqb]
      refine (h.c.firm q hq hqb j hj).same k1.fl fun y hy => ?_
      rcases k1.wt y hy with e | ⟨j', hj', e⟩
      · exact Or.inl e
      · have hqp : q ≠ p := fun e => by rw [e, h2] at hqb; cases hqb
        rw [hl8] at hj'
        refine Or.inr ?_
        unfold placeP
        omega
  refine ⟨k1.oth, k1.le, k1.wf, ?_⟩
  rcases k2 with ⟨k3, k4, k5, k6⟩ | ⟨k3, k4, k5⟩
  · refine Or.inl ⟨k3, ⟨hc _ (fun q hq hqb => ?_) (h.c.img.upd p hx hb), k4.on, uset_with h.us p, fun q hq1 hq2 => ?_, fun q hq hqb j hj => ?_⟩, k5⟩
    · unfold updP
      rw [if_neg (fun e => by rw [e, h2] at hqb; cases hqb)]
    · rw [bitP_with h.us (by omega), h.out q hq1 hq2, decide_eq_false (by omega)]
      rfl
    · rw [k6, hl8]
      unfold updP
      by_cases e : q = p
      · subst e
        rw [if_pos rfl, if_pos (by unfold placeP; omega), show placeP q j - (2 + 8 * q) = j by unfold placeP; omega, secs8_at x j hj]
      · rw [if_neg e, if_neg (by unfold placeP; omega)]
        rw [bitP_with h.us (by omega), decide_eq_false e, Bool.false_or] at hqb
        exact h.vis q hq hqb j hj
  · exact Or.inr ⟨k3, k4, k5, hc X (fun _ _ _ => rfl) h.c.img⟩
end Go.Proofs.YtkpnflgnhhfjoaaDoor

namespace Go.Proofs.YtkpnflgnhhfjoaaDoor
open Go.RowKit Go.Maps

theorem hdSec_sec {h : Hd} (hw : h.WF) : Sec (hdSec h) := ⟨hdSec_length hw, hdSec_lt hw⟩
def nextNum (n : Nat) : Nat := (n + 1) % 18446744073709551616
theorem nextNum_lt (n : Nat) : nextNum n < 18446744073709551616 := Nat.mod_lt _ (by decide)
theorem nextNum_two (n : Nat) : nextNum n % 2 = (n + 1) % 2 := by unfold nextNum; omega
/-- where nothing waits, what is read is firm -/
theorem PgC.all {m : Pl} {i n : Nat} {L L' : Hd} {X : Nat → List Nat} (hlv : Lv m i) (hw : m.wt i = []) (hpg : n = pagesN (m.size i)) (hpos : 1 ≤ n) (h1 : L.WF) (h2 : Holds L n) (h3 : L'.WF) (h4 : Holds L' n) (h5 : L.num = (L'.num + 1) % 18446744073709551616) (h6 : m.rd i (L.num % 2) = hdSec L) (h7 : m.rd i ((L.num + 1) % 2) = hdSec L') (h8 : ∀ p, p < n → bitP L.used p = true → ∀ j, j < 8 → m.rd i (placeP p j) = secAt (X p) j) (h9 : Imgs X) : PgC m i n L X :=
  ⟨hlv.wf, hlv.lt, hlv.disk, hpg, hpos, ⟨h1, h2, h6 ▸ Firm.of_rd hw, L', h3, h4, h5, h7 ▸ Firm.of_rd hw⟩, fun p hp hb j hj => h8 p hp hb j hj ▸ Firm.of_rd hw, h9⟩
/-- a head is laid down over the older one: pages that it names are seen, and firm already, or nothing waits -/
theorem PgO.layHead {m : Pl} {i n : Nat} {L : Hd} {U : List Nat} {X : Nat → List Nat} (h : PgO m i n L U X) {L2 : Hd} (hw : L2.WF) (hh : Holds L2 n) (hn : L2.num = nextNum L.num) (hv : ∀ p, p < n → bitP L2.used p = true → ∀ j, j < 8 → Firm m i (placeP p j) (secAt (X p) j)) :
    Oth m (m.lay (i : Int) (L2.num % 2) [hdSec L2]).2 i ∧ (m.lay (i : Int) (L2.num % 2) [hdSec L2]).2.steps ≤ m.steps + 2 ∧ (m.lay (i : Int) (L2.num % 2) [hdSec L2]).2.WF ∧
    (((m.lay (i : Int) (L2.num % 2) [hdSec L2]).1 = 0 ∧ PgO (m.lay (i : Int) (L2.num % 2) [hdSec L2]).2 i n L2 L2.used X ∧ (m.lay (i : Int) (L2.num % 2) [hdSec L2]).2.wt i = [] ∧ (m.fuse < 0 → (m.lay (i : Int) (L2.num % 2) [hdSec L2]).2.fuse < 0)) ∨
     (0 ≤ m.fuse ∧ (m.lay (i : Int) (L2.num % 2) [hdSec L2]).1 = 2 ∧ (m.lay (i : Int) (L2.num % 2) [hdSec L2]).2.on = false ∧ ∀ ks, PgO ((m.lay (i : Int) (L2.num % 2) [hdSec L2]).2.boot ks) i n L L.used X ∨ PgO ((m.lay (i : Int) (L2.num % 2) [hdSec L2]).2.boot ks) i n L2 L2.used X)) := by
  have h384 := h.c.n384
  have hsl : L2.num % 2 = (L.num + 1) % 2 := by rw [hn]; exact nextNum_two _
  have hs2 : (L2.num + 1) % 2 = L.num % 2 := by omega
  rcases Lv.lay [hdSec L2] (L2.num % 2) m h.lv (fun s hs => by rw [List.mem_singleton.1 hs]; exact hdSec_sec hw) (by simp; omega) with ⟨k1, k⟩ | ⟨k1, k⟩
  · refine ⟨k.oth, k.le, k.lv.wf, Or.inl ⟨k1, PgC.opened ?_ k.lv.on, k.wt, k.fuse⟩⟩
    refine PgC.all (L' := L) k.lv k.wt (by rw [k.oth.size]; exact h.c.pages) h.c.pos hw hh h.c.h.lwf h.c.h.holds hn ?_ ?_ (fun p hp hb j hj => ?_) h.c.img
    · rw [k.rd, List.length_singleton, if_pos (by omega), Nat.sub_self]
      rfl
    · rw [k.rd, List.length_singleton, hs2, if_neg (by omega)]
      exact h.c.h.head.rd
    · rw [k.rd, List.length_singleton, if_neg (by unfold placeP; omega)]
      exact (hv p hp hb j hj).rd
  · refine ⟨k.oth, k.le, k.wf, Or.inr ⟨k.fuse, k1, k.off, fun ks => ?_⟩⟩
    obtain ⟨M, hM⟩ : ∃ M, M = (m.lay (i : Int) (L2.num % 2) [hdSec L2]).2 := ⟨_, rfl⟩
    rw [← hM] at k ⊢
    have ht : M.tape i = false := by rw [k.oth.tape]; exact h.c.disk
    have hlv : Lv (M.boot ks) i := Lv.boot k.wf (by rw [k.oth.n]; exact h.c.lt) ht ks
    have hpl : ∀ x ∈ M.wt i, x ∈ m.wt i ∨ (x.place = L2.num % 2 ∧ x.b = hdSec L2) := fun x hx => by
      rcases k.wt x hx with e | ⟨j, e1, e2, e3, _⟩
      · exact Or.inl e
      · have hj : j = 0 := by simp at e1; exact e1
        subst hj
        exact Or.inr ⟨e2, e3⟩
    have hfi : ∀ p b, p ≠ L2.num % 2 → Firm m i p b → Firm (M.boot ks) i p b := fun p b hp hf => (hf.same k.fl fun x hx => (hpl x hx).imp id fun e e2 => hp (e2.symm.trans e.1)).boot ht ks
    have hpg : n = pagesN ((M.boot ks).size i) := by
      show n = pagesN (M.size i)
      rw [k.oth.size]; exact h.c.pages
    have hhd : Firm (M.boot ks) i (L.num % 2) (hdSec L) := hfi _ _ (by omega) h.c.h.head
    obtain ⟨L', p1, p2, p3, p4⟩ := h.c.h.prev
    rcases boot_disk M ks i ht (L2.num % 2) M.wts.length (Nat.le_refl _) with e | ⟨x, hx, hxp, e⟩
    · left
      refine PgC.opened ⟨hlv.wf, hlv.lt, hlv.disk, hpg, h.c.pos, ⟨h.c.h.lwf, h.c.h.holds, hhd, L', p1, p2, p3, fun x hx => (by cases hx), ?_⟩, fun p hp hb j hj => hfi _ _ (by unfold placeP; omega) (h.c.firm p hp hb j hj), h.c.img⟩ rfl
      rw [← hsl]
      refine Eq.trans e ?_
      rw [k.fl, hsl]
      exact p4.2
    · rcases hpl x hx with e1 | e1
      · exact absurd (hxp.trans hsl) (p4.1 x e1)
      · right
        refine PgC.opened ⟨hlv.wf, hlv.lt, hlv.disk, hpg, h.c.pos, ⟨hw, hh, ⟨fun x hx => (by cases hx), e.trans e1.2⟩, L, h.c.h.lwf, h.c.h.holds, hn, by rw [hs2]; exact hhd⟩, fun p hp hb j hj => hfi _ _ (by unfold placeP; omega) (hv p hp hb j hj), h.c.img⟩ rfl
/-- a commit: a flush, and the head -/
def Pl.commit (m : Pl) (i : Nat) (L2 : Hd) : Int × Pl := if (m.flush (i : Int)).1 = 0 then (m.flush (i : Int)).2.lay (i : Int) (L2.num % 2) [hdSec L2] else m.flush (i : Int)
theorem PgO.commit {m : Pl} {i n : Nat} {L : Hd} {U : List Nat} {X : Nat → List Nat} (h : PgO m i n L U X) {L2 : Hd} (hw : L2.WF) (hh : Holds L2 n) (hn : L2.num = nextNum L.num) (hu : L2.used = U) :
    Oth m (m.commit i L2).2 i ∧ (m.commit i L2).2.steps ≤ m.steps + 3 ∧ (m.commit i L2).2.WF ∧
    (((m.commit i L2).1 = 0 ∧ PgO (m.commit i L2).2 i n L2 U X ∧ (m.commit i L2).2.wt i = [] ∧ (m.fuse < 0 → (m.commit i L2).2.fuse < 0)) ∨
     (0 ≤ m.fuse ∧ (m.commit i L2).1 = 2 ∧ (m.commit i L2).2.on = false ∧ ∀ ks, PgO ((m.commit i L2).2.boot ks) i n L L.used X ∨ PgO ((m.commit i L2).2.boot ks) i n L2 U X)) := by
  unfold Pl.commit
  rw [h.lv.flush]
  by_cases hf : m.fuse = 0
  · rw [if_pos hf, if_neg (show ¬ (2 : Int) = 0 by decide)]
    refine ⟨Oth.step m i, by have := m.step_le; show m.step.steps ≤ _; omega, Pl.step_wf h.c.wf, Or.inr ⟨by omega, rfl, m.step_off hf, fun ks => Or.inl (PgC.boot ?_ ks)⟩⟩
    have ho := Oth.step m i
    exact ⟨Pl.step_wf h.c.wf, by rw [ho.n]; exact h.c.lt, by rw [ho.tape]; exact h.c.disk, by show n = pagesN (m.step.size i); rw [ho.size]; exact h.c.pages, h.c.pos, h.c.h.same (by rw [m.step_fl]) fun x hx => (by rw [m.step_wt] at hx; exact Or.inl hx), fun p hp hb j hj => (h.c.firm p hp hb j hj).same (by rw [m.step_fl]) fun x hx => (by rw [m.step_wt] at hx; exact Or.inl hx), h.c.img⟩
  · rw [if_neg hf, if_pos rfl]
    obtain ⟨M, hM⟩ : ∃ M, M = m.step.flushed i := ⟨_, rfl⟩
    show Oth m (((m.step.flushed i)).lay (i : Int) (L2.num % 2) [hdSec L2]).2 i ∧ _
    rw [← hM]
    have ho : Oth m M i := by rw [hM]; exact (Oth.step m i).trans (Oth.flushed _ i)
    have hlv : Lv M i := by rw [hM]; exact h.lv.flushed hf
    have hwt : M.wt i = [] := by rw [hM, Pl.wt_flushed, if_pos rfl]
    have hrd : ∀ p, M.rd i p = m.rd i p := fun p => by rw [hM, (h.lv.step hf).rd_flushed, m.step_rd]
    have hst : M.steps = m.steps + 1 := by rw [hM]; exact m.step_steps hf
    have hfu : m.fuse < 0 → M.fuse < 0 := fun hn => by rw [hM]; exact m.step_neg hn
    obtain ⟨L', p1, p2, p3, p4⟩ := h.c.h.prev
    have hO : PgO M i n L U X := ⟨PgC.all (L' := L') hlv hwt (by rw [ho.size]; exact h.c.pages) h.c.pos h.c.h.lwf h.c.h.holds p1 p2 p3 (by rw [hrd]; exact h.c.h.head.rd) (by rw [hrd]; exact p4.rd) (fun p hp hb j hj => by rw [hrd]; exact (h.c.firm p hp hb j hj).rd) h.c.img, hlv.on, h.us, h.out, fun p hp hb j hj => by rw [hrd]; exact h.vis p hp hb j hj⟩
    obtain ⟨q1, q2, q3, q4⟩ := hO.layHead hw hh hn fun p hp hb j hj => by
      rw [hu] at hb
      exact hO.vis p hp hb j hj ▸ Firm.of_rd hwt
    refine ⟨ho.trans q1, by show (M.lay (i : Int) (L2.num % 2) [hdSec L2]).2.steps ≤ _; omega, q3, ?_⟩
    rw [hu] at q4
    rcases q4 with ⟨r1, r2, r3, r4⟩ | ⟨r1, r2, r3, r4⟩
    · exact Or.inl ⟨r1, r2, r3, fun hn => r4 (hfu hn)⟩
    · refine Or.inr ⟨?_, r2, r3, r4⟩
      rcases Int.lt_or_le m.fuse 0 with hn | hn
      · have := hfu hn; omega
      · exact hn
/-- a disk where there was none -/
def noHd (k : Nat) : Hd := ⟨k, -1, noneP⟩
theorem noHd_wf (k : Nat) (h : k < 18446744073709551616) : (noHd k).WF := ⟨h, Int.le_refl _, by show (-1 : Int) ≤ 65534; decide, uset_none⟩
theorem noHd_holds (k n : Nat) : Holds (noHd k) n := ⟨fun p _ _ => bitP_none p, Or.inl rfl⟩
def Pl.layFirst (m : Pl) (i : Nat) : Int × Pl := if (m.lay (i : Int) 0 [zeros, zeros]).1 = 0 then (m.lay (i : Int) 0 [zeros, zeros]).2.lay (i : Int) 0 [hdSec (noHd 0), hdSec (noHd 1)] else m.lay (i : Int) 0 [zeros, zeros]
theorem zeros_sec : Sec zeros := sec_zero
theorem Lv.layFirst {m : Pl} {i n : Nat} (h : Lv m i) (hpg : n = pagesN (m.size i)) (hpos : 1 ≤ n) (hf : m.fuse < 0) {X : Nat → List Nat} (hX : Imgs X) : (m.layFirst i).1 = 0 ∧ PgO (m.layFirst i).2 i n (noHd 1) noneP X ∧ (m.layFirst i).2.wt i = [] ∧ (m.layFirst i).2.fuse < 0 ∧ Oth m (m.layFirst i).2 i ∧ (m.layFirst i).2.steps ≤ m.steps + 6 := by
  have hsz : 10 ≤ m.size i := by unfold pagesN at hpg; omega
  unfold Pl.layFirst
  rcases Lv.lay [zeros, zeros] 0 m h (fun s hs => by simp at hs; rw [hs]; exact zeros_sec) (by simp; omega) with ⟨k1, k⟩ | ⟨k1, k⟩
  · rw [if_pos k1]
    obtain ⟨M, hM⟩ : ∃ M, M = (m.lay (i : Int) 0 [zeros, zeros]).2 := ⟨_, rfl⟩
    rw [← hM] at k ⊢
    have w0 := noHd_wf 0 (by decide)
    have w1 := noHd_wf 1 (by decide)
    rcases Lv.lay [hdSec (noHd 0), hdSec (noHd 1)] 0 M k.lv (fun s hs => by simp at hs; rcases hs with rfl | rfl; exact hdSec_sec w0; exact hdSec_sec w1) (by rw [k.oth.size]; simp; omega) with ⟨j1, j⟩ | ⟨j1, j⟩
    · refine ⟨j1, PgC.opened (L := noHd 1) ?_ j.lv.on, j.wt, j.fuse (k.fuse hf), k.oth.trans j.oth, by have := k.le; have := j.le; simp at *; omega⟩
      refine PgC.all (L' := noHd 0) j.lv j.wt (by rw [j.oth.size, k.oth.size]; exact hpg) hpos w1 (noHd_holds 1 n) w0 (noHd_holds 0 n) rfl ?_ ?_ (fun p _ hb => ?_) hX
      · rw [j.rd]
        rfl
      · rw [j.rd]
        rfl
      · rw [show (noHd 1).used = noneP from rfl, bitP_none] at hb
        cases hb
    · exact absurd (k.fuse hf) (by have := j.fuse; omega)
  · exact absurd hf (by have := k.fuse; omega)
end Go.Proofs.YtkpnflgnhhfjoaaDoor

/- Layer 9: plain: a plant's disk, whatever its fuse. Layer 9: plain: what a disk with a pager has. -/
import Derived.Test.YthgidfoidbgnaaaDoorE17
namespace Go.Proofs.YthgidfoidbgnaaaDoor
open Go.RowKit Go.Maps

/-- how a plant's shape is told -/
def ShapeOf (m : Pl) (ds ts : List Nat) : Prop := m.sh = ds.map (fun n => (false, n)) ++ ts.map (fun n => (true, n))
theorem ShapeOf.n {m : Pl} {ds ts : List Nat} (h : ShapeOf m ds ts) : m.n = ds.length + ts.length := by unfold Pl.n; rw [h]; simp
theorem ShapeOf.disk {m : Pl} {ds ts : List Nat} (h : ShapeOf m ds ts) (i : Nat) (hi : i < ds.length) : m.tape i = false ∧ m.size i = ds.getD i 0 := by
 unfold Pl.tape Pl.size
 rw [h]
 simp [List.getElem?_append_left, hi]
/-- sectors laid down one behind the other, and flushed -/
def Pl.lay (m : Pl) (d : Int) (a : Nat) : List (List Nat) → Int × Pl
 | [] => m.flush d
 | s :: r => if (m.write d (a : Int) s).1 = 0 then (m.write d (a : Int) s).2.lay d (a + 1) r else m.write d (a : Int) s
theorem Pl.step_le (m : Pl) : m.step.steps ≤ m.steps + 1 := by
 unfold Pl.step
 split
 ·exact Nat.le_succ _
 ·exact Nat.le_refl _
theorem layAll_get (fl : List (List Nat)) (l : List Wr) (h : ∀ x ∈ l, x.place < fl.length) (p : Nat) : (layAll false fl l).getD p zeros = (lastAt l p).getD (fl.getD p zeros) := by
 obtain ⟨r, hr⟩ : ∃ r, l = r.reverse := ⟨l.reverse, (List.reverse_reverse l).symm⟩
 subst hr
 induction r with
 | nil => rfl
 | cons x r ih =>
  rw [List.reverse_cons] at h ⊢
  have hx := h x (by simp)
  have hl : (layAll false fl r.reverse).length = fl.length := by rw [layAll_length]; rfl
  rw [layAll_snoc, lastAt_snoc]
  show ((layAll false fl r.reverse).set x.place x.b).getD p zeros = _
  by_cases e : x.place = p
  ·rw [if_pos e, ← e]
   simp [List.getD_eq_getElem?_getD, hl, hx]
  ·rw [if_neg e, ← ih (fun y hy => h y (List.mem_append_left _ hy))]
   simp [List.getD_eq_getElem?_getD, List.getElem?_set_ne e]
theorem bootTo_other (m : Pl) (keep : List Int) (i : Nat) (h : m.wt i = []) : ∀ n, n ≤ m.wts.length → (bootTo m keep n).1 i = m.fl i := by
 intro n
 induction n with
 | zero => intro _; rfl
 | succ n ih =>
  intro hn
  have hx : m.wts[n]? = some m.wts[n] := List.getElem?_eq_getElem (by omega)
  rw [bootTo_succ m keep n _ hx]
  have hd : (m.wts[n]).dev ≠ i := fun e => by
   have h1 : m.wts[n] ∈ m.wt i := List.mem_filter.2 ⟨List.getElem_mem _, by simp [e]⟩
   rw [h] at h1
   cases h1
  have hi := ih (by omega)
  unfold bootStep
  split
  ·exact hi
  ·show upd _ _ _ i = _
   unfold upd
   rw [if_neg (Ne.symm hd)]
   exact hi
theorem boot_rd (m : Pl) (keep : List Int) (i p : Nat) (h : m.wt i = []) : (m.boot keep).rd i p = m.rd i p := by
 unfold Pl.rd
 rw [h]
 have h1 : (m.boot keep).wt i = [] := rfl
 rw [h1]
 show Option.getD none ((bootTo m keep m.wts.length).1 i |>.getD p zeros) = _
 rw [bootTo_other m keep i h _ (Nat.le_refl _)]
 rfl
/-- on, a disk; whatever the fuse -/
structure Lv (m : Pl) (i : Nat) : Prop where
 wf : m.WF
 on : m.on = true
 lt : i < m.n
 disk : m.tape i = false
/-- what the other devices have is as it was -/
structure Oth (m m' : Pl) (i : Nat) : Prop where
 sh : m'.sh = m.sh
 steps : m.steps ≤ m'.steps
 same : ∀ j, j ≠ i → m'.fl j = m.fl j ∧ m'.wt j = m.wt j
theorem Oth.trans {a b c : Pl} {i : Nat} (h : Oth a b i) (k : Oth b c i) : Oth a c i := ⟨k.sh.trans h.sh, Nat.le_trans h.steps k.steps, fun j hj => ⟨(k.same j hj).1.trans (h.same j hj).1, (k.same j hj).2.trans (h.same j hj).2⟩⟩
theorem Pl.step_ge (m : Pl) : m.steps ≤ m.step.steps := by unfold Pl.step; split <;> simp
theorem Oth.step (m : Pl) (i : Nat) : Oth m m.step i := ⟨m.step_sh, m.step_ge, fun j _ => ⟨by rw [m.step_fl], m.step_wt j⟩⟩
theorem Oth.wait (m : Pl) (i a : Nat) (s : List Nat) : Oth m (m.wait i a s) i := ⟨rfl, Nat.le_refl _, fun j hj => ⟨rfl, by rw [Pl.wt_wait, if_neg (Ne.symm hj)]⟩⟩
theorem Oth.flushed (m : Pl) (i : Nat) : Oth m (m.flushed i) i := ⟨rfl, Nat.le_refl _, fun j hj => ⟨by show upd m.fl i _ j = _; simp [upd, hj], by rw [Pl.wt_flushed, if_neg hj]⟩⟩
theorem Oth.size {m m' : Pl} {i : Nat} (h : Oth m m' i) (j : Nat) : m'.size j = m.size j := by unfold Pl.size; rw [h.sh]
theorem Oth.tape {m m' : Pl} {i : Nat} (h : Oth m m' i) (j : Nat) : m'.tape j = m.tape j := by unfold Pl.tape; rw [h.sh]
theorem Pl.step_rd (m : Pl) (i p : Nat) : m.step.rd i p = m.rd i p := by unfold Pl.rd; rw [m.step_wt, m.step_fl]
theorem Pl.step_on (m : Pl) (h : m.fuse ≠ 0) : m.step.on = m.on := by unfold Pl.step; rw [if_neg h]
theorem Pl.step_off (m : Pl) (h : m.fuse = 0) : m.step.on = false := by unfold Pl.step; rw [if_pos h]
theorem Pl.step_neg (m : Pl) (h : m.fuse < 0) : m.step.fuse < 0 := by unfold Pl.step; rw [if_neg (by omega)]; show (if 0 < m.fuse then _ else m.fuse) < 0; rw [if_neg (by omega)]; exact h
theorem Lv.step {m : Pl} {i : Nat} (h : Lv m i) (hf : m.fuse ≠ 0) : Lv m.step i := ⟨Pl.step_wf h.wf, by rw [m.step_on hf]; exact h.on, by rw [m.step_n]; exact h.lt, by rw [m.step_tape]; exact h.disk⟩
theorem Lv.write {m : Pl} {i : Nat} (h : Lv m i) (a : Nat) (s : List Nat) (hs : Sec s) (ha : a < m.size i) : m.write (i : Int) (a : Int) s = if m.fuse = 0 then (2, m.step) else (0, m.step.wait i a s) := by
 have hlt := h.lt
 unfold Pl.write
 rw [if_neg (by rw [h.on]; decide), if_neg (by
  rw [Int.toNat_natCast]
  exact fun hn => hn ⟨⟨by omega, by omega⟩, h.disk, by omega, by omega⟩), if_neg (fun hn => hn hs.1), Int.toNat_natCast, Int.toNat_natCast]
theorem Lv.flush {m : Pl} {i : Nat} (h : Lv m i) : m.flush (i : Int) = if m.fuse = 0 then (2, m.step) else (0, m.step.flushed i) := by
 have hlt := h.lt
 unfold Pl.flush
 rw [if_neg (by rw [h.on]; decide), if_neg (fun hn => hn ⟨by omega, by omega⟩), Int.toNat_natCast]
theorem rd_wait (m : Pl) (i a : Nat) (s : List Nat) (p : Nat) : (m.wait i a s).rd i p = if a = p then s else m.rd i p := by
 unfold Pl.rd
 rw [Pl.wt_wait, if_pos rfl, lastAt_snoc]
 show Option.getD (if a = p then some s else _) _ = _
 by_cases e : a = p
 ·rw [if_pos e, if_pos e]; rfl
 ·rw [if_neg e, if_neg e]; rfl
theorem Lv.rd_flushed {m : Pl} {i : Nat} (h : Lv m i) (p : Nat) : (m.flushed i).rd i p = m.rd i p := by
 unfold Pl.rd
 rw [Pl.wt_flushed, if_pos rfl, lastAt_nil]
 show Option.getD none ((upd m.fl i (layAll (m.tape i) (m.fl i) (m.wt i)) i).getD p zeros) = _
 unfold upd
 rw [if_pos rfl, h.disk]
 refine layAll_get _ _ (fun x hx => ?_) p
 have hx2 := List.mem_filter.1 hx
 have hdv : x.dev = i := by simpa using hx2.2
 have h1 := h.wf.wdev x hx2.1
 rw [h.wf.disk i h.lt h.disk, ← hdv]
 exact h1.2.1
theorem Lv.wait {m : Pl} {i : Nat} (h : Lv m i) (hf : m.fuse ≠ 0) (a : Nat) (s : List Nat) (hs : Sec s) (ha : a < m.size i) : Lv (m.step.wait i a s) i := by
 have e := h.write a s hs ha
 rw [if_neg hf] at e
 have hw := Pl.write_wf h.wf (i : Int) (a : Int) s hs.2
 rw [e] at hw
 have h1 := h.step hf
 exact ⟨hw, h1.on, h1.lt, h1.disk⟩
theorem Lv.flushed {m : Pl} {i : Nat} (h : Lv m i) (hf : m.fuse ≠ 0) : Lv (m.step.flushed i) i := by
 have h1 := h.step hf
 exact ⟨Pl.flushed_wf h1.wf i, h1.on, h1.lt, h1.disk⟩
/-- all is laid down -/
structure LayOk (m m' : Pl) (i a : Nat) (L : List (List Nat)) : Prop where
 lv : Lv m' i
 wt : m'.wt i = []
 oth : Oth m m' i
 rd : ∀ p, m'.rd i p = if a ≤ p ∧ p < a + L.length then L.getD (p - a) [] else m.rd i p
 more : m.steps + L.length + 1 ≤ m'.steps
 le : m'.steps ≤ m.steps + L.length + 1
 fuse : m.fuse < 0 → m'.fuse < 0
/-- the power went off within -/
structure LayNo (m m' : Pl) (i a : Nat) (L : List (List Nat)) : Prop where
 wf : m'.WF
 off : m'.on = false
 oth : Oth m m' i
 fl : m'.fl i = m.fl i
 wt : ∀ x ∈ m'.wt i, x ∈ m.wt i ∨ ∃ j, j < L.length ∧ x.place = a + j ∧ x.b = L.getD j [] ∧ m.steps + 1 ≤ m'.steps
 le : m'.steps ≤ m.steps + L.length + 1
 fuse : 0 ≤ m.fuse
theorem Lv.lay {i : Nat} : ∀ (L : List (List Nat)) (a : Nat) (m : Pl), Lv m i → (∀ s ∈ L, Sec s) → a + L.length ≤ m.size i → ((m.lay (i : Int) a L).1 = 0 ∧ LayOk m (m.lay (i : Int) a L).2 i a L) ∨ ((m.lay (i : Int) a L).1 = 2 ∧ LayNo m (m.lay (i : Int) a L).2 i a L) := by
 intro L
 induction L with
 | nil =>
  intro a m h _ _
  unfold Pl.lay
  rw [h.flush]
  by_cases hf : m.fuse = 0
  ·right
   rw [if_pos hf]
   exact ⟨rfl, Pl.step_wf h.wf, m.step_off hf, Oth.step m i, by rw [m.step_fl], fun x hx => by rw [m.step_wt] at hx; exact Or.inl hx, by have := m.step_le; simpa using this, by omega⟩
  ·left
   rw [if_neg hf]
   have hst := m.step_steps hf
   refine ⟨rfl, h.flushed hf, ?_, (Oth.step m i).trans (Oth.flushed _ i), fun p => ?_, ?_, ?_, fun hn => m.step_neg hn⟩
   ·show (m.step.flushed i).wt i = []
    rw [Pl.wt_flushed, if_pos rfl]
   ·rw [if_neg (by simp)]
    show (m.step.flushed i).rd i p = _
    rw [(h.step hf).rd_flushed, m.step_rd]
   ·show m.steps + 0 + 1 ≤ m.step.steps
    omega
   ·show m.step.steps ≤ m.steps + 0 + 1
    omega
 | cons s L ih =>
  intro a m h hs hl
  rw [List.length_cons] at hl
  unfold Pl.lay
  rw [h.write a s (hs s (by simp)) (by omega)]
  by_cases hf : m.fuse = 0
  ·right
   rw [if_pos hf, if_neg (show ¬ (2 : Int) = 0 by decide)]
   exact ⟨rfl, Pl.step_wf h.wf, m.step_off hf, Oth.step m i, by rw [m.step_fl], fun x hx => by rw [m.step_wt] at hx; exact Or.inl hx, by have := m.step_le; rw [List.length_cons]; show m.step.steps ≤ _; omega, by omega⟩
  ·rw [if_neg hf, if_pos rfl]
   show ((m.step.wait i a s).lay (i : Int) (a + 1) L).1 = 0 ∧ LayOk m ((m.step.wait i a s).lay (i : Int) (a + 1) L).2 i a (s :: L) ∨ ((m.step.wait i a s).lay (i : Int) (a + 1) L).1 = 2 ∧ LayNo m ((m.step.wait i a s).lay (i : Int) (a + 1) L).2 i a (s :: L)
   have hst := m.step_steps hf
   have ho : Oth m (m.step.wait i a s) i := (Oth.step m i).trans (Oth.wait _ i a s)
   have hsz : (m.step.wait i a s).size i = m.size i := ho.size i
   have hst1 : (m.step.wait i a s).steps = m.steps + 1 := hst
   rcases ih (a + 1) (m.step.wait i a s) (h.wait hf a s (hs s (by simp)) (by omega)) (fun x hx => hs x (by simp [hx])) (by rw [hsz]; omega) with ⟨k1, k⟩ | ⟨k1, k⟩
   ·left
    refine ⟨k1, k.lv, k.wt, ho.trans k.oth, fun p => ?_, by have := k.more; rw [List.length_cons]; omega, by have := k.le; rw [List.length_cons]; omega, fun hn => k.fuse (m.step_neg hn)⟩
    rw [k.rd p, rd_wait, m.step_rd, List.length_cons]
    by_cases e : a = p
    ·subst e
     rw [if_neg (by omega), if_pos rfl, if_pos (by omega), Nat.sub_self]
     rfl
    ·by_cases e2 : a + 1 ≤ p ∧ p < a + 1 + L.length
     ·rw [if_pos e2, if_pos (by omega), show p - a = (p - (a + 1)) + 1 by omega]
      rfl
     ·rw [if_neg e2, if_neg e, if_neg (by omega)]
   ·right
    refine ⟨k1, k.wf, k.off, ho.trans k.oth, k.fl.trans (by show m.step.fl i = _; rw [m.step_fl]), fun x hx => ?_, by have := k.le; rw [List.length_cons]; omega, ?_⟩
    ·have hge := k.oth.steps
     rcases k.wt x hx with h1 | ⟨j, h1, h2, h3, h4⟩
     ·rw [Pl.wt_wait, if_pos rfl, m.step_wt] at h1
      rcases List.mem_append.1 h1 with h1 | h1
      ·exact Or.inl h1
      ·refine Or.inr ⟨0, by simp, ?_, ?_, by omega⟩
       ·rw [List.mem_singleton.1 h1]; rfl
       ·rw [List.mem_singleton.1 h1]; rfl
     ·exact Or.inr ⟨j + 1, by rw [List.length_cons]; omega, by omega, by rw [h3]; rfl, by omega⟩
    ·have h5 := k.fuse
     rcases Int.lt_or_le m.fuse 0 with hn | hn
     ·have := m.step_neg hn
      have : (m.step.wait i a s).fuse < 0 := this
      omega
     ·exact hn
/-- of a disk a boot keeps what was there, or a write that waited -/
theorem boot_disk (m : Pl) (keep : List Int) (i : Nat) (ht : m.tape i = false) (p : Nat) : ∀ n, n ≤ m.wts.length → ((bootTo m keep n).1 i).getD p zeros = (m.fl i).getD p zeros ∨ ∃ x ∈ m.wt i, x.place = p ∧ ((bootTo m keep n).1 i).getD p zeros = x.b := by
 intro n
 induction n with
 | zero => intro _; exact Or.inl rfl
 | succ n ih =>
  intro hn
  have hx : m.wts[n]? = some m.wts[n] := List.getElem?_eq_getElem (by omega)
  rw [bootTo_succ m keep n _ hx]
  have hi := ih (by omega)
  unfold bootStep
  split
  ·exact hi
  ·by_cases hd : (m.wts[n]).dev = i
   ·have hmem : m.wts[n] ∈ m.wt i := List.mem_filter.2 ⟨List.getElem_mem _, by simp [hd]⟩
    have hu : ∀ x, upd (bootTo m keep n).1 (m.wts[n]).dev x i = x := fun x => by unfold upd; rw [if_pos hd.symm]
    show (upd (bootTo m keep n).1 _ _ i).getD p zeros = _ ∨ ∃ x ∈ m.wt i, x.place = p ∧ (upd (bootTo m keep n).1 _ _ i).getD p zeros = x.b
    rw [hu, hd, ht]
    unfold settled
    split
    ·show (((bootTo m keep n).1 i).set (m.wts[n]).place (m.wts[n]).b).getD p zeros = _ ∨ ∃ x ∈ m.wt i, x.place = p ∧ (((bootTo m keep n).1 i).set (m.wts[n]).place (m.wts[n]).b).getD p zeros = x.b
     by_cases e : (m.wts[n]).place = p
     ·by_cases hl : p < ((bootTo m keep n).1 i).length
      ·refine Or.inr ⟨_, hmem, e, ?_⟩
       rw [e]
       simp [List.getD_eq_getElem?_getD, hl]
      ·rw [List.set_eq_of_length_le (by omega)]
       exact hi
     ·rw [show (((bootTo m keep n).1 i).set (m.wts[n]).place (m.wts[n]).b).getD p zeros = ((bootTo m keep n).1 i).getD p zeros by simp [List.getD_eq_getElem?_getD, List.getElem?_set_ne e]]
      exact hi
    ·rw [if_neg (fun hn => by cases hn.1)]
     exact hi
   ·show (upd _ _ _ i).getD p zeros = _ ∨ ∃ x ∈ m.wt i, x.place = p ∧ (upd _ _ _ i).getD p zeros = x.b
    unfold upd
    rw [if_neg (Ne.symm hd)]
    exact hi
theorem boot_wt (m : Pl) (keep : List Int) (i : Nat) : (m.boot keep).wt i = [] := rfl
/-- behind a boot each sector is as it was, or as it was laid down -/
theorem LayNo.boot {m m' : Pl} {i a : Nat} {L : List (List Nat)} (h : LayNo m m' i a L) (hw : m.wt i = []) (ht : m.tape i = false) (keep : List Int) (p : Nat) : (m'.boot keep).rd i p = m.rd i p ∨ ∃ j, j < L.length ∧ p = a + j ∧ (m'.boot keep).rd i p = L.getD j [] ∧ m.steps + 1 ≤ m'.steps := by
 have h1 := boot_disk m' keep i (by rw [h.oth.tape]; exact ht) p m'.wts.length (Nat.le_refl _)
 have e : (m'.boot keep).rd i p = ((bootTo m' keep m'.wts.length).1 i).getD p zeros := rfl
 have e2 : m.rd i p = (m.fl i).getD p zeros := by unfold Pl.rd; rw [hw]; rfl
 rw [e, e2]
 rcases h1 with h1 | ⟨x, hx, hp, h1⟩
 ·exact Or.inl (by rw [h1, h.fl])
 ·rcases h.wt x hx with h2 | ⟨j, h2, h3, h4, h5⟩
  ·rw [hw] at h2; cases h2
  ·exact Or.inr ⟨j, h2, by omega, by rw [h1, h4], h5⟩
end Go.Proofs.YthgidfoidbgnaaaDoor

namespace Go.Proofs.YthgidfoidbgnaaaDoor
open Go.RowKit Go.Maps

end Go.Proofs.YthgidfoidbgnaaaDoor

/- What holds of every plant holds behind every call; the calls, as a caller meets them. -/
import Derived.Test.YtgkmegcejekbcaaFull
namespace Go.Proofs.Ytgkmegcejekbcaa
open Go.RowKit Go.Maps

theorem Pl.write_wf {m : Pl} (h : m.WF) (d p : Int) (s : List Nat) (hs : ∀ c ∈ s, c < 256) : (m.write d p s).2.WF := by
  unfold Pl.write
  split
  · exact h
  · split
    · exact h
    · rename_i hh
      split
      · exact h
      · rename_i hl
        split
        · exact Pl.step_wf h
        · rename_i hf
          simp only [Classical.not_not] at hh hl
          obtain ⟨hd, ht, hp0, hp1⟩ := hh
          exact Pl.wait_wf h hf _ _ s (by have := hd.1; have := hd.2; omega) (by omega) ⟨hl, hs⟩ (fun ht' => by rw [ht] at ht'; cases ht')
theorem Pl.append_wf {m : Pl} (h : m.WF) (d : Int) (s : List Nat) (hs : ∀ c ∈ s, c < 256) : (m.append d s).2.2.WF := by
  unfold Pl.append
  split
  · exact h
  · split
    · exact h
    · rename_i hh
      split
      · exact h
      · rename_i hl
        split
        · exact h
        · rename_i hfull
          split
          · exact Pl.step_wf h
          · rename_i hf
            simp only [Classical.not_not] at hh hl
            obtain ⟨hd, ht⟩ := hh
            exact Pl.wait_wf h hf _ _ s (by have := hd.1; have := hd.2; omega) (by omega) ⟨hl, hs⟩ (fun _ => ⟨rfl, by omega⟩)
theorem layAll_sec {tape : Bool} {fl : List (List Nat)} {l : List Wr} (h1 : ∀ s ∈ fl, Sec s) (h2 : ∀ x ∈ l, Sec x.b) : ∀ s ∈ layAll tape fl l, Sec s := by
  induction l generalizing fl with
  | nil => exact h1
  | cons x l ih =>
    have e : layAll tape fl (x :: l) = layAll tape (lay tape fl x.place x.b) l := rfl
    rw [e]
    refine ih (fun s hs => ?_) (fun y hy => h2 y (by simp [hy]))
    unfold lay at hs
    split at hs
    · rcases List.mem_append.1 hs with hs | hs
      · exact h1 s hs
      · rw [List.mem_singleton.1 hs]
        exact h2 x (by simp)
    · rcases List.mem_or_eq_of_mem_set hs with hs | hs
      · exact h1 s hs
      · rw [hs]
        exact h2 x (by simp)
theorem Pl.flushed_wf {m : Pl} (h : m.WF) (i : Nat) : (m.flushed i).WF := by
  have hsub : ∀ x ∈ (m.flushed i).wts, x ∈ m.wts := fun x hx => (List.mem_filter.1 hx).1
  refine ⟨h.few, h.pos, h.sizes, fun j => ?_, fun j hj ht => ?_, fun j hj ht => ?_, fun x hx => h.wsec x (hsub x hx), fun x hx => h.wdev x (hsub x hx), h.order.sublist List.filter_sublist, Nat.le_trans (List.length_filter_le _ _) h.count, h.fuse0, h.fuse1, h.clock0, h.clock1⟩
  · show ∀ s ∈ upd m.fl i _ j, _
    unfold upd
    split
    · rename_i e
      exact layAll_sec (h.secs i) (fun x hx => h.wsec x (Pl.wt_mem hx).1)
    · exact h.secs j
  · show (upd m.fl i _ j).length = m.size j
    unfold upd
    split
    · rename_i e
      subst e
      rw [layAll_length, show m.tape j = false from ht]
      exact h.disk j hj ht
    · exact h.disk j hj ht
  · rw [Pl.wt_flushed]
    have ht' : m.tape j = true := ht
    have hh := h.tapes j hj ht'
    by_cases e : j = i
    · subst e
      rw [if_pos rfl]
      have e1 : ((m.flushed j).fl j).length = (m.fl j).length + (m.wt j).length := by
        show (upd m.fl j _ j).length = _
        unfold upd
        rw [if_pos rfl, layAll_length, ht']
        simp
      rw [e1]
      exact ⟨by simp only [List.length_nil, Nat.add_zero]; exact hh.1, fun k x hx => by simp at hx⟩
    · rw [if_neg e]
      have e1 : (m.flushed i).fl j = m.fl j := by show upd m.fl i _ j = _; simp [upd, e]
      rw [e1]
      exact hh
theorem Pl.flush_wf {m : Pl} (h : m.WF) (d : Int) : (m.flush d).2.WF := by
  unfold Pl.flush
  split
  · exact h
  · split
    · exact h
    · split
      · exact Pl.step_wf h
      · exact Pl.flushed_wf (Pl.step_wf h) _
theorem Pl.boot_wf {m : Pl} (h : m.WF) (ks : List Int) : (m.boot ks).WF := by
  have hp := boot_place h ks m.wts.length (Nat.le_refl _)
  have hout : ∀ i, ¬ i < m.n → (bootTo m ks m.wts.length).1 i = m.fl i := by
    intro i hi
    have : ∀ n, n ≤ m.wts.length → (bootTo m ks n).1 i = m.fl i := by
      intro n
      induction n with
      | zero => intro _; rfl
      | succ n ih =>
        intro hn
        obtain ⟨x, hx⟩ : ∃ x, m.wts[n]? = some x := ⟨_, List.getElem?_eq_getElem (by omega)⟩
        have hxd := (h.wdev x (List.mem_of_getElem? hx)).1
        rw [bootTo_succ m ks n x hx]
        unfold bootStep
        split
        · exact ih (by omega)
        · have hne : i ≠ x.dev := fun e => hi (by rw [e]; exact hxd)
          show upd _ _ _ i = _
          simp only [upd, if_neg hne]
          exact ih (by omega)
    exact this _ (Nat.le_refl _)
  refine ⟨h.few, h.pos, h.sizes, fun i => ?_, fun i hi ht => (hp i hi).2.1 ht, fun i hi ht => ?_, fun x hx => (by cases hx), fun x hx => (by cases hx), List.Pairwise.nil, Nat.zero_le _, (by decide : (-9223372036854775808 : Int) ≤ -1), (by decide : (-1 : Int) ≤ 9223372036854775807), h.clock0, h.clock1⟩
  · show ∀ s ∈ (bootTo m ks m.wts.length).1 i, _
    by_cases hi : i < m.n
    · exact (hp i hi).1
    · rw [hout i hi]
      exact h.secs i
  · have h4 := (hp i hi).2.2.2 ht
    rw [List.take_length] at h4
    have := (h.tapes i hi ht).1
    have e : (m.boot ks).wt i = [] := rfl
    rw [e]
    exact ⟨by show ((bootTo m ks m.wts.length).1 i).length + 0 ≤ m.size i; unfold Pl.wt at this; omega, fun j x hx => by simp at hx⟩
theorem Pl.fuse_wf {m : Pl} (h : m.WF) (n : Int) (h0 : -9223372036854775808 ≤ n) (h1 : n ≤ 9223372036854775807) : (m.fuseTo n).WF := by
  unfold Pl.fuseTo
  split
  · exact ⟨h.few, h.pos, h.sizes, h.secs, h.disk, h.tapes, h.wsec, h.wdev, h.order, h.count, h0, h1, h.clock0, h.clock1⟩
  · exact h
theorem newPl_wf (ds ts : List Int) (hok : shapeOk ds ts = true) : (newPl ds ts).WF := by
  unfold shapeOk at hok
  simp only [Bool.and_eq_true, decide_eq_true_eq] at hok
  obtain ⟨ho1, ho2, ho3, ho4⟩ := hok
  have hn : (newPl ds ts).sh.length = ds.length + ts.length := newPl_n ds ts
  have hsz : ∀ i, i < (newPl ds ts).sh.length → 1 ≤ (newPl ds ts).size i ∧ (newPl ds ts).size i ≤ 4096 := fun i hi => by
    rw [hn] at hi
    by_cases h : i < ds.length
    · have := sizesOk_at ho3 i h
      rw [(newPl_disk ds ts i h).2]
      omega
    · have h' : i - ds.length < ts.length := by omega
      have := sizesOk_at ho4 _ h'
      have e := (newPl_tape ds ts _ h').2
      rw [show ds.length + (i - ds.length) = i by omega] at e
      rw [e]
      omega
  refine ⟨by omega, by omega, hsz, fun i s hs => ?_, fun i hi ht => ?_, fun i hi ht => ?_, fun x hx => (by cases hx), fun x hx => (by cases hx), List.Pairwise.nil, Nat.zero_le _, (by decide : (-9223372036854775808 : Int) ≤ -1), (by decide : (-1 : Int) ≤ 9223372036854775807), (by decide : (0 : Int) ≤ 0), (by decide : (0 : Int) ≤ 1099511627776)⟩
  · have hs' : s ∈ fresh ((newPl ds ts).tape i) ((newPl ds ts).size i) := hs
    unfold fresh at hs'
    split at hs'
    · cases hs'
    · rw [(List.mem_replicate.1 hs').2]
      exact sec_zero
  · show (fresh ((newPl ds ts).tape i) ((newPl ds ts).size i)).length = _
    rw [ht]
    simp [fresh]
  · have e : (newPl ds ts).fl i = [] := by
      show fresh ((newPl ds ts).tape i) ((newPl ds ts).size i) = []
      rw [ht]
      rfl
    have e2 : (newPl ds ts).wt i = [] := rfl
    rw [e, e2]
    exact ⟨by simp, fun j x hx => by simp at hx⟩

/-- a plant that is there, its colours no other's, also in what is still to come -/
def Live (w : World) (c : Nat → Colour) (t g : Nat) (m : Pl) : Prop := PlantIn w c t g m ∧ m.WF ∧ ∀ b, w.heap.size ≤ b → (c b).1 ≠ t
def Next (w : World) (c : Nat → Colour) (t g : Nat) (m' : Pl) (w' : World) : Prop := ∃ c', (∀ b, b < w.heap.size → c' b = c b) ∧ (∀ b, w.heap.size ≤ b → (c' b).1 = t ∨ (c' b).1 = t + 1) ∧ Live w' c' t g m' ∧ Ch (fun b => (c b).1 = t) w w'
theorem Live.below {w w' : World} {c : Nat → Colour} {t g : Nat} {m : Pl} (h : Live w c t g m) (hb : Below w.heap.size w w') : Live w' c t g m :=
  ⟨h.1.kept hb.size fun b hlt _ => ⟨hb.block b hlt, rfl⟩, h.2.1, fun b hlt => h.2.2 b (Nat.le_trans hb.size hlt)⟩
theorem Live.post {w w' : World} {c : Nat → Colour} {t g db cap : Nat} {gs : Nat → Nat} {m' : Pl} (hp : Post w c t g db cap gs m' w') (hwf : m'.WF) : Next w c t g m' w' := by
  obtain ⟨c', hcc, hP, hch⟩ := hp
  obtain ⟨c2, hc2⟩ : ∃ c2 : Nat → Colour, c2 = fun b => if b < w.heap.size then c b else if b < w'.heap.size ∧ (c' b).1 = t then c' b else (t + 1, 0) := ⟨_, rfl⟩
  have hsz := hch.size
  refine ⟨c2, fun b hb => by rw [hc2]; simp [hb], fun b hb => ?_, ⟨⟨db, cap, gs, ?_⟩, hwf, fun b hb => ?_⟩, hch⟩
  · rw [hc2]
    simp only [show ¬ b < w.heap.size by omega, if_false]
    split
    · rename_i h
      exact Or.inl h.2
    · exact Or.inr rfl
  · have hsame : ∀ b, b < w'.heap.size → (c' b).1 = t → c2 b = c' b := fun b hb ht => by
      rw [hc2]
      by_cases h : b < w.heap.size
      · simp [h, hcc b h]
      · simp [h, hb, ht]
    refine ⟨hP.row, ?_, ?_, hP.ne, hP.lt, hP.cap, hP.cell, fun i hi => (hP.dev i hi).kept fun b hb hk => ⟨rfl, ?_⟩⟩
    · rw [hsame g hP.row.lt (by rw [hP.cg]), hP.cg]
    · rw [hsame db hP.lt (by rw [hP.cd]), hP.cd]
    · rw [hsame b hb (by rw [hk]), hk]
  · rw [hc2]
    simp [show ¬ b < w.heap.size by omega, show ¬ b < w'.heap.size by omega]

section
variable {w : World} {c : Nat → Colour} {t g : Nat} {m : Pl}
theorem Live.write (h : Live w c t g m) (hst : m.steps < 1099511627775) (d p : Int) (v : Value) (s : List Nat) (hv : SliceIn w v s) : Calls Try.prog 16 #[ptr g, .int .i64 d, .int .i64 p, v] w fun e w' => e = .returned (.int .i64 (m.write d p s).1) ∧ Next w c t g (m.write d p s).2 w' := by
  obtain ⟨⟨db, cap, gs, hP⟩, hwf, _⟩ := h
  exact (write_any hP hwf (by omega) d p v s hv).mono fun e w' he => ⟨he.1, Live.post he.2 (Pl.write_wf hwf d p s hv.lt256)⟩
theorem Live.append (h : Live w c t g m) (hst : m.steps < 1099511627775) (d : Int) (v : Value) (s : List Nat) (hv : SliceIn w v s) : Calls Try.prog 18 #[ptr g, .int .i64 d, v] w fun e w' => e = .returned (.tuple #[.int .i64 ((m.append d s).1 : Int), .int .i64 (m.append d s).2.1]) ∧ Next w c t g (m.append d s).2.2 w' := by
  obtain ⟨⟨db, cap, gs, hP⟩, hwf, _⟩ := h
  exact (append_any hP hwf hst d v s hv).mono fun e w' he => ⟨he.1, Live.post he.2 (Pl.append_wf hwf d s hv.lt256)⟩
theorem Live.flush (h : Live w c t g m) (hst : m.steps < 1099511627775) (d : Int) : Calls Try.prog 21 #[ptr g, .int .i64 d] w fun e w' => e = .returned (.int .i64 (m.flush d).1) ∧ Next w c t g (m.flush d).2 w' := by
  obtain ⟨⟨db, cap, gs, hP⟩, hwf, _⟩ := h
  exact (flush_any hP hwf (by omega) d).mono fun e w' he => ⟨he.1, Live.post he.2 (Pl.flush_wf hwf d)⟩
theorem Live.boot (h : Live w c t g m) (hst : m.steps < 1099511627775) (kv : Value) (ks : List Int) (hk : KeepIn w c t kv ks) : Calls Try.prog 25 #[ptr g, kv] w fun e w' => e = .returned noResult ∧ Next w c t g (m.boot ks) w' := by
  obtain ⟨⟨db, cap, gs, hP⟩, hwf, _⟩ := h
  exact (boot_any hP hwf (by omega) kv ks hk).mono fun e w' he => ⟨he.1, Live.post he.2 (Pl.boot_wf hwf ks)⟩
theorem Live.fuse (h : Live w c t g m) (n : Int) (h0 : -9223372036854775808 ≤ n) (h1 : n ≤ 9223372036854775807) : Calls Try.prog 23 #[ptr g, .int .i64 n] w fun e w' => e = .returned noResult ∧ Next w c t g (m.fuseTo n) w' := by
  obtain ⟨⟨db, cap, gs, hP⟩, hwf, _⟩ := h
  exact (fuse_any hP n).mono fun e w' he => ⟨he.1, Live.post (Post.stepped hP he.2.1 he.2.2) (Pl.fuse_wf hwf n h0 h1)⟩
theorem Live.read (h : Live w c t g m) (hst : m.steps < 1099511627775) (hon : m.on = true) (i p : Nat) (hi : i < m.n) (hp : p < m.len i) : Calls Try.prog 20 #[ptr g, .int .i64 (i : Int), .int .i64 (p : Int)] w fun e w' => ∃ b, e = .returned (.tuple #[.slice (some ⟨b, 0, none⟩) 64 64, .int .i64 0]) ∧ w.heap.size ≤ b ∧ Row w' b 5 (bcells (m.rd i p)) ∧ Below w.heap.size w w' := by
  obtain ⟨⟨db, cap, gs, hP⟩, hwf, _⟩ := h
  exact readP_any hP hwf (by omega) hon i p hi hp
theorem Live.readN (h : Live w c t g m) (hst : m.steps < 1099511627775) (d p : Int) (hno : ¬ (m.on = true ∧ m.has d ∧ 0 ≤ p ∧ p < (m.len d.toNat : Int))) : Calls Try.prog 20 #[ptr g, .int .i64 d, .int .i64 p] w fun e w' => e = .returned (.tuple #[.slice none 0 0, .int .i64 (if m.on then 31 else 2)]) ∧ ∃ n, w' = w.drewN n := by
  obtain ⟨⟨db, cap, gs, hP⟩, hwf, _⟩ := h
  exact readN_any hP hwf (by omega) d p hno
theorem Live.len (h : Live w c t g m) (hst : m.steps < 1099511627775) (d : Int) : Calls Try.prog 36 #[ptr g, .int .i64 d] w fun e w' => e = .returned (.tuple #[.int .i64 ((if m.has d then m.len d.toNat else 0 : Nat) : Int), .int .i64 (if m.has d then 0 else 31)]) ∧ ∃ n, w' = w.drewN n := by
  obtain ⟨⟨db, cap, gs, hP⟩, hwf, _⟩ := h
  exact len_any hP hwf (by omega) d
theorem Live.isOn (h : Live w c t g m) : Calls Try.prog 35 #[ptr g] w fun e w' => e = .returned (.bool m.on) ∧ w' = w := by
  obtain ⟨⟨db, cap, gs, hP⟩, hwf, _⟩ := h
  exact on_cells w g m.on hP.c1
theorem Live.steps (h : Live w c t g m) : Calls Try.prog 34 #[ptr g] w fun e w' => e = .returned (.int .i64 (m.steps : Int)) ∧ w' = w := by
  obtain ⟨⟨db, cap, gs, hP⟩, hwf, _⟩ := h
  exact steps_cells w g _ hP.c3
end
/-- a plant is made -/
theorem Live.new (w : World) (c : Nat → Colour) (t : Nat) (vd vt : Value) (ds ts : List Int) (hd : IntsIn w vd ds) (ht : IntsIn w vt ts) (hok : shapeOk ds ts = true) :
    Calls Try.prog 9 #[.agg #[vd, vt]] w fun e w' => ∃ g c', e = .returned (.tuple #[ptr g, .int .i64 0]) ∧ w.heap.size ≤ g ∧ (∀ b, b < w.heap.size → c' b = c b) ∧ (∀ b, w.heap.size ≤ b → (c' b).1 = t ∨ (c' b).1 = t + 1) ∧ Live w' c' t g (newPl ds ts) ∧ Below w.heap.size w w' := by
  refine (newOk_any w c t vd vt ds ts hd ht hok).mono fun e w' ⟨g, c', db, cap, gs, he, hg, hcc, hP, hb⟩ => ?_
  obtain ⟨c2, h1, h2, h3, _⟩ := Live.post (w := w) (c := c) (t := t) (g := g) ⟨c', hcc, hP, Ch.of_below hb⟩ (newPl_wf ds ts hok)
  exact ⟨g, c2, he, hg, h1, h2, h3, hb⟩
end Go.Proofs.Ytgkmegcejekbcaa

/- A plant whose power goes, and two plants beside each other. -/
import Derived.Test.YteacjeihliajpaaShown
import Derived.Test.YteacjeihliajpaaClone2
namespace Go.Proofs.Yteacjeihliajpaa
open Go.RowKit Go.Maps

/-- a plant of one disk and one tape of 8, whose power goes behind F steps; done of them are done -/
structure OffIs (m : Pl) (F done : Nat) : Prop where
  wf : m.WF
  sh : m.sh = [(false, 8), (true, 8)]
  steps : m.steps = done
  le : done ≤ F
  how : (m.on = true ∧ m.fuse = (F : Int) - (done : Int)) ∨ (m.on = false ∧ done = F)
theorem OffIs.n {m : Pl} {F d : Nat} (h : OffIs m F d) : m.n = 2 := by unfold Pl.n; rw [h.sh]; rfl
theorem OffIs.has0 {m : Pl} {F d : Nat} (h : OffIs m F d) : m.has 0 := by unfold Pl.has; rw [h.n]; decide
theorem OffIs.has1 {m : Pl} {F d : Nat} (h : OffIs m F d) : m.has 1 := by unfold Pl.has; rw [h.n]; decide
theorem OffIs.tape0 {m : Pl} {F d : Nat} (h : OffIs m F d) : m.tape 0 = false := by unfold Pl.tape; rw [h.sh]; rfl
theorem OffIs.tape1 {m : Pl} {F d : Nat} (h : OffIs m F d) : m.tape 1 = true := by unfold Pl.tape; rw [h.sh]; rfl
theorem OffIs.size0 {m : Pl} {F d : Nat} (h : OffIs m F d) : m.size 0 = 8 := by unfold Pl.size; rw [h.sh]; rfl
theorem off_new (F : Nat) (hF : F < 12) : OffIs ((newPl [8] [8]).fuseTo (F : Int)) F 0 :=
  ⟨Pl.fuse_wf (newPl_wf _ _ (by decide)) _ (by omega) (by omega), rfl, rfl, Nat.zero_le _, Or.inl ⟨rfl, by show (F : Int) = _; simp⟩⟩
/-- what an answer says -/
def Told (F d : Nat) (r : Int) (d' : Nat) : Prop := (r = 3 ∧ d' = d) ∨ (r = 0 ∧ d < F ∧ d' = d + 1) ∨ (r = 2 ∧ d = F ∧ d' = d)
theorem OffIs.gone {m : Pl} {F d : Nat} (h : OffIs m F d) (hf : m.fuse = 0) : OffIs m.step F d ∧ d = F := by
  have hd : d = F := by
    rcases h.how with ⟨_, h1⟩ | ⟨_, h1⟩
    · omega
    · exact h1
  refine ⟨⟨Pl.step_wf h.wf, by rw [m.step_sh]; exact h.sh, ?_, h.le, Or.inr ⟨?_, hd⟩⟩, hd⟩
  · unfold Pl.step; rw [if_pos hf]; exact h.steps
  · unfold Pl.step; rw [if_pos hf]
theorem OffIs.went {m m' : Pl} {F d : Nat} (h : OffIs m F d) (h0 : m.on = true) (hf : m.fuse ≠ 0) (hw : m'.WF) (h1 : m'.sh = m.step.sh) (h2 : m'.steps = m.step.steps) (h3 : m'.on = m.step.on) (h4 : m'.fuse = m.step.fuse) : OffIs m' F (d + 1) ∧ d < F := by
  have hle := h.le
  have hd : m.fuse = (F : Int) - (d : Int) := by
    rcases h.how with ⟨_, h1⟩ | ⟨h1, _⟩
    · exact h1
    · rw [h0] at h1; cases h1
  have hlt : d < F := by omega
  refine ⟨⟨hw, by rw [h1, m.step_sh]; exact h.sh, by rw [h2, m.step_steps hf, h.steps], by omega, Or.inl ⟨?_, ?_⟩⟩, hlt⟩
  · rw [h3]; unfold Pl.step; rw [if_neg hf]; exact h0
  · rw [h4]; unfold Pl.step; rw [if_neg hf]; show (if 0 < m.fuse then m.fuse - 1 else m.fuse) = _; rw [if_pos (by omega)]; omega
theorem OffIs.write {m : Pl} {F d : Nat} (h : OffIs m F d) (p : Int) (hp0 : 0 ≤ p) (hp8 : p < 8) (x : Nat) (hx : x < 256) : ∃ d', Told F d (m.write 0 p (ones x)).1 d' ∧ OffIs (m.write 0 p (ones x)).2 F d' := by
  have hwf := Pl.write_wf h.wf 0 p (ones x) (ones_sec x hx).2
  cases h0 : m.on with
  | false =>
    have hd : d = F := by
      rcases h.how with ⟨h1, _⟩ | ⟨_, h1⟩
      · rw [h0] at h1; cases h1
      · exact h1
    have e : m.write 0 p (ones x) = (2, m) := by unfold Pl.write; rw [if_pos h0]
    rw [e]
    exact ⟨d, Or.inr (Or.inr ⟨rfl, hd, rfl⟩), h⟩
  | true =>
    have e : m.write 0 p (ones x) = if m.fuse = 0 then (2, m.step) else (0, m.step.wait (0 : Int).toNat p.toNat (ones x)) := by
      unfold Pl.write
      rw [if_neg (by rw [h0]; decide), if_neg (by simp only [Classical.not_not]; exact ⟨h.has0, h.tape0, hp0, by rw [show (0 : Int).toNat = 0 from rfl, h.size0]; exact hp8⟩), if_neg (by simp [ones])]
    rw [e] at hwf ⊢
    by_cases hf : m.fuse = 0
    · rw [if_pos hf] at hwf ⊢
      obtain ⟨h1, h2⟩ := h.gone hf
      exact ⟨d, Or.inr (Or.inr ⟨rfl, h2, rfl⟩), h1⟩
    · rw [if_neg hf] at hwf ⊢
      obtain ⟨h1, h2⟩ := h.went h0 hf hwf rfl rfl rfl rfl
      exact ⟨d + 1, Or.inr (Or.inl ⟨rfl, h2, rfl⟩), h1⟩
theorem OffIs.append {m : Pl} {F d : Nat} (h : OffIs m F d) (x : Nat) (hx : x < 256) : ∃ d', Told F d (m.append 1 (ones x)).2.1 d' ∧ OffIs (m.append 1 (ones x)).2.2 F d' := by
  have hwf := Pl.append_wf h.wf 1 (ones x) (ones_sec x hx).2
  cases h0 : m.on with
  | false =>
    have hd : d = F := by
      rcases h.how with ⟨h1, _⟩ | ⟨_, h1⟩
      · rw [h0] at h1; cases h1
      · exact h1
    have e : m.append 1 (ones x) = (0, 2, m) := by unfold Pl.append; rw [if_pos h0]
    rw [e]
    exact ⟨d, Or.inr (Or.inr ⟨rfl, hd, rfl⟩), h⟩
  | true =>
    have e : m.append 1 (ones x) = if m.size (1 : Int).toNat ≤ m.len (1 : Int).toNat then (0, 3, m) else if m.fuse = 0 then (0, 2, m.step) else (m.len (1 : Int).toNat, 0, m.step.wait (1 : Int).toNat (m.len (1 : Int).toNat) (ones x)) := by
      unfold Pl.append
      rw [if_neg (by rw [h0]; decide), if_neg (by simp only [Classical.not_not]; exact ⟨h.has1, h.tape1⟩), if_neg (by simp [ones])]
    rw [e] at hwf ⊢
    by_cases hl : m.size (1 : Int).toNat ≤ m.len (1 : Int).toNat
    · rw [if_pos hl]
      exact ⟨d, Or.inl ⟨rfl, rfl⟩, h⟩
    · rw [if_neg hl] at hwf ⊢
      by_cases hf : m.fuse = 0
      · rw [if_pos hf] at hwf ⊢
        obtain ⟨h1, h2⟩ := h.gone hf
        exact ⟨d, Or.inr (Or.inr ⟨rfl, h2, rfl⟩), h1⟩
      · rw [if_neg hf] at hwf ⊢
        obtain ⟨h1, h2⟩ := h.went h0 hf hwf rfl rfl rfl rfl
        exact ⟨d + 1, Or.inr (Or.inl ⟨rfl, h2, rfl⟩), h1⟩
/-- the power is off -/
structure Dead (m : Pl) (d : Nat) : Prop where
  wf : m.WF
  sh : m.sh = [(false, 8), (true, 8)]
  steps : m.steps = d
  off : m.on = false
theorem OffIs.last {m : Pl} {F d : Nat} (h : OffIs m F d) : ((m.fuseTo 0).flush 0).1 = 2 ∧ Dead ((m.fuseTo 0).flush 0).2 d := by
  have hwf := Pl.flush_wf (Pl.fuse_wf h.wf 0 (by decide) (by decide)) 0
  cases h0 : m.on with
  | false =>
    have e : (m.fuseTo 0).flush 0 = (2, m) := by unfold Pl.fuseTo Pl.flush; rw [h0]; simp [h0]
    rw [e]
    exact ⟨rfl, h.wf, h.sh, h.steps, h0⟩
  | true =>
    have e1 : m.fuseTo 0 = { m with fuse := 0 } := by unfold Pl.fuseTo; rw [if_pos h0]
    have hn : ({ m with fuse := 0 } : Pl).has 0 := h.has0
    have e : (m.fuseTo 0).flush 0 = (2, ({ m with fuse := 0 } : Pl).step) := by
      rw [e1]
      unfold Pl.flush
      rw [if_neg (by show ¬ m.on = false; rw [h0]; decide), if_neg (by simp only [Classical.not_not]; exact hn), if_pos rfl]
    rw [e] at hwf ⊢
    refine ⟨rfl, hwf, ?_, ?_, ?_⟩
    · rw [Pl.step_sh]; exact h.sh
    · exact h.steps
    · rfl
theorem Dead.n {m : Pl} {d : Nat} (h : Dead m d) : m.n = 2 := by unfold Pl.n; rw [h.sh]; rfl
/-- a boot that keeps all -/
theorem boot_all (m : Pl) : ∀ n, n ≤ m.wts.length → ∀ i, (bootTo m [1] n).2 i = false
  | 0, _, _ => rfl
  | n + 1, hn, i => by
    obtain ⟨x, hx⟩ : ∃ x, m.wts[n]? = some x := ⟨_, List.getElem?_eq_getElem (by omega)⟩
    rw [bootTo_succ m [1] n x hx]
    unfold bootStep
    rw [if_neg (by rw [boot_all m n (by omega) x.dev]; decide)]
    have hk : bootK [1] n = 1 := by simp [bootK, Nat.mod_one]
    show (if i = x.dev then !goesOn (m.tape x.dev) (bootK [1] n) else (bootTo m [1] n).2 i) = false
    rw [hk]
    split
    · simp [goesOn]
    · exact boot_all m n (by omega) i
theorem Dead.boot {m : Pl} {d : Nat} (h : Dead m d) : (m.boot [1]).WF ∧ (m.boot [1]).on = true ∧ (m.boot [1]).n = 2 ∧ (m.boot [1]).len 1 = m.len 1 ∧ (m.boot [1]).len 0 = 8 ∧ (m.boot [1]).steps = d := by
  have ht : m.tape 1 = true := by unfold Pl.tape; rw [h.sh]; rfl
  have ht0 : m.tape 0 = false := by unfold Pl.tape; rw [h.sh]; rfl
  have hs0 : m.size 0 = 8 := by unfold Pl.size; rw [h.sh]; rfl
  refine ⟨Pl.boot_wf h.wf _, rfl, h.n, ?_, ?_, h.steps⟩
  · have hp := (boot_place h.wf [1] m.wts.length (Nat.le_refl _) 1 (by rw [h.n]; decide)).2.2.1 ht (boot_all m _ (Nat.le_refl _) 1)
    rw [List.take_length] at hp
    have e1 : (m.boot [1]).tape 1 = true := ht
    unfold Pl.len
    rw [if_pos ht, if_pos e1]
    show ((bootTo m [1] m.wts.length).1 1).length + 0 = _
    rw [hp]
    rfl
  · unfold Pl.len
    have e1 : (m.boot [1]).tape 0 = false := ht0
    rw [e1]
    exact hs0

section
variable {w W : World} {B : Nat} {c : Nat → Colour} {g q : Nat} {m mq : Pl} {F d : Nat}
theorem off_write (hs : St w B W c g m) (ho : OffIs m F d) (hF : F < 12) (b x : Nat) (hx : x < 256) (hb : Out W c b (ones x)) (p : Int) (hp0 : 0 ≤ p) (hp8 : p < 8) :
    Calls Try.prog 16 #[ptr g, .int .i64 0, .int .i64 p, .slice (some ⟨b, 0, none⟩) 64 64] W fun e w' => ∃ r d' c' m', e = .returned (.int .i64 r) ∧ Told F d r d' ∧ St w B w' c' g m' ∧ OffIs m' F d' := by
  have hle := ho.le
  have hst := ho.steps
  refine (hs.1.write (by omega) 0 p _ _ (hb.slice (ones_sec x hx))).mono fun e w' he => ?_
  obtain ⟨rfl, hn⟩ := he
  obtain ⟨c', h1, _, _⟩ := hs.next hn
  obtain ⟨d', h2, h3⟩ := ho.write p hp0 hp8 x hx
  exact ⟨_, d', c', _, rfl, h2, h1, h3⟩
theorem off_append (hs : St w B W c g m) (ho : OffIs m F d) (hF : F < 12) (b x : Nat) (hx : x < 256) (hb : Out W c b (ones x)) :
    Calls Try.prog 18 #[ptr g, .int .i64 1, .slice (some ⟨b, 0, none⟩) 64 64] W fun e w' => ∃ k r d' c' m', e = .returned (.tuple #[.int .i64 k, .int .i64 r]) ∧ Told F d r d' ∧ St w B w' c' g m' ∧ OffIs m' F d' := by
  have hle := ho.le
  have hst := ho.steps
  refine (hs.1.append (by omega) 1 _ _ (hb.slice (ones_sec x hx))).mono fun e w' he => ?_
  obtain ⟨rfl, hn⟩ := he
  obtain ⟨c', h1, _, _⟩ := hs.next hn
  obtain ⟨d', h2, h3⟩ := ho.append x hx
  exact ⟨_, _, d', c', _, rfl, h2, h1, h3⟩

/-- two plants beside each other -/
def Two (w : World) (B : Nat) (W : World) (c : Nat → Colour) (g q : Nat) (m mq : Pl) : Prop := Live W c 0 g m ∧ Live W c 2 q mq ∧ (∀ b, b < B → (c b).1 ≠ 0 ∧ (c b).1 ≠ 2) ∧ Below B w W ∧ B ≤ W.heap.size
theorem Two.below (h : Two w B W c g q m mq) {W' : World} (hb : Below W.heap.size W W') : Two w B W' c g q m mq :=
  ⟨h.1.below hb, h.2.1.below hb, h.2.2.1, h.2.2.2.1.trans (hb.mono h.2.2.2.2), Nat.le_trans h.2.2.2.2 hb.size⟩
theorem Two.drewN (h : Two w B W c g q m mq) (n : Nat) : Two w B (W.drewN n) c g q m mq := h.below (Below.drewN (Below.refl _ W) n)
theorem Two.first (h : Two w B W c g q m mq) {m' : Pl} {W' : World} (hn : Next W c 0 g m' W') : ∃ c', Two w B W' c' g q m' mq := by
  obtain ⟨c', hcc, hnew, hl, hch⟩ := hn
  obtain ⟨_, ⟨hq1, hq2, hq3⟩, hf, hb, hs⟩ := h
  refine ⟨c', hl, ⟨hq1.ch hch (fun b _ e => by rw [e]; decide) hcc, hq2, fun b hb' => ?_⟩, fun b hb' => by rw [hcc b (by omega)]; exact hf b hb', hb.trans (hch.below hs fun b hb' e => (hf b hb').1 e), Nat.le_trans hs hch.size⟩
  rcases hnew b (Nat.le_trans hch.size hb') with e | e <;> rw [e] <;> decide
theorem Two.second (h : Two w B W c g q m mq) {m' : Pl} {W' : World} (hn : Next W c 2 q m' W') : ∃ c', Two w B W' c' g q m m' := by
  obtain ⟨c', hcc, hnew, hl, hch⟩ := hn
  obtain ⟨⟨hq1, hq2, hq3⟩, _, hf, hb, hs⟩ := h
  refine ⟨c', ⟨hq1.ch hch (fun b _ e => by rw [e]; decide) hcc, hq2, fun b hb' => ?_⟩, hl, fun b hb' => by rw [hcc b (by omega)]; exact hf b hb', hb.trans (hch.below hs fun b hb' e => (hf b hb').2 e), Nat.le_trans hs hch.size⟩
  rcases hnew b (Nat.le_trans hch.size hb') with e | e <;> rw [e] <;> decide
/-- .. the second made of the first -/
theorem two_clone (hs : St w B W c g m) (hst : m.steps < 1099511627775) : Calls Try.prog 12 #[ptr g] W fun e w' => ∃ q c', e = .returned (ptr q) ∧ Two w B w' c' g q m m := by
  obtain ⟨c2, hc2⟩ : ∃ c2 : Nat → Colour, c2 = fun b => if (c b).1 = 0 then c b else (1, 0) := ⟨_, rfl⟩
  have h0 : ∀ b, (c b).1 = 0 → c2 b = c b := fun b hb => by rw [hc2]; simp [hb]
  have h1 : ∀ b, (c b).1 ≠ 0 → c2 b = (1, 0) := fun b hb => by rw [hc2]; simp [hb]
  obtain ⟨⟨hp1, hp2, hp3⟩, hf, hb, hsz⟩ := hs
  have hl : Live W c2 0 g m := ⟨hp1.kept (Nat.le_refl _) fun b _ ht => ⟨rfl, h0 b ht⟩, hp2, fun b hb' => by rw [h1 b (hp3 b hb')]; decide⟩
  refine (hl.clone hst 2).mono fun e w' ⟨q, c', he, _, hcc, hnew, hlq, hbw⟩ => ⟨q, c', he, ⟨?_, hp2, fun b hb' => ?_⟩, hlq, fun b hb' => ?_, hb.trans (hbw.mono hsz), Nat.le_trans hsz hbw.size⟩
  · exact hl.1.kept hbw.size fun b hlt _ => ⟨hbw.block b hlt, hcc b hlt⟩
  · rcases hnew b (Nat.le_trans hbw.size hb') with e | e <;> rw [e] <;> decide
  · rw [hcc b (by omega), h1 b (hf b hb')]
    decide
theorem keepIn_one (hw : Row W q 3 [.int .i64 1]) (t : Nat) (hc : (c q).1 ≠ t) : KeepIn W c t (.slice (some ⟨q, 0, none⟩) 1 1) [1] := by
  refine ⟨_, 1, rfl, by simp, by simp, Or.inr ⟨q, 0, rfl, hc, hw.lt, fun j hj => ?_⟩⟩
  have hj0 : j = 0 := by simp at hj; omega
  subst hj0
  exact hw.at 0 _ rfl
end
end Go.Proofs.Yteacjeihliajpaa

/- The calls of the law PlantKeeps. -/
import Derived.Test.YteacjeihliajpaaKeeps
namespace Go.Proofs.Yteacjeihliajpaa
open Go.RowKit Go.Maps

/-- the plant in the first loop: n bytes of l are written -/
def FirstTo (w : World) (B g : Nat) (l : List Nat) (W : World) (n : Nat) : Prop := ∃ c m, St w B W c g m ∧ DiskIs m ∧ m.steps = n ∧ ∀ s, s < 16 → m.rd 0 s = ones ((olds l n).getD s 0)
/-- .. in the second: n bytes of t are, beside the slice of the old ones at block ob -/
def ThenTo (w : World) (B g ob : Nat) (o t : List Nat) (S : Nat) (W : World) (n : Nat) : Prop := ∃ c m, St w B W c g m ∧ ThenIs m o t n ∧ m.steps = S + n ∧ Out W c ob o
/-- .. behind the boots: two plants -/
def PairIn (w : World) (B g q ob : Nat) (o : List Nat) (S : Nat) (gp : Nat → Nat) (W : World) : Prop := ∃ c m mq, Two w B W c g q m mq ∧ Reads m S gp ∧ Reads mq S (fun s => o.getD s 0) ∧ Row W ob 5 (bcells o)
section
variable {w W : World} {B g q ob : Nat} {l o t : List Nat} {S n : Nat} {gp : Nat → Nat}
theorem FirstTo.below {W' : World} (h : FirstTo w B g l W n) (hb : Below W.heap.size W W') : FirstTo w B g l W' n := by
  obtain ⟨c, m, h1, h2⟩ := h
  exact ⟨c, m, h1.below hb, h2⟩
theorem FirstTo.low (h : FirstTo w B g l W n) : Below B w W := by
  obtain ⟨c, m, h1, h2⟩ := h
  exact h1.2.2.1
theorem ThenTo.below {W' : World} (h : ThenTo w B g ob o t S W n) (hb : Below W.heap.size W W') : ThenTo w B g ob o t S W' n := by
  obtain ⟨c, m, h1, h2, h3, h4⟩ := h
  exact ⟨c, m, h1.below hb, h2, h3, h4.below hb⟩
theorem ThenTo.low (h : ThenTo w B g ob o t S W n) : Below B w W := by
  obtain ⟨c, m, h1, h2⟩ := h
  exact h1.2.2.1
theorem PairIn.below {W' : World} (h : PairIn w B g q ob o S gp W) (hb : Below W.heap.size W W') : PairIn w B g q ob o S gp W' := by
  obtain ⟨c, m, mq, h1, h2, h3, h4⟩ := h
  exact ⟨c, m, mq, h1.below hb, h2, h3, h4.later hb h4.lt⟩
theorem PairIn.drewN (h : PairIn w B g q ob o S gp W) (n : Nat) : PairIn w B g q ob o S gp (W.drewN n) := h.below (Below.drewN (Below.refl _ W) n)
theorem PairIn.low (h : PairIn w B g q ob o S gp W) : Below B w W := by
  obtain ⟨c, m, mq, h1, _⟩ := h
  exact h1.2.2.2.1
theorem first_new : DiskIs (newPl [16] []) ∧ (newPl [16] []).steps = 0 ∧ ∀ s, s < 16 → (newPl [16] []).rd 0 s = ones ((olds l 0).getD s 0) := by
  refine ⟨⟨newPl_wf _ _ (by decide), rfl, rfl, rfl⟩, rfl, fun s hs => ?_⟩
  have e : (newPl [16] []).rd 0 s = (List.replicate 16 zeros).getD s zeros := rfl
  have g1 : (List.replicate 16 zeros).getD s zeros = zeros := by rw [List.getD_eq_getElem?_getD, List.getElem?_replicate, if_pos hs]; rfl
  have g2 : (olds l 0).getD s 0 = 0 := by
    show (List.replicate 16 0).getD s 0 = 0
    rw [List.getD_eq_getElem?_getD, List.getElem?_replicate, if_pos hs]
    rfl
  rw [e, g1, g2]
  rfl
theorem first_write (h : FirstTo w B g l W n) (hn : n < 1048577) (b : Nat) (hb : W.heap.size ≤ b) {W1 : World} (hbl : Below W.heap.size W W1) (hr : Row W1 b 5 (bcells (ones (l.getD n 0)))) (hx : l.getD n 0 < 256) :
    Calls Try.prog 16 #[ptr g, .int .i64 0, .int .i64 ((n % 16 : Nat) : Int), .slice (some ⟨b, 0, none⟩) 64 64] W1 fun e w' => e = .returned (.int .i64 0) ∧ FirstTo w B g l w' (n + 1) := by
  obtain ⟨c, m, hs, hd, hst, hrd⟩ := h
  have ho := hs.out hb hr
  have hs1 := hs.below hbl
  obtain ⟨e0, hd'⟩ := hd.write (n % 16) (l.getD n 0) (by omega) hx
  refine (hs1.1.write (by omega) 0 _ _ _ (ho.slice (ones_sec _ hx))).mono fun e w' ⟨he, hn'⟩ => ?_
  rw [e0] at he hn'
  obtain ⟨c', h1, _, _⟩ := hs1.next hn'
  refine ⟨he, c', _, h1, hd', ?_, fun s hs' => ?_⟩
  · show m.step.steps = _
    rw [hd.step_is, ← hst]
  · rw [rd_wait, rd_step]
    show _ = ones (((olds l n).set (n % 16) (l.getD n 0)).getD s 0)
    by_cases e : n % 16 = s
    · rw [if_pos e, e]
      simp [List.getD_eq_getElem?_getD, olds_length, hs']
    · rw [if_neg e, hrd s hs']
      simp [List.getD_eq_getElem?_getD, List.getElem?_set_ne e]
theorem first_flush (h : FirstTo w B g l W n) (hn : n < 1048577) (t : List Nat) : Calls Try.prog 21 #[ptr g, .int .i64 0] W fun e w' => e = .returned (.int .i64 0) ∧ ∃ c m, St w B w' c g m ∧ ThenIs m (olds l n) t 0 ∧ m.steps = n + 1 := by
  obtain ⟨c, m, hs, hd, hst, hrd⟩ := h
  obtain ⟨e0, hd', hw, hf⟩ := hd.flush
  refine (hs.1.flush (by omega) 0).mono fun e w' ⟨he, hn'⟩ => ?_
  rw [e0] at he hn'
  obtain ⟨c', h1, _, _⟩ := hs.next hn'
  refine ⟨he, c', _, h1, ⟨hd', fun s hs' => by rw [hf s hs', hrd s hs'], by rw [hw]; rfl, fun i x hx => by rw [hw] at hx; simp at hx⟩, ?_⟩
  show m.step.steps = _
  rw [hd.step_is, ← hst]
theorem then_write (h : ThenTo w B g ob o t S W n) (hn : S + n < 10000000) (b : Nat) (hb : W.heap.size ≤ b) {W1 : World} (hbl : Below W.heap.size W W1) (hr : Row W1 b 5 (bcells (ones (t.getD n 0)))) (hx : t.getD n 0 < 256) :
    Calls Try.prog 16 #[ptr g, .int .i64 0, .int .i64 ((3 * n % 16 : Nat) : Int), .slice (some ⟨b, 0, none⟩) 64 64] W1 fun e w' => e = .returned (.int .i64 0) ∧ ThenTo w B g ob o t S w' (n + 1) := by
  obtain ⟨c, m, hs, hd, hst, hob⟩ := h
  have ho := hs.out hb hr
  have hs1 := hs.below hbl
  obtain ⟨e0, hd', hst'⟩ := hd.write hx
  refine (hs1.1.write (by omega) 0 _ _ _ (ho.slice (ones_sec _ hx))).mono fun e w' ⟨he, hn'⟩ => ?_
  rw [e0] at he
  obtain ⟨c', h1, hcc, hch⟩ := hs1.next hn'
  exact ⟨he, c', _, h1, hd', by omega, (hob.below hbl).next hcc hch⟩
/-- two plants, and the old bytes beside them -/
def PairTo (w : World) (B g q ob : Nat) (o : List Nat) (W : World) (m mq : Pl) : Prop := ∃ c, Two w B W c g q m mq ∧ Row W ob 5 (bcells o) ∧ (c ob).1 ≠ 0 ∧ (c ob).1 ≠ 2
theorem then_clone (h : ThenTo w B g ob o t S W n) (hn : S + n < 10000000) : Calls Try.prog 12 #[ptr g] W fun e w' => ∃ q m, e = .returned (ptr q) ∧ ThenIs m o t n ∧ m.steps = S + n ∧ PairTo w B g q ob o w' m m := by
  obtain ⟨c, m, hs, hd, hst, hob⟩ := h
  obtain ⟨c2, hc2⟩ : ∃ c2 : Nat → Colour, c2 = fun b => if (c b).1 = 0 then c b else (1, 0) := ⟨_, rfl⟩
  have h0 : ∀ b, (c b).1 = 0 → c2 b = c b := fun b hb => by rw [hc2]; simp [hb]
  have h1 : ∀ b, (c b).1 ≠ 0 → c2 b = (1, 0) := fun b hb => by rw [hc2]; simp [hb]
  obtain ⟨⟨hp1, hp2, hp3⟩, hf, hb, hsz⟩ := hs
  have hl : Live W c2 0 g m := ⟨hp1.kept (Nat.le_refl _) fun b _ ht => ⟨rfl, h0 b ht⟩, hp2, fun b hb' => by rw [h1 b (hp3 b hb')]; decide⟩
  refine (hl.clone (by omega) 2).mono fun e w' ⟨q, c', he, _, hcc, hnew, hlq, hbw⟩ => ⟨q, m, he, hd, hst, c', ⟨⟨?_, hp2, fun b hb' => ?_⟩, hlq, fun b hb' => ?_, hb.trans (hbw.mono hsz), Nat.le_trans hsz hbw.size⟩, hob.1.later hbw hob.1.lt, ?_⟩
  · exact hl.1.kept hbw.size fun b hlt _ => ⟨hbw.block b hlt, hcc b hlt⟩
  · rcases hnew b (Nat.le_trans hbw.size hb') with e | e <;> rw [e] <;> decide
  · rw [hcc b (by omega), h1 b (hf b hb')]
    decide
  · rw [hcc ob hob.1.lt, h1 ob hob.2]
    decide
theorem pair_bootP {m mq : Pl} (h : PairTo w B g q ob o W m mq) (hst : m.steps < 10000000) (kv : Value) (ks : List Int) (hk : IntsIn w kv ks) (hB : B = w.heap.size) :
    Calls Try.prog 25 #[ptr g, kv] W fun e w' => e = .returned noResult ∧ PairTo w B g q ob o w' (m.boot ks) mq := by
  obtain ⟨c, h2, hr, hc0, hc2⟩ := h
  have hkeep : KeepIn W c 0 kv ks := by
    obtain ⟨p, cp, rfl, k1, k2, k3⟩ := hk
    refine ⟨p, cp, rfl, k1, k2, ?_⟩
    rcases k3 with k3 | ⟨b, off, rfl, k3⟩
    · exact Or.inl k3
    · by_cases k0 : ks = []
      · exact Or.inl k0
      · have hbl : b < w.heap.size := block_lt_of_cell (k3 0 (List.length_pos_iff.2 k0))
        have hbW := h2.2.2.2.1.size
        exact Or.inr ⟨b, off, rfl, (h2.2.2.1 b (by omega)).1, by omega, fun j hj => cell_later (by rw [← hB]; exact h2.2.2.2.1) (k3 j hj)⟩
  refine (h2.1.boot (by omega) kv ks hkeep).mono fun e w' ⟨he, hn⟩ => ⟨he, ?_⟩
  obtain ⟨c', hcc, hnew, hl, hch⟩ := hn
  obtain ⟨_, ⟨hq1, hq2, hq3⟩, hf, hb, hs⟩ := h2
  refine ⟨c', ⟨hl, ⟨hq1.ch hch (fun b _ e => by rw [e]; decide) hcc, hq2, fun b hb' => ?_⟩, fun b hb' => by rw [hcc b (by omega)]; exact hf b hb', hb.trans (hch.below hs fun b hb' e => (hf b hb').1 e), Nat.le_trans hs hch.size⟩, hch.row hc0 hr, by rw [hcc ob hr.lt]; exact ⟨hc0, hc2⟩⟩
  rcases hnew b (Nat.le_trans hch.size hb') with e | e <;> rw [e] <;> decide
theorem keepIn_one' {c : Nat → Colour} (x : Int) (hw : Row W q 3 [.int .i64 x]) (t : Nat) (hc : (c q).1 ≠ t) : KeepIn W c t (.slice (some ⟨q, 0, none⟩) 1 1) [x] := by
  refine ⟨_, 1, rfl, by simp, by simp, Or.inr ⟨q, 0, rfl, hc, hw.lt, fun j hj => ?_⟩⟩
  have hj0 : j = 0 := by simp at hj; omega
  subst hj0
  exact hw.at 0 _ rfl
theorem pair_bootQ {m mq : Pl} (h : PairTo w B g q ob o W m mq) (hst : mq.steps < 10000000) {W1 : World} (hbw : Below W.heap.size W W1) (hrw : Row W1 W.heap.size 3 [.int .i64 0]) :
    Calls Try.prog 25 #[ptr q, .slice (some ⟨W.heap.size, 0, none⟩) 1 1] W1 fun e w' => e = .returned noResult ∧ ∃ c, Two w B w' c g q m (mq.boot [0]) ∧ Row w' ob 5 (bcells o) := by
  obtain ⟨c, h2, hr, hc0, hc2⟩ := h
  have h1 := h2.below hbw
  have hr1 := hr.later hbw hr.lt
  refine (h1.2.1.boot (by omega) _ [0] (keepIn_one' 0 hrw 2 (h2.2.1.2.2 _ (Nat.le_refl _)))).mono fun e w' ⟨he, hn⟩ => ⟨he, ?_⟩
  obtain ⟨c', h3⟩ := h1.second hn
  obtain ⟨_, _, _, _, hch⟩ := hn
  exact ⟨c', h3, hch.row hc2 hr1⟩
theorem pair_of {m : Pl} (hd : ThenIs m o t n) (hst : m.steps = S) (ks : List Int) {c : Nat → Colour} (h : Two w B W c g q (m.boot ks) (m.boot [0])) (hr : Row W ob 5 (bcells o)) : ∃ gp, PairIn w B g q ob o S gp W ∧ ∀ s, s < 16 → gp s = o.getD s 0 ∨ ∃ i, i < n ∧ 3 * i % 16 = s ∧ gp s = t.getD i 0 := by
  obtain ⟨gp, h1, h2⟩ := hd.bootP ks
  have h3 := hd.bootQ
  rw [hst] at h1 h3
  exact ⟨gp, ⟨c, _, _, h, h1, h3, hr⟩, h2⟩
theorem pair_readP (h : PairIn w B g q ob o S gp W) (hS : S < 10000000) (j : Nat) (hj : j < 16) : Calls Try.prog 20 #[ptr g, .int .i64 0, .int .i64 (j : Int)] W fun e w' => ∃ b, e = .returned (.tuple #[.slice (some ⟨b, 0, none⟩) 64 64, .int .i64 0]) ∧ Row w' b 5 (bcells (ones (gp j))) ∧ PairIn w B g q ob o S gp w' := by
  have h' := h
  obtain ⟨c, m, mq, h1, h2, h3, h4⟩ := h'
  have hr := h1.1.read (by have := h2.steps; omega) h2.on 0 j (by rw [h2.n]; decide) (by rw [h2.len]; exact hj)
  rw [h2.rd j hj] at hr
  exact hr.mono fun e w' ⟨b, he, _, hr, hb⟩ => ⟨b, he, hr, h.below hb⟩
theorem pair_readQ (h : PairIn w B g q ob o S gp W) (hS : S < 10000000) (j : Nat) (hj : j < 16) (b0 : Nat) (s0 : List Nat) (hr0 : Row W b0 5 (bcells s0)) : Calls Try.prog 20 #[ptr q, .int .i64 0, .int .i64 (j : Int)] W fun e w' => ∃ b, e = .returned (.tuple #[.slice (some ⟨b, 0, none⟩) 64 64, .int .i64 0]) ∧ Row w' b 5 (bcells (ones (o.getD j 0))) ∧ Row w' b0 5 (bcells s0) ∧ PairIn w B g q ob o S gp w' := by
  have h' := h
  obtain ⟨c, m, mq, h1, h2, h3, h4⟩ := h'
  have hr := h1.2.1.read (by have := h3.steps; omega) h3.on 0 j (by rw [h3.n]; decide) (by rw [h3.len]; exact hj)
  rw [h3.rd j hj] at hr
  exact hr.mono fun e w' ⟨b, he, _, hr, hb⟩ => ⟨b, he, hr, hr0.later hb hr0.lt, h.below hb⟩
theorem ones_same {x b b0 : Nat} (hx : x < 256) (h0 : Row W b0 5 (bcells (ones x))) (h1 : Row W b 5 (bcells (ones x))) : Calls Try.prog 33 #[.slice (some ⟨b0, 0, none⟩) 64 64, .slice (some ⟨b, 0, none⟩) 64 64] W fun e w' => e = .returned (.bool true) ∧ W = w' := by
  have v0 : SliceIn W (.slice (some ⟨b0, 0, none⟩) 64 64) (ones x) := Out.slice (c := fun _ => (1, 0)) ⟨h0, by simp⟩ (ones_sec x hx)
  have v1 : SliceIn W (.slice (some ⟨b, 0, none⟩) 64 64) (ones x) := Out.slice (c := fun _ => (1, 0)) ⟨h1, by simp⟩ (ones_sec x hx)
  exact (same_any W _ _ _ _ v0 v1).mono fun e w' ⟨he, hw⟩ => ⟨by rw [he]; simp, hw.symm⟩
theorem first_of {c : Nat → Colour} (hs : St w B W c g (newPl [16] [])) : FirstTo w B g l W 0 := ⟨c, _, hs, first_new⟩
theorem then_of {c : Nat → Colour} {m : Pl} (hs : St w B W c g m) (ht : ThenIs m o t 0) (hst : m.steps = S) {W1 : World} (hb : Below W.heap.size W W1) (hob : W.heap.size ≤ ob) (hr : Row W1 ob 5 (bcells o)) : ThenTo w B g ob o t S W1 0 :=
  ⟨c, m, hs.below hb, ht, by omega, hs.out hob hr⟩
end
end Go.Proofs.Yteacjeihliajpaa

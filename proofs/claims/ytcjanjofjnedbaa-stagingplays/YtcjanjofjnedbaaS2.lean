/- Sessions: plain, and as they lie in memory. -/
import Derived.Test.YtcjanjofjnedbaaS1
namespace Go.Proofs.Ytcjanjofjnedbaa
open Go.RowKit Go.Maps Go.MapKept

/-- a session: its number, where its bytes lie, its bytes -/
structure En where
  no : Nat
  a : Sv
  bs : List Nat
def look (l : List En) (p : Int) : Option En := l.find? (fun x => decide ((x.no : Int) = p))
theorem look_some {l : List En} {p : Int} {x : En} (h : look l p = some x) : x ∈ l ∧ (x.no : Int) = p := ⟨List.mem_of_find?_eq_some h, by simpa using List.find?_some h⟩
theorem look_none {l : List En} {p : Int} (h : look l p = none) : ∀ x ∈ l, (x.no : Int) ≠ p := by
  intro x hx
  simpa using List.find?_eq_none.1 h x hx
theorem look_map (l : List En) (g : En → En) (hg : ∀ x, (g x).no = x.no) (p : Int) : look (l.map g) p = (look l p).map g := by
  unfold look
  rw [List.find?_map]
  congr 2
  funext x
  simp [hg]
theorem look_filter (l : List En) (p q : Int) : look (l.filter fun x => decide ((x.no : Int) ≠ p)) q = if q = p then none else look l q := by
  unfold look
  induction l with
  | nil => simp
  | cons x l ih =>
    by_cases hx : (x.no : Int) = p
    · rw [List.filter_cons_of_neg (by simp [hx]), ih]
      split
      · rfl
      · rename_i hq
        rw [List.find?_cons_of_neg (by simp [hx]; exact fun e => hq e.symm)]
    · rw [List.filter_cons_of_pos (by simp [hx])]
      by_cases hq : (x.no : Int) = q
      · rw [List.find?_cons_of_pos (by simp [hq]), List.find?_cons_of_pos (by simp [hq]), if_neg (by rw [← hq]; exact hx)]
      · rw [List.find?_cons_of_neg (by simp [hq]), List.find?_cons_of_neg (by simp [hq]), ih]
theorem look_snoc (l : List En) (e : En) (h : ∀ x ∈ l, x.no < e.no) (q : Int) : look (l ++ [e]) q = if q = (e.no : Int) then some e else look l q := by
  unfold look
  rw [List.find?_append]
  by_cases hq : q = (e.no : Int)
  · rw [if_pos hq, List.find?_eq_none.2 (by intro x hx; have := h x hx; simp; omega)]
    simp [hq]
  · rw [if_neg hq]
    have : ¬ (e.no : Int) = q := fun x => hq x.symm
    cases hl : List.find? (fun x => decide ((x.no : Int) = q)) l <;> simp [this]
/-- all bytes together -/
def total (l : List En) : Nat := (l.map fun x => x.bs.length).sum
def Apart (x y : En) : Prop := x.no < y.no ∧ ∀ k, svB x.a = some k → svB y.a ≠ some k
/-- what a caller sees -/
def ssOf (l : List En) : List (Nat × List Nat) := l.map fun x => (x.no, x.bs)

/-- a stage at block g: its sessions l, the next number; all of it within F -/
structure StAt (w : World) (F : Nat → Prop) (g nx : Nat) (l : List En) : Prop where
  top : ∃ b, Row w g 47 [.map (some b), .int .i64 (nx : Nat)] ∧ MapI w b l.length (fun p => (look l p).map (·.a)) ∧ F g ∧ F b
  own : ∀ x ∈ l, BOwn w 0 (svV x.a) x.bs ∧ (∀ k, svB x.a = some k → F k) ∧ (∀ c ∈ x.bs, c < 256) ∧ x.bs.length ≤ 512
  ord : l.Pairwise Apart
  lt : ∀ x ∈ l, x.no < nx
  low : ∀ k, F k → k < w.heap.size
  eight : l.length ≤ 8
  all : total l ≤ 2048
/-- what a call may turn, and what it may take -/
structure Tn (F F' : Nat → Prop) (w w' : World) : Prop where
  ch : Ch F w w'
  ext : ∀ k, F' k → F k ∨ w.heap.size ≤ k
theorem Tn.refl (F : Nat → Prop) (w : World) : Tn F F w w := ⟨Ch.refl F w, fun _ h => Or.inl h⟩
theorem StAt.keep {w w' : World} {F : Nat → Prop} {g nx : Nat} {l : List En} (h : StAt w F g nx l) (hs : w.heap.size ≤ w'.heap.size) (hk : ∀ k, F k → w'.heap[k]? = w.heap[k]?) : StAt w' F g nx l := by
  obtain ⟨b, h1, h2, h3, h4⟩ := h.top
  exact ⟨⟨b, by unfold Row at *; rw [hk g h3]; exact h1, h2.kept (hk b h4), h3, h4⟩, fun x hx => ⟨ownK (h.own x hx).1 fun k e => hk k ((h.own x hx).2.1 k (by rw [← svV_block]; exact e)), (h.own x hx).2⟩, h.ord, h.lt, fun k e => Nat.lt_of_lt_of_le (h.low k e) hs, h.eight, h.all⟩
theorem StAt.ch {w w' : World} {F S : Nat → Prop} {g nx : Nat} {l : List En} (h : StAt w F g nx l) (hc : Ch S w w') (hd : ∀ k, S k → ¬ F k) : StAt w' F g nx l :=
  h.keep hc.size fun k hk => hc.block k (h.low k hk) fun e => hd k e hk
theorem StAt.later {w w' : World} {F : Nat → Prop} {g nx : Nat} {l : List En} (h : StAt w F g nx l) (hb : Below w.heap.size w w') : StAt w' F g nx l :=
  h.keep hb.size fun k hk => hb.block k (h.low k hk)
theorem Sv.of {w : World} {base : Nat} {v : Value} {cs : List Nat} (h : BOwn w base v cs) : ∃ s, v = svV s := by
  rcases h.2 with ⟨rfl, h0⟩ | ⟨g, cap, cur, rfl, _⟩
  · exact ⟨none, rfl⟩
  · exact ⟨some (g, cs.length, cap), rfl⟩
theorem look_total {l : List En} {p : Int} {x : En} (h : look l p = some x) : x.bs.length ≤ total l := by
  have hm := (look_some h).1
  unfold total
  clear h
  induction l with
  | nil => cases hm
  | cons y l ih =>
    rw [List.map_cons, List.sum_cons]
    rcases List.mem_cons.1 hm with rfl | hm
    · omega
    · have := ih hm
      omega
/-- one session's bytes replaced -/
def upd (p : Int) (a : Sv) (b : List Nat) (x : En) : En := if (x.no : Int) = p then ⟨x.no, a, x.bs ++ b⟩ else x
theorem upd_no (p : Int) (a : Sv) (b : List Nat) (x : En) : (upd p a b x).no = x.no := by unfold upd; split <;> rfl
theorem ord_lt {l : List En} (h : l.Pairwise Apart) : l.Pairwise (fun x y => x.no < y.no) := h.imp fun h => h.1
theorem total_upd {l : List En} {p : Int} {a : Sv} {b : List Nat} {x : En} (ho : l.Pairwise (fun x y => x.no < y.no)) (h : look l p = some x) : total (l.map (upd p a b)) = total l + b.length := by
  unfold total
  induction l with
  | nil => cases h
  | cons y l ih =>
    rw [List.map_cons, List.map_cons, List.sum_cons, List.map_cons, List.sum_cons]
    rw [List.pairwise_cons] at ho
    by_cases hy : (y.no : Int) = p
    · have e : l.map (upd p a b) = l := by
        rw [List.map_congr_left (g := id), List.map_id]
        intro z hz
        have := ho.1 z hz
        unfold upd
        rw [if_neg (by omega)]
        rfl
      rw [e]
      unfold upd
      rw [if_pos hy]
      simp
      omega
    · have h' : look l p = some x := by
        unfold look at h
        rw [List.find?_cons_of_neg (by simpa using hy)] at h
        exact h
      rw [ih ho.2 h']
      unfold upd
      rw [if_neg hy]
      omega
theorem length_drop_one {l : List En} {p : Int} {x : En} (ho : l.Pairwise (fun x y => x.no < y.no)) (h : look l p = some x) : (l.filter fun x => decide ((x.no : Int) ≠ p)).length = l.length - 1 := by
  induction l with
  | nil => cases h
  | cons y l ih =>
    rw [List.pairwise_cons] at ho
    by_cases hy : (y.no : Int) = p
    · rw [List.filter_cons_of_neg (by simp [hy])]
      rw [List.filter_eq_self.2 (by intro z hz; have := ho.1 z hz; simp; omega)]
      simp
    · have h' : look l p = some x := by
        unfold look at h
        rw [List.find?_cons_of_neg (by simpa using hy)] at h
        exact h
      have hl : 0 < l.length := by
        cases l with
        | nil => cases h'
        | cons => simp
      rw [List.filter_cons_of_pos (by simp [hy]), List.length_cons, ih ho.2 h', List.length_cons]
      omega
theorem total_filter (l : List En) (f : En → Bool) : total (l.filter f) ≤ total l := by
  unfold total
  induction l with
  | nil => exact Nat.le_refl _
  | cons y l ih =>
    rw [List.filter_cons]
    split <;> simp only [List.map_cons, List.sum_cons] <;> omega
theorem total_snoc (l : List En) (e : En) : total (l ++ [e]) = total l + e.bs.length := by simp [total]
theorem ssOf_upd (l : List En) (p : Int) (a : Sv) (b : List Nat) : ssOf (l.map (upd p a b)) = (ssOf l).map (fun x => if (x.1 : Int) = p then (x.1, x.2 ++ b) else x) := by
  unfold ssOf
  rw [List.map_map, List.map_map]
  apply List.map_congr_left
  intro x _
  simp only [Function.comp, upd]
  split <;> rfl
theorem ssOf_filter (l : List En) (p : Int) : ssOf (l.filter fun x => decide ((x.no : Int) ≠ p)) = (ssOf l).filter (fun x => decide ((x.1 : Int) ≠ p)) := by
  unfold ssOf
  rw [List.filter_map]
  rfl
/-- what has come up of all bytes, while the map is walked -/
def sumL (left : Lit → Bool) (l : List En) : Nat := ((l.filter fun x => left (keyI (x.no : Int))).map fun x => x.bs.length).sum
theorem sumL_all (left : Lit → Bool) (l : List En) (h : ∀ x ∈ l, left (keyI (x.no : Int)) = true) : sumL left l = total l := by
  unfold sumL total
  rw [List.filter_eq_self.2 h]
theorem sumL_none (left : Lit → Bool) (l : List En) (h : ∀ kl, left kl = false) : sumL left l = 0 := by
  unfold sumL
  rw [List.filter_eq_nil_iff.2 (by intro x _; simp [h])]
  rfl
theorem sumL_le (left : Lit → Bool) (l : List En) : sumL left l ≤ total l := total_filter l _
theorem sameKeyI (p q : Int) : (keyI p).sameKey (keyI q) = decide (p = q) := by
  by_cases h : p = q
  · subst h
    rw [WideAt.sameKey_self (isKey_I p)]
    simp
  · rw [sameKey_ne (keyI_ne h)]
    simp [h]
theorem sumL_step (left : Lit → Bool) {l : List En} {p : Int} {x : En} (ho : l.Pairwise (fun x y => x.no < y.no)) (h : look l p = some x) (hl : left (keyI p) = true) : sumL (fun z => left z && !z.sameKey (keyI p)) l + x.bs.length = sumL left l := by
  unfold sumL
  induction l with
  | nil => cases h
  | cons y l ih =>
    rw [List.pairwise_cons] at ho
    by_cases hy : (y.no : Int) = p
    · have hx : x = y := by
        unfold look at h
        rw [List.find?_cons_of_pos (by simpa using hy)] at h
        exact (Option.some.inj h).symm
      subst hx
      rw [List.filter_cons_of_neg (by dsimp only; rw [sameKeyI]; simp [hy]), List.filter_cons_of_pos (by rw [hy]; exact hl)]
      rw [List.filter_congr (q := fun x => left (keyI (x.no : Int))) (by
        intro z hz
        have := ho.1 z hz
        dsimp only
        rw [sameKeyI]
        have : ¬ (z.no : Int) = p := by omega
        simp [this])]
      simp
      omega
    · have h' : look l p = some x := by
        unfold look at h
        rw [List.find?_cons_of_neg (by simpa using hy)] at h
        exact h
      have := ih ho.2 h'
      by_cases hyl : left (keyI (y.no : Int)) = true
      · rw [List.filter_cons_of_pos (by dsimp only; rw [sameKeyI]; simp [hy, hyl]), List.filter_cons_of_pos (by exact hyl)]
        simp only [List.map_cons, List.sum_cons]
        dsimp only at this ⊢
        rw [Nat.add_assoc, this]
      · rw [List.filter_cons_of_neg (by simp [hyl]), List.filter_cons_of_neg (by simpa using hyl)]
        exact this
end Go.Proofs.Ytcjanjofjnedbaa

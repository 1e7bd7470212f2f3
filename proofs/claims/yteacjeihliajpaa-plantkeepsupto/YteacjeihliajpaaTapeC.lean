/- The calls that the law PlantTapes makes. -/
import Derived.Test.YteacjeihliajpaaTape
namespace Go.Proofs.Yteacjeihliajpaa
open Go.RowKit Go.Maps

section
variable {w W : World} {B g : Nat} {c : Nat → Colour} {m : Pl} {A Bl : List Nat}
theorem tape_flush (h : St w B W c g m) (ht : TapeIs m A Bl) (hst : m.steps < 100000) :
    Calls Try.prog 21 #[ptr g, .int .i64 1] W fun e w' => e = .returned (.int .i64 0) ∧ ∃ c' m', St w B w' c' g m' ∧ TapeIs m' (A ++ Bl) [] ∧ m'.steps = m.steps + 1 := by
  obtain ⟨h1, h2, h3⟩ := ht.flush
  have := h.1.flush (by omega) 1
  rw [h1] at this
  refine this.mono fun e w' he => ⟨he.1, ?_⟩
  obtain ⟨c', hs, _⟩ := h.next he.2
  exact ⟨c', _, hs, h2, h3⟩
theorem tape_append (h : St w B W c g m) (ht : TapeIs m A Bl) (hst : m.steps < 100000) (b x : Nat) (hx : x < 256) (hb : Out W c b (ones x)) (hl : A.length + Bl.length < 40) (L : Nat) (hL : L = A.length + Bl.length) :
    Calls Try.prog 18 #[ptr g, .int .i64 1, .slice (some ⟨b, 0, none⟩) 64 64] W fun e w' => e = .returned (.tuple #[.int .i64 (L : Int), .int .i64 0]) ∧ ∃ c' m', St w B w' c' g m' ∧ TapeIs m' A (Bl ++ [x]) ∧ m'.steps = m.steps + 1 := by
  obtain ⟨h1, h2, h3, h4⟩ := ht.append x hx hl
  have := h.1.append (by omega) 1 _ _ (hb.slice (ones_sec x hx))
  rw [h1, h2, ← hL] at this
  refine this.mono fun e w' he => ⟨he.1, ?_⟩
  obtain ⟨c', hs, _⟩ := h.next he.2
  exact ⟨c', _, hs, h3, h4⟩
/-- a tape behind a boot: what it has, and what of it is torn -/
structure Booted (m : Pl) (bs : List Nat) (F n M : Nat) (G : List (List Nat)) : Prop where
  wf : m.WF
  sh : m.sh = [(false, 1), (true, 40)]
  on : m.on = true
  fuse : m.fuse = -1
  wts : m.wts = []
  steps : m.steps < 100000
  fl : m.fl 1 = G
  len : G.length = M
  low : F ≤ M
  high : M ≤ n
  what : ∀ i, i < M → G.getD i [] = ones (bs.getD i 0) ∨ (i + 1 = M ∧ F ≤ i ∧ G.getD i [] = torn (ones (bs.getD i 0)))
theorem take_split (bs : List Nat) (F n k : Nat) (hk : k ≤ n - F) : bs.take F ++ ((bs.take n).drop F).take k = bs.take (F + k) := by
  rw [List.drop_take, List.take_take, Nat.min_eq_left hk, List.take_add]
theorem booted (ht : TapeIs m A Bl) (ks : List Int) (bs : List Nat) (F n : Nat) (hst : m.steps < 100000) (hn : n ≤ bs.length) (hF : F ≤ n) (hA : A = bs.take F) (hBl : Bl = (bs.take n).drop F) : ∃ M G, Booted (m.boot ks) bs F n M G := by
  obtain ⟨h1, h2, h3, h4, h5, h6, k, hk, hG⟩ := ht.boot ks
  have hBll : Bl.length = n - F := by rw [hBl]; simp; omega
  have hsp : A ++ Bl.take k = bs.take (F + k) := by rw [hA, hBl]; exact take_split bs F n k (by omega)
  rw [hsp] at hG
  have hl : (bs.take (F + k)).length = F + k := by simp; omega
  have hat : ∀ i, i < F + k → ((bs.take (F + k)).map ones).getD i [] = ones (bs.getD i 0) := fun i hi => by
    have : i < bs.length := by omega
    simp [hi, this]
  rcases hG with hG | ⟨x, hx, hG⟩
  · exact ⟨F + k, _, ⟨h1, h2, h3, h4, h5, by omega, hG, by simpa using hl, by omega, by omega, fun i hi => Or.inl (hat i hi)⟩⟩
  · have hkl : k < Bl.length := (List.getElem?_eq_some_iff.1 hx).1
    have hxe : x = bs.getD (F + k) 0 := by
      rw [hBl] at hx
      have hlt : F + k < bs.length := by omega
      simp [List.getElem?_drop, show F + k < n by omega] at hx
      simp [hx]
    refine ⟨F + k + 1, _, ⟨h1, h2, h3, h4, h5, by omega, hG, by simp at hl ⊢; omega, by omega, by omega, fun i hi => ?_⟩⟩
    by_cases hi' : i < F + k
    · left
      have : ((bs.take (F + k)).map ones ++ [torn (ones x)]).getD i [] = ((bs.take (F + k)).map ones).getD i [] := by
        simp only [List.getD_eq_getElem?_getD]
        rw [List.getElem?_append_left (by simp at hl ⊢; omega)]
      rw [this]
      exact hat i hi'
    · have e : i = F + k := by omega
      right
      refine ⟨by omega, by omega, ?_⟩
      subst e
      simp only [List.getD_eq_getElem?_getD]
      rw [List.getElem?_append_right (by simp at hl ⊢; omega)]
      have : F + k - ((bs.take (F + k)).map ones).length = 0 := by simp at hl ⊢; omega
      rw [this, hxe]
      simp
variable {bs : List Nat} {F n M : Nat} {G : List (List Nat)}
theorem Booted.has (h : Booted m bs F n M G) : m.has 1 := by unfold Pl.has Pl.n; rw [h.sh]; decide
theorem Booted.mlen (h : Booted m bs F n M G) : m.len 1 = M := by
  have e : m.wt 1 = [] := by unfold Pl.wt; rw [h.wts]; rfl
  have ht : m.tape 1 = true := by unfold Pl.tape; rw [h.sh]; rfl
  unfold Pl.len
  rw [if_pos ht, h.fl, e]
  simpa using h.len
theorem Booted.rd (h : Booted m bs F n M G) (i : Nat) (hi : i < M) : m.rd 1 i = G.getD i [] := by
  have e : m.wt 1 = [] := by unfold Pl.wt; rw [h.wts]; rfl
  unfold Pl.rd
  rw [e, h.fl, lastAt_nil]
  have := h.len
  simp [show i < G.length by omega]
theorem tape_boot (h : St w B W c g m) (ht : TapeIs m A Bl) (hst : m.steps < 100000) (kv : Value) (ks : List Int) (hk : IntsIn w kv ks) (hB : B = w.heap.size) (hn : n ≤ bs.length) (hF : F ≤ n) (hA : A = bs.take F) (hBl : Bl = (bs.take n).drop F) :
    Calls Try.prog 25 #[ptr g, kv] W fun e w' => e = .returned noResult ∧ ∃ c' m' M G, St w B w' c' g m' ∧ Booted m' bs F n M G := by
  have hkeep : KeepIn W c 0 kv ks := by
    obtain ⟨p, cp, rfl, h1, h2, h3⟩ := hk
    refine ⟨p, cp, rfl, h1, h2, ?_⟩
    rcases h3 with h3 | ⟨b, off, rfl, h3⟩
    · exact Or.inl h3
    · by_cases h0 : ks = []
      · exact Or.inl h0
      · have hbl : b < w.heap.size := block_lt_of_cell (h3 0 (List.length_pos_iff.2 h0))
        have hbW := h.2.2.1.size
        exact Or.inr ⟨b, off, rfl, h.2.1 b (by omega), by omega, fun j hj => cell_later (by rw [← hB]; exact h.2.2.1) (h3 j hj)⟩
  obtain ⟨M, G, hb⟩ := booted ht ks bs F n hst hn hF hA hBl
  refine (h.1.boot (by omega) kv ks hkeep).mono fun e w' he => ⟨he.1, ?_⟩
  obtain ⟨c', hs, _⟩ := h.next he.2
  exact ⟨c', _, M, G, hs, hb⟩
theorem tape_len (h : St w B W c g m) (hb : Booted m bs F n M G) : Calls Try.prog 36 #[ptr g, .int .i64 1] W fun e w' => e = .returned (.tuple #[.int .i64 (M : Int), .int .i64 0]) ∧ ∃ k, w' = W.drewN k := by
  have := h.1.len (by have := hb.steps; omega) 1
  rw [if_pos hb.has, if_pos hb.has, show ((1 : Int)).toNat = 1 from rfl, hb.mlen] at this
  exact this
theorem tape_read (h : St w B W c g m) (hb : Booted m bs F n M G) (i : Nat) (hi : i < M) : Calls Try.prog 20 #[ptr g, .int .i64 1, .int .i64 (i : Int)] W fun e w' => ∃ b, e = .returned (.tuple #[.slice (some ⟨b, 0, none⟩) 64 64, .int .i64 0]) ∧ W.heap.size ≤ b ∧ Row w' b 5 (bcells (G.getD i [])) ∧ Below W.heap.size W w' := by
  have := h.1.read (by have := hb.steps; omega) hb.on 1 i (by unfold Pl.n; rw [hb.sh]; decide) (by rw [hb.mlen]; exact hi)
  rw [hb.rd i hi] at this
  exact this
theorem Booted.sec (h : Booted m bs F n M G) (hbs : ∀ x ∈ bs, x < 256) (i : Nat) (hi : i < M) : Sec (G.getD i []) := by
  have hx : bs.getD i 0 < 256 := by
    by_cases hh : i < bs.length
    · simpa [hh] using hbs _ (List.getElem_mem hh)
    · simp [hh]
  rcases h.what i hi with e | ⟨_, _, e⟩
  · rw [e]; exact ones_sec _ hx
  · rw [e]; exact torn_sec (ones_sec _ hx)
/-- the last append: the tape is full, or its number is told -/
theorem tape_last (h : St w B W c g m) (hb : Booted m bs F n M G) (b : Nat) (ho : Out W c b (ones 5)) : Calls Try.prog 18 #[ptr g, .int .i64 1, .slice (some ⟨b, 0, none⟩) 64 64] W fun e w' => e = .returned (.tuple #[.int .i64 (if 40 ≤ M then 0 else (M : Int)), .int .i64 (if 40 ≤ M then 3 else 0)]) ∧ Below B w w' := by
  have ht : m.tape 1 = true := by unfold Pl.tape; rw [hb.sh]; rfl
  have hs : m.size 1 = 40 := by unfold Pl.size; rw [hb.sh]; rfl
  have := h.1.append (by have := hb.steps; omega) 1 _ _ (ho.slice (ones_sec 5 (by decide)))
  refine this.mono fun e w' he => ⟨?_, ?_⟩
  · rw [he.1]
    unfold Pl.append
    rw [if_neg (by rw [hb.on]; decide), if_neg (by simp only [Classical.not_not]; exact ⟨hb.has, ht⟩), if_neg (by simp [ones]), show ((1 : Int)).toNat = 1 from rfl, hs, hb.mlen]
    by_cases h40 : 40 ≤ M
    · simp [h40]
    · rw [if_neg h40, if_neg (by rw [hb.fuse]; decide)]
      simp [h40]
  · obtain ⟨c', hst, _⟩ := h.next he.2
    exact hst.2.2.1
end
/-- append(x[:32], make([]byte, 32)...) of a sector that is the call's own -/
theorem run_appZeros (w : World) (q : Nat) (s : List Nat) (hs : s.length = 64) (hr : Row w q 5 (bcells s)) (ty : TypeId) : (Builtin.append_ #[40, 3] ty #[.slice (some ⟨q, 0, none⟩) 32 64, .int .i64 32]).run Try.prog w = .ok (.slice (some ⟨q, 0, none⟩) 64 64) (w.setRow q (bcells (torn s)).toArray) := by
  obtain ⟨i, hi, hsz⟩ := Option.map_eq_some_iff.1 info5
  obtain ⟨zs, hzs⟩ : ∃ zs, zs = List.replicate 32 (Value.int .u8 0) := ⟨_, rfl⟩
  have hst := run_storeCells_at (P := Try.prog) q 32 5 zs 0 (bcells s).toArray w hr (by rw [hzs]; simp [bcells_length, hs]) (fun v hv => by rw [hzs] at hv; rw [(List.mem_replicate.1 hv).2]; rfl)
  have e : splice (bcells s) 32 zs = bcells (torn s) := by
    rw [hzs]
    simp [splice, torn, bcells, hs]
  have hw : IntKind.i64.wrap 32 = 32 := by decide
  have hb : i.bytes = 1 := by
    have := Option.map_eq_some_iff.1 (show (Try.prog.info? 5).map (·.bytes) = some 1 by kernel_rfl)
    obtain ⟨j, hj, hjb⟩ := this
    rw [hi] at hj
    cases hj
    exact hjb
  have hc : Builtin.zeroCells #[Value.int .u8 0] 32 = zs.toArray := by rw [hzs]; kernel_rfl
  have hz' : i.zero = some (.int .u8 0) := by
    have := Option.map_eq_some_iff.1 (show (Try.prog.info? 5).map (·.zero) = some (some (Value.int .u8 0)) by kernel_rfl)
    obtain ⟨j, hj, hjb⟩ := this
    rw [hi] at hj
    cases hj
    exact hjb
  simp only [Nat.add_zero] at hst
  have e2 : (splice (bcells s) 32 zs).toArray = (bcells (torn s)).toArray := by rw [e]
  unfold splice at e2
  simp [Builtin.append_, run_underlying Try.underlying40, run_underlying Try.underlying3, sizeOf, typeInfo, hi, hsz, hb, asInt, asIntOf, hw, zeroValue, hz', Value.cells, hc, add_none, hst]
  exact congrArg _ (by simpa using e2)
end Go.Proofs.Yteacjeihliajpaa

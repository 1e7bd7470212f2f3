/- The document's own plant: Flush, what holds from round to round. -/
import Derived.Test.YtdddfjkecmnggaaRefAppend
namespace Go.Proofs.Ytdddfjkecmnggaa
open Go.RowKit Go.Maps

theorem agg81 : AggT 81 3 := ⟨Or.inl ⟨_, Try.underlying81⟩, by kernel_rfl⟩
def NextC (w : World) (c : Nat → Colour) (t : Nat) (c' : Nat → Colour) (W : World) : Prop :=
  (∀ b, b < w.heap.size → c' b = c b) ∧ (∀ b, w.heap.size ≤ b → (c' b).1 = t ∨ (c' b).1 = t + 1 ∨ (c' b).1 = 1) ∧ (∀ b, W.heap.size ≤ b → (c' b).1 = t + 1) ∧ Ch (fun b => (c b).1 = t) w W
/-- the writes that go on waiting, in a row of the call's own -/
def LeftOf (B : Nat) (W : World) (c : Nat → Colour) (t : Nat) (v : Value) (L : List Wr) : Prop :=
  ∃ us : Nat → Value, W.ownsRow 0 81 3 v L.length (wtCells L us) ∧ (∀ j, j < L.length → RO W c (us j) (wtAt L j).b) ∧ ∀ b, v.ownBlock = some b → (c b).1 = t + 1 ∧ B ≤ b
def flMid (m : Pl) (i n : Nat) : Pl := { m with fl := upd m.fl i (layAll (m.tape i) (m.fl i) ((m.wts.take n).filter fun x => x.dev == i)) }
def leftTo (m : Pl) (i n : Nat) : List Wr := (m.wts.take n).filter fun x => !(x.dev == i)
theorem wtAt_get (l : List Wr) (n : Nat) (h : n < l.length) : l[n]? = some (wtAt l n) := by unfold wtAt; simp [h]
theorem take_wt (l : List Wr) (n : Nat) (h : n < l.length) : l.take (n + 1) = l.take n ++ [wtAt l n] := by
  rw [List.take_add_one, wtAt_get l n h]
  rfl
theorem upd_same (f : Nat → List (List Nat)) (i : Nat) : upd f i (f i) = f := by
  funext j
  unfold upd
  split
  · rename_i h; rw [h]
  · rfl
theorem upd_at (f : Nat → List (List Nat)) (i : Nat) (x : List (List Nat)) : upd f i x i = x := if_pos rfl
theorem upd_upd (f : Nat → List (List Nat)) (i : Nat) (x y : List (List Nat)) : upd (upd f i x) i y = upd f i y := by
  funext j
  unfold upd
  split <;> rfl
theorem flMid_zero (m : Pl) (i : Nat) : flMid m i 0 = m := by
  unfold flMid
  simp only [List.take_zero, List.filter_nil]
  show { m with fl := upd m.fl i (m.fl i) } = m
  rw [upd_same]
theorem flMid_hit (m : Pl) (i n : Nat) (h : n < m.wts.length) (hd : (wtAt m.wts n).dev = i) : flMid m i (n + 1) = { flMid m i n with fl := upd (flMid m i n).fl i (lay ((flMid m i n).tape i) ((flMid m i n).fl i) (wtAt m.wts n).place (wtAt m.wts n).b) } := by
  have e : (m.wts.take (n + 1)).filter (fun x => x.dev == i) = (m.wts.take n).filter (fun x => x.dev == i) ++ [wtAt m.wts n] := by
    rw [take_wt _ _ h, List.filter_append]
    simp [hd]
  unfold flMid
  simp only [e, layAll, List.foldl_append, List.foldl_cons, List.foldl_nil, upd_upd, upd_at]
  rfl
theorem flMid_miss (m : Pl) (i n : Nat) (h : n < m.wts.length) (hd : (wtAt m.wts n).dev ≠ i) : flMid m i (n + 1) = flMid m i n := by
  have e : (m.wts.take (n + 1)).filter (fun x => x.dev == i) = (m.wts.take n).filter (fun x => x.dev == i) := by
    rw [take_wt _ _ h, List.filter_append]
    simp [hd]
  unfold flMid
  simp only [e]
theorem leftTo_hit (m : Pl) (i n : Nat) (h : n < m.wts.length) (hd : (wtAt m.wts n).dev = i) : leftTo m i (n + 1) = leftTo m i n := by
  unfold leftTo
  rw [take_wt _ _ h, List.filter_append]
  simp [hd]
theorem leftTo_miss (m : Pl) (i n : Nat) (h : n < m.wts.length) (hd : (wtAt m.wts n).dev ≠ i) : leftTo m i (n + 1) = leftTo m i n ++ [wtAt m.wts n] := by
  unfold leftTo
  rw [take_wt _ _ h, List.filter_append]
  simp [hd]
theorem leftTo_le (m : Pl) (i n : Nat) : (leftTo m i n).length ≤ m.wts.length := by
  unfold leftTo
  refine Nat.le_trans (List.length_filter_le _ _) ?_
  rw [List.length_take]
  omega
theorem flMid_all (m : Pl) (i : Nat) : { flMid m i m.wts.length with wts := leftTo m i m.wts.length } = m.flushed i := by
  unfold flMid leftTo Pl.flushed Pl.wt
  rw [List.take_length]
theorem layAll_len (tape : Bool) (fl : List (List Nat)) (l : List Wr) : (layAll tape fl l).length = if tape then fl.length + l.length else fl.length := by
  unfold layAll
  induction l generalizing fl with
  | nil => cases tape <;> rfl
  | cons x r ih =>
    rw [List.foldl_cons, ih]
    cases tape
    · simp [lay]
    · simp [lay]; omega
theorem flMid_length {m : Pl} (hwf : m.WF) (i n : Nat) (hi : i < m.n) : ((flMid m i n).fl i).length ≤ 4096 ∧ (m.tape i = false → ((flMid m i n).fl i).length = m.size i) := by
  have e : ((flMid m i n).fl i) = layAll (m.tape i) (m.fl i) ((m.wts.take n).filter fun x => x.dev == i) := if_pos rfl
  rw [e, layAll_len]
  have h2 := (hwf.sizes i hi).2
  have hs : ((m.wts.take n).filter fun x => x.dev == i).length ≤ (m.wt i).length := by
    unfold Pl.wt
    exact ((List.take_sublist n m.wts).filter _).length_le
  cases ht : m.tape i with
  | false =>
    have := hwf.disk i hi ht
    simp only [Bool.false_eq_true, if_false]
    exact ⟨by omega, fun _ => this⟩
  | true =>
    have := (hwf.tapes i hi ht).1
    simp only [if_true]
    exact ⟨by omega, fun e => by cases e⟩
section
variable {w W w' : World} {c c' : Nat → Colour} {t g : Nat} {vd vt hv wv lv : Value} {ds ts : List Int} {m m2 : Pl} {L : List Wr}
theorem left_kept {B : Nat} {c'' : Nat → Colour} (hL : LeftOf B W c' t lv L) (h1 : ∀ b, b < W.heap.size → c'' b = c' b) (hc : Ch (fun b => (c' b).1 = t) W w') (ht1 : t ≠ 1) : LeftOf B w' c'' t lv L := by
  obtain ⟨us, o1, o2, o3⟩ := hL
  have hk : KeptC (fun x => x.1 = 1) W c' w' c'' := ⟨fun b hb hK => ⟨hc.block b hb (by rw [hK]; exact Ne.symm ht1), h1 b hb⟩, hc.size⟩
  exact ⟨us, ownK o1 fun b hb => hc.block b (o1.lt b hb).2 (by rw [(o3 b hb).1]; omega), fun j hj => (o2 j hj).k hk fun _ => rfl, fun b hb => by rw [h1 b (o1.lt b hb).2]; exact o3 b hb⟩
theorem nextC_trans {c'' : Nat → Colour} (hN : NextC w c t c' W) (h1 : ∀ b, b < W.heap.size → c'' b = c' b) (h2 : ∀ b, W.heap.size ≤ b → (c'' b).1 = t ∨ (c'' b).1 = t + 1 ∨ (c'' b).1 = 1) (h3 : ∀ b, w'.heap.size ≤ b → (c'' b).1 = t + 1) (h5 : Ch (fun b => (c' b).1 = t) W w') : NextC w c t c'' w' := by
  obtain ⟨n1, n2, n3, n4⟩ := hN
  refine ⟨fun b hb => by rw [h1 b (Nat.lt_of_lt_of_le hb n4.size)]; exact n1 b hb, fun b hb => ?_, h3, n4.trans' h5 fun b hb e => by rw [← n1 b hb]; exact e⟩
  rcases Nat.lt_or_ge b W.heap.size with h | h
  · rw [h1 b h]; exact n2 b hb
  · exact h2 b h
theorem flush_hit (hN : NextC w c t c' W) (hL : LeftOf w.heap.size W c' t lv L) (ht1 : t ≠ 1) (h : NextA W c' t g vd vt hv wv ds ts m2 w') : ∃ c'', NextC w c t c'' w' ∧ RefAt w' c'' t g vd vt hv wv ds ts m2 ∧ LeftOf w.heap.size w' c'' t lv L := by
  obtain ⟨c'', h1, h2, h3, h4, h5⟩ := h
  exact ⟨c'', nextC_trans hN h1 h2 h3 h5, h4, left_kept hL h1 h5 ht1⟩
/-- one more is left -/
theorem flush_miss (hN : NextC w c t c' W) (hA : RefAt W c' t g vd vt hv wv ds ts m) (ht0 : t ≠ 0) (x : Wr) (u : Value) (hu : RO W c' u x.b) (us : Nat → Value) (hus1 : W.ownsRow 0 81 3 lv L.length (wtCells L us)) (hus2 : ∀ j, j < L.length → RO W c' (us j) (wtAt L j).b) (hus3 : ∀ b, lv.ownBlock = some b → (c' b).1 = t + 1 ∧ w.heap.size ≤ b) (hn : L.length ≤ 1099511627776) :
    ∃ v5 w5, (Builtin.append_ #[54, 54] 54 #[lv, .slice (some ⟨W.heap.size, 0, none⟩) 1 1]).run Try.prog (W.alloc (.cells (wtCell x u).toArray 81)) = .ok v5 w5 ∧ NextC w c t c' w5 ∧ RefAt w5 c' t g vd vt hv wv ds ts m ∧ LeftOf w.heap.size w5 c' t v5 (L ++ [x]) := by
  have b1 : Below W.heap.size W (W.alloc (.cells (wtCell x u).toArray 81)) := (Below.refl _ _).alloc (Nat.le_refl _) _
  have z1 : (W.alloc (.cells (wtCell x u).toArray 81)).heap.size = W.heap.size + 1 := World.size_alloc _ _
  have hr3 : Row (W.alloc (.cells (wtCell x u).toArray 81)) W.heap.size 81 (wtCell x u) := Row.new W 81 _
  have hown1 : (W.alloc (.cells (wtCell x u).toArray 81)).ownsRow 0 81 3 lv L.length (wtCells L us) := ownK hus1 fun b hb => b1.block b (hus1.lt b hb).2
  obtain ⟨i, hi, hz0, hz1, hz2⟩ := info_parts i81
  obtain ⟨v5, w5, hr, h2, h3, _, h5⟩ := run_append_own_at (P := Try.prog) (w := W.alloc (.cells (wtCell x u).toArray 81)) 0 54 54 81 i (.agg #[.int .i64 0, .int .i64 0, .slice none 0 0]) 3 40 Try.underlying54 hi hz0 hz1 hz2 rfl (by decide) lv _ _ hown1
    ⟨W.heap.size, 0, none⟩ 1 1 (wtCell x u) (by simp [wtCell]) (fun j y hy => by rw [add_none, Nat.zero_add]; exact hr3.at j y hy) (by
      obtain ⟨pp, nn, cc, rfl⟩ := hu.slices
      intro y hy
      simp only [wtCell, List.mem_cons, List.not_mem_nil, or_false] at hy
      rcases hy with rfl | rfl | rfl <;> rfl) (by unfold maxLen; omega) (by omega) (Nat.zero_le _)
  have hch : Ch (fun b => lv.ownBlock = some b) W w5 := (Ch.of_below b1).grown h3 fun k hk => Or.inl hk
  have hsame : Same t W c' w5 c' := Same.ch hch (fun b _ e => by rw [(hus3 b e).1]; omega) (fun _ _ => rfl)
  have hk : KeptC (fun x => x.1 = 1) W c' w5 c' := ⟨fun b hb hK => ⟨hch.block b hb fun e => by have hK : (c' b).1 = 1 := hK; rw [(hus3 b e).1] at hK; omega, rfl⟩, hch.size⟩
  have hfr := hN.2.2.1
  refine ⟨v5, w5, hr, ⟨hN.1, hN.2.1, fun b hb => hfr b (Nat.le_trans hch.size hb), hN.2.2.2.trans' hch fun b hb e => by have := (hus3 b e).2; omega⟩, hA.same hsame hch.size, ⟨fun j => if j = L.length then u else us j, ?_, fun j hj => ?_, fun b hb => ?_⟩⟩
  · rw [wtCells_snoc, List.length_append]
    exact h2
  · dsimp only
    rw [List.length_append, List.length_cons, List.length_nil] at hj
    by_cases e : j = L.length
    · rw [if_pos e]
      subst e
      have : wtAt (L ++ [x]) L.length = x := by simp [wtAt]
      rw [this]
      exact hu.k hk fun _ => rfl
    · rw [if_neg e]
      have : wtAt (L ++ [x]) j = wtAt L j := by
        unfold wtAt
        rw [List.getD_eq_getElem?_getD, List.getElem?_append_left (by omega), ← List.getD_eq_getElem?_getD]
      rw [this]
      exact (hus2 j (by omega)).k hk fun _ => rfl
  · rcases h5 with e | e
    · exact hus3 b (by rw [← e]; exact hb)
    · rw [hb] at e
      injection e with e
      exact ⟨hfr b (by omega), by have := hN.2.2.2.size; omega⟩
end
end Go.Proofs.Ytdddfjkecmnggaa

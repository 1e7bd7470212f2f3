/- Layer 8: plain: a plant that is on and whose fuse does not burn. Layer 8: plain: sectors as they are written and read. Layer 8: plain: Format, and rows read as they were written. Layer 8: plain: what a log tells. Layer 8: plain: a journal on a plant that is on. Layer 8: plain: a journal behind a boot of which nothing waits. Layer 8: lists of transactions that are the same. -/
import Derived.Test.YtebalanfagglnaaDoorV31
namespace Go.Proofs.YtebalanfagglnaaDoor
open Go.RowKit Go.Maps

theorem layAll_get (fl : List (List Nat)) (l : List Wr) (h : ∀ x ∈ l, x.place < fl.length) (p : Nat) : (layAll false fl l).getD p zeros = (lastAt l p).getD (fl.getD p zeros) := by
  obtain ⟨r, hr⟩ : ∃ r, l = r.reverse := ⟨l.reverse, (List.reverse_reverse l).symm⟩
  subst hr
  induction r with
  | nil => rfl
  | cons x r ih =>
    rw [List.reverse_cons] at h ⊢
    have hx := h x (by simp)
    have hl : (layAll false fl r.reverse).length = fl.length := by rw [layAll_length]; rfl
    rw [layAll_snoc, lastAt_snoc]
    show ((layAll false fl r.reverse).set x.place x.b).getD p zeros = _
    by_cases e : x.place = p
    · rw [if_pos e, ← e]
      simp [List.getD_eq_getElem?_getD, hl, hx]
    · rw [if_neg e, ← ih (fun y hy => h y (List.mem_append_left _ hy))]
      simp [List.getD_eq_getElem?_getD, List.getElem?_set_ne e]
/-- on, no fuse, device i a disk -/
structure Up (m : Pl) (i : Nat) : Prop where
  wf : m.WF
  on : m.on = true
  fuse : m.fuse < 0
  lt : i < m.n
  disk : m.tape i = false
end Go.Proofs.YtebalanfagglnaaDoor

namespace Go.Proofs.YtebalanfagglnaaDoor
open Go.RowKit Go.Maps

theorem wsec_back (k : Nat) (cs : List Nat) (h : cs.length ≤ 55) : Fr.Frame.okB (wsec k cs) = true ∧ Fr.Frame.kindOf (wsec k cs) = k ∧ Fr.Frame.payOf (wsec k cs) = pad 55 cs := by
  have hl := pad_length 55 cs h
  have h1 := Fr.Frame.okB_pack k (pad 55 cs) [] (by rw [hl]; decide)
  have h2 := Fr.Frame.back k (pad 55 cs) [] (by rw [hl]; decide)
  rw [List.append_nil] at h1 h2
  exact ⟨h1.1, h2.1, h2.2.1⟩
theorem payB_wsec (k : Nat) (cs : List Nat) (h : cs.length ≤ 55) : payB k (wsec k cs) = true := by
  have h1 := wsec_back k cs h
  unfold payB
  rw [h1.1, h1.2.1, h1.2.2, pad_length 55 cs h]
  simp
theorem take_be (s n : Nat) (r : List Nat) : (Fr.Frame.be s n ++ r).take s = Fr.Frame.be s n := by
  rw [List.take_append_of_le_length (by rw [Fr.Frame.be_length]; exact Nat.le_refl _), List.take_of_length_le (by rw [Fr.Frame.be_length]; exact Nat.le_refl _)]
theorem drop_be (s n : Nat) (r : List Nat) : (Fr.Frame.be s n ++ r).drop s = r := by
  rw [List.drop_append_of_le_length (by rw [Fr.Frame.be_length]; exact Nat.le_refl _), List.drop_of_length_le (by rw [Fr.Frame.be_length]; exact Nat.le_refl _)]
  rfl
theorem headSec_pay (s f : Nat) : Fr.Frame.payOf (headSec s f) = Fr.Frame.be 8 s ++ (Fr.Frame.be 8 f ++ List.replicate 39 0) := by
  unfold headSec
  rw [(wsec_back 74 _ (by simp [Fr.Frame.be_length])).2.2]
  unfold pad
  rw [List.length_append, Fr.Frame.be_length, Fr.Frame.be_length, List.append_assoc]
theorem hS_head (s f : Nat) (h : s < 18446744073709551616) : hS (headSec s f) = s := by
  unfold hS
  rw [headSec_pay, take_be, Fr.Frame.val_be]
  exact Nat.mod_eq_of_lt (by simpa using h)
theorem hF_head (s f : Nat) (h : f < 18446744073709551616) : hF (headSec s f) = f := by
  unfold hF
  rw [headSec_pay, drop_be, take_be, Fr.Frame.val_be]
  exact Nat.mod_eq_of_lt (by simpa using h)
theorem headOk_head (s f : Nat) (h : f ≤ s) (hs : s < 4611686018427387904) : headOk (headSec s f) = true := by
  unfold headOk
  rw [hS_head s f (by omega), hF_head s f (by omega), decide_eq_true h, decide_eq_true hs, decide_eq_true rfl]
  have : payB 74 (headSec s f) = true := payB_wsec 74 _ (by simp [Fr.Frame.be_length])
  rw [this]
  rfl
theorem headSec_sec (s f : Nat) : Sec (headSec s f) := ⟨wsec_length 74 _ (by simp [Fr.Frame.be_length]), wsec_lt 74 _ (by decide) fun c hc => by
  rcases List.mem_append.1 hc with h | h
  · exact Fr.Frame.be_lt _ _ c h
  · exact Fr.Frame.be_lt _ _ c h⟩
theorem partSec_pay (s i n : Nat) (piece : List Nat) (h : piece.length ≤ 44) : Fr.Frame.payOf (partSec s i n piece) = Fr.Frame.be 8 s ++ (Fr.Frame.be 1 i ++ (Fr.Frame.be 2 n ++ pad 44 piece)) := by
  unfold partSec
  rw [(wsec_back 84 _ (by simp [Fr.Frame.be_length]; omega)).2.2]
  unfold pad
  simp only [List.length_append, Fr.Frame.be_length, List.append_assoc]
  rw [show 55 - (8 + (1 + (2 + piece.length))) = 44 - piece.length by omega]
theorem pS_part (s i n : Nat) (piece : List Nat) (h : piece.length ≤ 44) (hs : s < 18446744073709551616) : pS (partSec s i n piece) = s := by
  unfold pS
  rw [partSec_pay _ _ _ _ h, take_be, Fr.Frame.val_be]
  exact Nat.mod_eq_of_lt (by simpa using hs)
theorem pI_part (s i n : Nat) (piece : List Nat) (h : piece.length ≤ 44) (hi : i < 256) : pI (partSec s i n piece) = i := by
  unfold pI
  rw [partSec_pay _ _ _ _ h, drop_be, take_be, Fr.Frame.val_be]
  exact Nat.mod_eq_of_lt (by simpa using hi)
theorem pL_part (s i n : Nat) (piece : List Nat) (h : piece.length ≤ 44) (hn : n < 65536) : pL (partSec s i n piece) = n := by
  unfold pL
  rw [partSec_pay _ _ _ _ h, drop_be, drop_be, take_be, Fr.Frame.val_be]
  exact Nat.mod_eq_of_lt (by simpa using hn)
theorem pP_part (s i n : Nat) (piece : List Nat) (h : piece.length ≤ 44) : pP (partSec s i n piece) = pad 44 piece := by
  unfold pP
  rw [partSec_pay _ _ _ _ h, drop_be, drop_be, drop_be]
theorem partOk_part (s i n : Nat) (piece : List Nat) (h : piece.length ≤ 44) (hi : i < 256) (hn : n < 65536) : partOk (partSec s i n piece) = decide (i < secsOf n) := by
  unfold partOk
  rw [pI_part _ _ _ _ h hi, pL_part _ _ _ _ h hn]
  have : payB 84 (partSec s i n piece) = true := payB_wsec 84 _ (by simp [Fr.Frame.be_length]; omega)
  rw [this, Bool.true_and]
theorem kindOf_zeros : Fr.Frame.kindOf zeros = 0 := by
  unfold Fr.Frame.kindOf
  split
  · rfl
  · rfl
theorem partSec_ne (s i n : Nat) (piece : List Nat) (h : piece.length ≤ 44) : partSec s i n piece ≠ zeros := by
  intro e
  have h1 : Fr.Frame.kindOf (partSec s i n piece) = 84 := (wsec_back 84 _ (by simp [Fr.Frame.be_length]; omega)).2.1
  rw [e, kindOf_zeros] at h1
  exact absurd h1 (by decide)
/-- a log of nothing -/
theorem partIs_zeros (n a : Nat) : partIs n zeros a = false ∧ partEr n zeros a = 0 := by
  unfold partIs partEr
  rw [decide_eq_true rfl]
  simp
end Go.Proofs.YtebalanfagglnaaDoor

namespace Go.Proofs.YtebalanfagglnaaDoor
open Go.RowKit Go.Maps

theorem zeros_sec : Sec zeros := ⟨List.length_replicate, fun c hc => by rw [(List.mem_replicate.1 hc).2]; decide⟩
theorem pieceAt_eq (b : List Nat) (j : Nat) : pieceAt b j = (b.drop (44 * j)).take 44 := by
  unfold pieceAt
  rw [List.drop_take, Nat.mul_comm j 44]
  by_cases h : 44 * j + 44 ≤ b.length
  · rw [Nat.min_eq_left h, show 44 * j + 44 - 44 * j = 44 by omega]
  · rw [Nat.min_eq_right (by omega), List.take_of_length_le (by rw [List.length_drop]; omega), List.take_of_length_le (by rw [List.length_drop]; omega)]
theorem rowGo_row (A : Nat → Bool) (X : Nat → List Nat) (E : Int → Nat → Int) (a s : Nat) (b : List Nat) (f : Int) (hs : s < 18446744073709551616) (hb : b.length < 11000) (hX : ∀ j, j < secsOf b.length → X (a + j) = partSec s j b.length (pieceAt b j)) (hA : ∀ j, j < secsOf b.length → A (a + j) = true) (hE : ∀ j, j < secsOf b.length → E f (a + j) = f) :
    ∀ n j, n = secsOf b.length - j → j < secsOf b.length → rowGo A X E a n j (b.take (44 * j)) f = (b, secsOf b.length, f) := by
  have hK : secsOf b.length ≤ 250 := by unfold secsOf; omega
  have hpl : ∀ j, (pieceAt b j).length ≤ 44 := fun j => by rw [pieceAt_eq, List.length_take]; omega
  have h0 : X a = partSec s 0 b.length (pieceAt b 0) := hX 0 (secsOf_pos _)
  have hL : pL (X a) = b.length := by rw [h0]; exact pL_part _ _ _ _ (hpl 0) (by omega)
  intro n
  induction n with
  | zero => intro j h1 h2; omega
  | succ n ih =>
    intro j hn hj
    have hg : (A (a + j) && decide (pS (X (a + j)) = pS (X a) ∧ pL (X (a + j)) = pL (X a) ∧ pI (X (a + j)) = j)) = true := by
      rw [hA j hj, Bool.true_and, hL, hX j hj, h0, pS_part _ _ _ _ (hpl j) hs, pS_part _ _ _ _ (hpl 0) hs, pL_part _ _ _ _ (hpl j) (by omega), pI_part _ _ _ _ (hpl j) (by omega)]
      exact decide_eq_true ⟨rfl, rfl, rfl⟩
    have hpp : pP (X (a + j)) = pad 44 (pieceAt b j) := by rw [hX j hj]; exact pP_part _ _ _ _ (hpl j)
    by_cases he : j + 1 = secsOf b.length
    · rw [rowGo_end _ _ _ _ _ _ _ _ (by omega) hg (by rw [hL]; exact he), hL, hpp, he]
      have e1 : (b.take (44 * j) ++ pad 44 (pieceAt b j)).take b.length = b := by
        have e2 : b.take (44 * j) ++ pieceAt b j = b := by
          rw [pieceAt_eq]
          rw [List.take_of_length_le (l := b.drop (44 * j)) (by rw [List.length_drop]; have := secsOf_fits b.length; omega), List.take_append_drop]
        unfold pad
        rw [← List.append_assoc, e2, List.take_left]
      rw [e1]
    · rw [rowGo_on _ _ _ _ _ _ _ _ (by omega) hg (by rw [hL]; exact he), hpp, hE (j + 1) (by omega), show n + 1 - 1 = n by omega]
      have e2 : b.take (44 * j) ++ pad 44 (pieceAt b j) = b.take (44 * (j + 1)) := by
        have hfull : (pieceAt b j).length = 44 := by
          rw [pieceAt_eq]
          rw [List.length_take, List.length_drop]
          unfold secsOf at he hj
          omega
        unfold pad
        rw [hfull, Nat.sub_self, List.replicate_zero, List.append_nil]
        rw [pieceAt_eq]
        rw [Nat.mul_add, Nat.mul_one, List.take_add]
      rw [e2]
      exact ih (j + 1) (by omega) (by omega)
theorem rowRd_row (A : Nat → Bool) (X : Nat → List Nat) (E : Int → Nat → Int) (a s : Nat) (b : List Nat) (f : Int) (hs : s < 18446744073709551616) (hb : b.length < 11000) (hX : ∀ j, j < secsOf b.length → X (a + j) = partSec s j b.length (pieceAt b j)) (hA : ∀ j, j < secsOf b.length → A (a + j) = true) (hE : ∀ j, j < secsOf b.length → E f (a + j) = f) : rowRd A X E a f = (b, secsOf b.length, f) := by
  have h0 : X a = partSec s 0 b.length (pieceAt b 0) := hX 0 (secsOf_pos _)
  have hL : pL (X a) = b.length := by rw [h0]; exact pL_part _ _ _ _ (by rw [pieceAt_eq, List.length_take]; omega) (by omega)
  unfold rowRd
  rw [hL, show E f a = f from hE 0 (secsOf_pos _)]
  exact rowGo_row A X E a s b f hs hb hX hA hE _ 0 rfl (secsOf_pos _)
end Go.Proofs.YtebalanfagglnaaDoor

namespace Go.Proofs.YtebalanfagglnaaDoor
open Go.RowKit Go.Maps

theorem recordsOf_body : ∀ (L : List (List Nat)), (∀ r ∈ L, r.length < 65536) → recordsOf (bodyOf L) = some L := by
  intro L
  induction L with
  | nil => intro _; rfl
  | cons r L ih =>
    intro h
    have hr := h r (by simp)
    have e : bodyOf (r :: L) = Fr.Frame.be 2 r.length ++ (r ++ bodyOf L) := by simp [bodyOf]
    have e1 : (bodyOf (r :: L)).drop 2 = r ++ bodyOf L := by rw [e]; exact drop_be 2 _ _
    have e2 : Fr.Frame.val ((bodyOf (r :: L)).take 2) = r.length := by
      rw [e, take_be, Fr.Frame.val_be]
      exact Nat.mod_eq_of_lt (by simpa using hr)
    rw [recordsOf_step _ (by rw [e]; simp [Fr.Frame.be_length]) (by rw [e1, e2]; simp), e1, e2, List.drop_left, List.take_left, ih (fun x hx => h x (by simp [hx]))]
    rfl
theorem bytesOf_mem (L : List (List Nat)) : ∀ r ∈ L, r.length ≤ bytesOf L := by
  unfold bytesOf
  induction L with
  | nil => intro r hr; cases hr
  | cons x L ih =>
    intro r hr
    rw [List.map_cons, List.sum_cons]
    rcases List.mem_cons.1 hr with h | h
    · rw [h]; omega
    · have := ih r h; omega
theorem notLong {L : List (List Nat)} (h : longTx L = false) : L.length ≤ 16 ∧ bytesOf L ≤ 1024 ∧ txSize L ≤ 1056 ∧ ∀ r ∈ L, r.length < 65536 := by
  unfold longTx at h
  simp only [Bool.or_eq_false_iff, decide_eq_false_iff_not] at h
  refine ⟨by omega, by omega, by unfold txSize; omega, fun r hr => ?_⟩
  have := bytesOf_mem L r hr
  omega
/-- transactions of sessions F to S, one behind the other from place a -/
def LogAt (X : Nat → List Nat) (S F : Nat) : Nat → List (Nat × List (List Nat)) → Prop
  | _, [] => True
  | a, x :: r => (∀ j, j < secsOf (txSize x.2) → X (a + j) = partSec x.1 j (txSize x.2) (pieceAt (bodyOf x.2) j)) ∧ F ≤ x.1 ∧ x.1 ≤ S ∧ longTx x.2 = false ∧ LogAt X S F (a + secsOf (txSize x.2)) r
def logLen (rows : List (Nat × List (List Nat))) : Nat := (rows.map fun x => secsOf (txSize x.2)).sum
theorem rd_part (n : Nat) (a S F s j L : Nat) (piece : List Nat) (f : Int) (hp : piece.length ≤ 44) (hj : j < 256) (hL : L < 65536) (hjL : j < secsOf L) (ha : a < n - 1) (hF : F ≤ s) (hS : s ≤ S) (hs : s < 18446744073709551616) : rdOk n (partSec s j L piece) a S F = true ∧ rdF f n (partSec s j L piece) a S = f := by
  have h1 : partIs n (partSec s j L piece) a = true := by
    unfold partIs
    rw [decide_eq_true ha, decide_eq_false (partSec_ne s j L piece hp), partOk_part s j L piece hp hj hL, decide_eq_true hjL]
    rfl
  have h2 : pS (partSec s j L piece) = s := pS_part s j L piece hp hs
  have h3 : rdEr n (partSec s j L piece) a S = 0 := by
    unfold rdEr
    rw [h1, h2, decide_eq_false (by omega), partEr_ok n _ a h1]
    rfl
  refine ⟨?_, ?_⟩
  · unfold rdOk
    rw [h1, h2, decide_eq_false (by omega), decide_eq_true hF]
    rfl
  · unfold rdF
    rw [h3, if_pos rfl]
theorem txsGo_log (X : Nat → List Nat) (n S F : Nat) (hS : S < 4611686018427387904) : ∀ (rows : List (Nat × List (List Nat))) (a fuel : Nat) (D : List (List (List Nat))), LogAt X S F a rows → a + logLen rows ≤ n - 1 → rowRd (fun a => rdOk n (X a) a S F) X (fun f a => rdF f n (X a) a S) (a + logLen rows) 0 = ([], 0, 0) → rows.length < fuel → txsGo (fun a => rdOk n (X a) a S F) X (fun f a => rdF f n (X a) a S) fuel a D 0 = (some (D ++ rows.map (·.2), a + logLen rows), 0) := by
  intro rows
  induction rows with
  | nil =>
    intro a fuel D _ _ hstop hf
    have e : a + logLen [] = a := rfl
    rw [e] at hstop ⊢
    rw [txsGo_stop _ _ _ _ _ _ _ (by omega) (by rw [hstop]), hstop]
    simp
  | cons x rows ih =>
    intro a fuel D hl hn hstop hf
    obtain ⟨h1, h2, h3, h4, h5⟩ := hl
    have hnl := notLong h4
    have el : a + logLen (x :: rows) = a + secsOf (txSize x.2) + logLen rows := by unfold logLen; rw [List.map_cons, List.sum_cons]; omega
    rw [el] at hn hstop ⊢
    have hK : secsOf (txSize x.2) ≤ 250 := by unfold secsOf; omega
    have hrow : rowRd (fun a => rdOk n (X a) a S F) X (fun f a => rdF f n (X a) a S) a 0 = (bodyOf x.2, secsOf (txSize x.2), 0) := by
      have hbl := bodyOf_length x.2
      have hpl : ∀ j, (pieceAt (bodyOf x.2) j).length ≤ 44 := fun j => by rw [pieceAt_eq, List.length_take]; omega
      rw [rowRd_row _ X _ a x.1 (bodyOf x.2) 0 (by omega) (by rw [hbl]; omega) (fun j hj => by rw [hbl] at hj ⊢; exact h1 j hj) (fun j hj => by
        rw [hbl] at hj
        show rdOk n (X (a + j)) (a + j) S F = true
        rw [h1 j hj]
        exact (rd_part n (a + j) S F x.1 j (txSize x.2) _ 0 (hpl j) (by omega) (by omega) hj (by omega) h2 h3 (by omega)).1) (fun j hj => by
        rw [hbl] at hj
        show rdF 0 n (X (a + j)) (a + j) S = 0
        rw [h1 j hj]
        exact (rd_part n (a + j) S F x.1 j (txSize x.2) _ 0 (hpl j) (by omega) (by omega) hj (by omega) h2 h3 (by omega)).2), hbl]
    have hp := secsOf_pos (txSize x.2)
    rw [List.length_cons] at hf
    rw [txsGo_on _ _ _ _ _ _ _ (by omega) (by rw [hrow]; show ¬ secsOf (txSize x.2) = 0; omega) x.2 (by rw [hrow]; exact recordsOf_body x.2 hnl.2.2.2) h4, hrow]
    show txsGo _ X _ (fuel - 1) (a + secsOf (txSize x.2)) (D ++ [x.2]) 0 = _
    rw [ih _ _ _ h5 hn hstop (by omega)]
    simp
end Go.Proofs.YtebalanfagglnaaDoor

namespace Go.Proofs.YtebalanfagglnaaDoor
open Go.RowKit Go.Maps

/-- a sector that is blank, or a part of a session ahead of F -/
def Old (F : Nat) (b : List Nat) : Prop := b = zeros ∨ (partOk b = true ∧ pS b < F)
/-- a journal whose log has these rows and nothing behind them -/
structure Jn (m : Pl) (i n S F : Nat) (rows : List (Nat × List (List Nat))) : Prop where
  up : Up m i
  size : m.size i = n
  big : 8 ≤ n
  head : m.rd i 0 = headSec S F
  le : F ≤ S
  lt : S < 4611686018427387904
  log : LogAt (logX m i) S F 0 rows
  fits : logLen rows ≤ n - 1
  blank : ∀ a, logLen rows ≤ a → a < n - 1 → Old F (logX m i a)
theorem LogAt.mono {X Y : Nat → List Nat} {S S' F : Nat} (hS : S ≤ S') : ∀ (rows : List (Nat × List (List Nat))) (a : Nat), (∀ p, a ≤ p → p < a + logLen rows → Y p = X p) → LogAt X S F a rows → LogAt Y S' F a rows := by
  intro rows
  induction rows with
  | nil => intro _ _ _; trivial
  | cons x rows ih =>
    intro a hXY h
    have el : logLen (x :: rows) = secsOf (txSize x.2) + logLen rows := by unfold logLen; rw [List.map_cons, List.sum_cons]
    rw [el] at hXY
    obtain ⟨h1, h2, h3, h4, h5⟩ := h
    exact ⟨fun j hj => by rw [hXY (a + j) (by omega) (by omega)]; exact h1 j hj, h2, by omega, h4, ih _ (fun p h6 h7 => hXY p (by omega) (by omega)) h5⟩
theorem LogAt.snoc {X : Nat → List Nat} {S F : Nat} (x : Nat × List (List Nat)) : ∀ (rows : List (Nat × List (List Nat))) (a : Nat), LogAt X S F a rows → LogAt X S F (a + logLen rows) [x] → LogAt X S F a (rows ++ [x]) := by
  intro rows
  induction rows with
  | nil => intro a _ h; exact h
  | cons y rows ih =>
    intro a h hx
    obtain ⟨h1, h2, h3, h4, h5⟩ := h
    have el : logLen (y :: rows) = secsOf (txSize y.2) + logLen rows := by unfold logLen; rw [List.map_cons, List.sum_cons]
    rw [el, ← Nat.add_assoc] at hx
    exact ⟨h1, h2, h3, h4, ih _ h5 hx⟩
theorem logLen_snoc (rows : List (Nat × List (List Nat))) (x : Nat × List (List Nat)) : logLen (rows ++ [x]) = logLen rows + secsOf (txSize x.2) := by unfold logLen; simp
theorem logLen_ge (rows : List (Nat × List (List Nat))) : rows.length ≤ logLen rows := by
  unfold logLen
  induction rows with
  | nil => exact Nat.le_refl _
  | cons x rows ih =>
    rw [List.length_cons, List.map_cons, List.sum_cons]
    have := secsOf_pos (txSize x.2)
    omega
theorem partSec_sec (s i n : Nat) (piece : List Nat) (h : piece.length ≤ 44) (hp : ∀ c ∈ piece, c < 256) : Sec (partSec s i n piece) := ⟨wsec_length 84 _ (by simp [Fr.Frame.be_length]; omega), wsec_lt 84 _ (by decide) fun c hc => by
  rcases List.mem_append.1 hc with h1 | h1
  · rcases List.mem_append.1 h1 with h2 | h2
    · rcases List.mem_append.1 h2 with h3 | h3
      · exact Fr.Frame.be_lt _ _ c h3
      · exact Fr.Frame.be_lt _ _ c h3
    · exact Fr.Frame.be_lt _ _ c h2
  · exact hp c h1⟩
theorem rowSecs_sec (s : Nat) (b : List Nat) (hb : ∀ c ∈ b, c < 256) : ∀ x ∈ rowSecs s b, Sec x := fun x hx => by
  obtain ⟨j, _, rfl⟩ := List.mem_map.1 hx
  refine partSec_sec _ _ _ _ (by rw [pieceAt_eq, List.length_take]; omega) fun c hc => ?_
  rw [pieceAt_eq] at hc
  exact hb c (List.mem_of_mem_drop (List.mem_of_mem_take hc))
/-- every sector of a log is a part of a session up to S -/
theorem LogAt.old {X : Nat → List Nat} {S F : Nat} (hS : S < 4611686018427387904) : ∀ (rows : List (Nat × List (List Nat))) (a p : Nat), LogAt X S F a rows → a ≤ p → p < a + logLen rows → Old (S + 1) (X p) := by
  intro rows
  induction rows with
  | nil => intro a p _ h1 h2; exact absurd h2 (by show ¬ p < a + 0; omega)
  | cons x rows ih =>
    intro a p h h1 h2
    have el : logLen (x :: rows) = secsOf (txSize x.2) + logLen rows := by unfold logLen; rw [List.map_cons, List.sum_cons]
    rw [el] at h2
    obtain ⟨k1, k2, k3, k4, k5⟩ := h
    by_cases hp : p < a + secsOf (txSize x.2)
    · have hnl := notLong k4
      have hK : secsOf (txSize x.2) ≤ 250 := by unfold secsOf; omega
      have hpl : (pieceAt (bodyOf x.2) (p - a)).length ≤ 44 := by rw [pieceAt_eq, List.length_take]; omega
      have e := k1 (p - a) (by omega)
      rw [show a + (p - a) = p by omega] at e
      rw [e]
      refine Or.inr ⟨by rw [partOk_part _ _ _ _ hpl (by omega) (by omega)]; exact decide_eq_true (by omega), ?_⟩
      rw [pS_part _ _ _ _ hpl (by omega)]
      omega
    · exact ih _ p k5 (by omega) (by omega)
end Go.Proofs.YtebalanfagglnaaDoor

namespace Go.Proofs.YtebalanfagglnaaDoor
open Go.RowKit Go.Maps

theorem bootTo_other (m : Pl) (keep : List Int) (i : Nat) (h : m.wt i = []) : ∀ n, n ≤ m.wts.length → (bootTo m keep n).1 i = m.fl i := by
  intro n
  induction n with
  | zero => intro _; rfl
  | succ n ih =>
    intro hn
    have hx : m.wts[n]? = some m.wts[n] := List.getElem?_eq_getElem (by omega)
    rw [bootTo_succ m keep n _ hx]
    have hd : (m.wts[n]).dev ≠ i := fun e => by
      have h1 : m.wts[n] ∈ m.wt i := List.mem_filter.2 ⟨List.getElem_mem _, by simp [e]⟩
      rw [h] at h1
      cases h1
    have hi := ih (by omega)
    unfold bootStep
    split
    · exact hi
    · show upd _ _ _ i = _
      unfold upd
      rw [if_neg (Ne.symm hd)]
      exact hi
theorem boot_rd (m : Pl) (keep : List Int) (i p : Nat) (h : m.wt i = []) : (m.boot keep).rd i p = m.rd i p := by
  unfold Pl.rd
  rw [h]
  have h1 : (m.boot keep).wt i = [] := rfl
  rw [h1]
  show Option.getD none ((bootTo m keep m.wts.length).1 i |>.getD p zeros) = _
  rw [bootTo_other m keep i h _ (Nat.le_refl _)]
  rfl
end Go.Proofs.YtebalanfagglnaaDoor

namespace Go.Proofs.YtebalanfagglnaaDoor
open Go.RowKit Go.Maps

/-- a slice of transactions -/
def TxsIn (w : World) (v : Value) (D : List (List (List Nat))) : Prop :=
  ∃ p cap, v = .slice p D.length cap ∧ D.length ≤ 1000000 ∧ (D = [] ∨ ∃ b off, p = some ⟨b, off, none⟩ ∧ ∀ i, i < D.length → ∃ u, w.cell? ⟨b, off + i, none⟩ = some u ∧ RowsIn w u (D.getD i []))
theorem sl38 : Tryd.prog.underlying 36 = some (.slice (Tryd.prog.elem 36)) := by kernel_rfl
theorem size30 : (Tryd.prog.info? 28).map (·.size) = some 1 := by kernel_rfl
theorem o30 : OneT 28 := fun w g o v h => by simp [loadVar, isAgg, run_underlying Tryd.underlying28, h]
theorem idx38 (b off n cap k : Nat) (h : k < n) (w' : World) : (Instr.indexAt 36 (.slice (some ⟨b, off, none⟩) n cap) (.int .i64 (k : Nat))).run Tryd.prog w' = .ok (.pointer (some ⟨b, off + k, none⟩)) w' := by
  obtain ⟨i5, hi5, hsz⟩ := Option.map_eq_some_iff.1 size30
  simp [Instr.indexAt, asIntOf, run_underlying Tryd.underlying36, h, sizeOf, typeInfo, hi5, hsz, add_none]
section
variable {ops : Array Oper} {a : Act} {S : World → Prop} {o : Oper}
theorem gIx {t : TypeId} (hw : Region.wanted o (yielded ops a.tmps) = true) (x i : Operand) (ho : o.op = .indexAddr t x i) (v p I : Value) (hx : a.eval x = v) (hi : a.eval i = I) (hr : ∀ w', (Instr.indexAt t v I).run Tryd.prog w' = .ok p w') : YieldsIf Tryd.prog ops S o p a := gRun hw p fun _ _ => run_idx x i ho v p I hx hi hr
theorem gLen {t : TypeId} (hu : Tryd.prog.underlying t = some (.slice (Tryd.prog.elem t))) (hw : Region.wanted o (yielded ops a.tmps) = true) (x : Operand) (ho : o.op = .call { callee := .builtin .len, args := #[x], argTypes := #[t] }) (p : Option Addr) (n cap : Nat) (hx : a.eval x = .slice p n cap) : YieldsIf Tryd.prog ops S o (.int .i64 (n : Nat)) a := gRun hw _ fun w _ => by
  simp only [execOp, ho, resolve, invoke, builtin, Sem.run_bind, Sem.run_pure, Result.andThen_ok, List.map_toArray, List.map_cons, List.map_nil, hx, run_len_slice w _ _ _ _ _ hu]
  rfl
theorem gNeq3 (hw : Region.wanted o (yielded ops a.tmps) = true) (x y : Operand) (ho : o.op = .binOp .neq 3 x y 3) (m : Nat) (hx : a.eval x = .int .i64 (m : Nat)) (hy : a.eval y = .int .i64 (m : Nat)) : YieldsIf Tryd.prog ops S o (.bool false) a := gRun hw _ fun w _ => by
  have e : (eqGuard .neq 3 x y (.int .i64 (m : Nat)) (.int .i64 (m : Nat))).run Tryd.prog w = .ok () w := rfl
  exact run_binOp' x y ho _ _ _ hx hy e (by simp [binOp, Op.intCmp])
theorem gStr (hw : Region.wanted o (yielded ops a.tmps) = true) (x : Operand) (ho : o.op = .convert 50 9 x) (v : Value) (cs : List Nat) (hx : a.eval x = v) (hin : ∀ w, S w → SliceIn w v cs) : YieldsIf Tryd.prog ops S o (.string (strOfNums (cs.map Int.ofNat))) a := gRun hw _ fun w h => by simp [execOp, ho, hx, run_bstring (hin w h)]
theorem gSne (hw : Region.wanted o (yielded ops a.tmps) = true) (x y : Operand) (ho : o.op = .binOp .neq 9 x y 9) (s : ByteArray) (hx : a.eval x = .string s) (hy : a.eval y = .string s) : YieldsIf Tryd.prog ops S o (.bool false) a := gRun hw _ fun w _ => by
  simp only [execOp, ho, hx, hy]
  simp [go_sem]
end
set_option maxHeartbeats 4000000 in
set_option maxRecDepth 100000 in
theorem same_any {w : World} {va vb : Value} {D : List (List (List Nat))} (ha : TxsIn w va D) (hb : TxsIn w vb D) : Calls Tryd.prog 16 #[va, vb] w fun e w' => e = .returned (.bool true) ∧ Below w.heap.size w w' := by
  obtain ⟨pa, ca, rfl, hn, ha⟩ := ha
  obtain ⟨pb, cb, rfl, _, hb⟩ := hb
  obtain ⟨n, hnn⟩ : ∃ n, n = D.length := ⟨_, rfl⟩
  have HN : Hid (n = D.length) := hnn
  have HA : Hid (∀ i, i < n → ∃ b off u, pa = some ⟨b, off, none⟩ ∧ w.cell? ⟨b, off + i, none⟩ = some u ∧ RowsIn w u (D.getD i [])) := fun i hi => by
    rw [hnn] at hi
    rcases ha with rfl | ⟨b, off, h1, h2⟩
    · exact absurd hi (Nat.not_lt_zero _)
    · obtain ⟨u, h3, h4⟩ := h2 i hi
      exact ⟨b, off, u, h1, h3, h4⟩
  have HB : Hid (∀ i, i < n → ∃ b off u, pb = some ⟨b, off, none⟩ ∧ w.cell? ⟨b, off + i, none⟩ = some u ∧ RowsIn w u (D.getD i [])) := fun i hi => by
    rw [hnn] at hi
    rcases hb with rfl | ⟨b, off, h1, h2⟩
    · exact absurd hi (Nat.not_lt_zero _)
    · obtain ⟨u, h3, h4⟩ := h2 i hi
      exact ⟨b, off, u, h1, h3, h4⟩
  rw [← hnn] at hn ⊢
  clear ha hb hnn
  go_enter Tryd.func16, Tryd.ntmps16
  go_upto_region 3 with (first | (refine wl_sl sl38 (.tmp 7) rfl rfl pa n ca rfl ?_) | (refine wl_sl sl38 (.tmp 9) rfl rfl pb n cb rfl ?_))
  go_wp2_with fail
  go_loopw [5] (fun vi W => ∃ i : Nat, i ≤ n ∧ vi = .int .i64 (i : Nat) ∧ Below w.heap.size w W) (fun vi _ => n - (intOf vi).toNat)
  case atStart => exact ⟨0, Nat.zero_le _, rfl, Below.refl _ _⟩
  case round =>
    obtain ⟨i, hi, rfl, hW⟩ := hrel
    have HW : Hid (Below w.heap.size w wr) := hW
    clear hW
    by_cases hlt : i < n
    · have t1 : decide ((i : Int) < (n : Int)) = true := decide_eq_true (by omega)
      obtain ⟨ba, oa, ua, rfl, hca, hra⟩ := HA.out i hlt
      obtain ⟨bb, ob, ub, rfl, hcb, hrb⟩ := HB.out i hlt
      obtain ⟨L, hL⟩ : ∃ L, L = D.getD i [] := ⟨_, rfl⟩
      rw [← hL] at hra hrb
      obtain ⟨k, hk⟩ : ∃ k, k = L.length := ⟨_, rfl⟩
      have HRA := hra
      have HRB := hrb
      obtain ⟨qa, da, rfl, hk1, hra⟩ := hra
      obtain ⟨qb, db, rfl, _, hrb⟩ := hrb
      rw [← hk] at hca hcb HRA HRB hk1
      have HK : Hid (k = L.length) := hk
      have HC : Hid (w.cell? ⟨ba, oa + i, none⟩ = some (.slice qa k da) ∧ w.cell? ⟨bb, ob + i, none⟩ = some (.slice qb k db)) := ⟨hca, hcb⟩
      have HLA : Hid (∀ j, j < k → ∃ b off u, qa = some ⟨b, off, none⟩ ∧ w.cell? ⟨b, off + j, none⟩ = some u ∧ SliceIn w u (L.getD j [])) := fun j hj => by
        rw [hk] at hj
        rcases hra with rfl | ⟨b, off, h1, h2⟩
        · exact absurd hj (Nat.not_lt_zero _)
        · obtain ⟨u, h3, h4⟩ := h2 j hj
          exact ⟨b, off, u, h1, h3, h4⟩
      have HLB : Hid (∀ j, j < k → ∃ b off u, qb = some ⟨b, off, none⟩ ∧ w.cell? ⟨b, off + j, none⟩ = some u ∧ SliceIn w u (L.getD j [])) := fun j hj => by
        rw [hk] at hj
        rcases hrb with rfl | ⟨b, off, h1, h2⟩
        · exact absurd hj (Nat.not_lt_zero _)
        · obtain ⟨u, h3, h4⟩ := h2 j hj
          exact ⟨b, off, u, h1, h3, h4⟩
      clear hca hcb hra hrb hL hk HRA HRB HA HB
      go_upto_region 6 with (refine wl_sl sl38 (.tmp 13) rfl rfl _ n ca rfl ?_)
      refine wp_region_held (S := fun X => Below w.heap.size w X) (by kernel_rfl) ?_
      show wpAnyH _ _ _ _ _ 11 (Array.replicate 11 false) _ _
      obtain ⟨X, hX⟩ : ∃ X : World, X = { wr with drawn := wr.drawn + 1 } := ⟨_, rfl⟩
      rw [← hX]
      have hS0 : Below w.heap.size w X := by rw [hX]; exact ⟨HW.out.os, HW.out.tape, HW.out.output, HW.out.size, HW.out.block⟩
      clear hX
      refine takeH (i := 0) (some 18) rfl rfl (by kernel_rfl) (by kernel_rfl) (by kernel_rfl) (fun _ _ _ h => h) (gMove rfl (.tmp 0) rfl (.slice (some ⟨ba, oa, none⟩) n ca) rfl) hS0 ?_
      simp only [Act.put, aS, aC, aZ]
      refine takeH (i := 1) (some 19) rfl rfl (by kernel_rfl) (by kernel_rfl) (by kernel_rfl) (fun _ _ _ h => h) (gMove rfl (.tmp 5) rfl (.int .i64 (i : Nat)) rfl) hS0 ?_
      simp only [Act.put, aS, aC, aZ]
      refine takeH (i := 2) (some 20) rfl rfl (by kernel_rfl) (by kernel_rfl) (by kernel_rfl) (fun _ _ _ h => h) (gIx rfl (.tmp 18) (.tmp 19) rfl _ _ _ rfl rfl (idx38 ba oa n ca i hlt)) hS0 ?_
      simp only [Act.put, aS, aC, aZ]
      refine takeH (i := 3) (some 21) rfl rfl (by kernel_rfl) (by kernel_rfl) (by kernel_rfl) (fun _ _ _ h => h) (gLoad o30 rfl (.tmp 20) rfl ba (oa + i) rfl (.slice qa k da) (fun W h => by rw [← HC.out.1]; exact World.cell?_of_block (h.block ba (block_lt_of_cell HC.out.1)))) hS0 ?_
      simp only [Act.put, aS, aC, aZ]
      refine takeH (i := 4) (some 22) rfl rfl (by kernel_rfl) (by kernel_rfl) (by kernel_rfl) (fun _ _ _ h => h) (gLen sl30 rfl (.tmp 21) rfl qa k da rfl) hS0 ?_
      simp only [Act.put, aS, aC, aZ]
      refine takeH (i := 5) (some 23) rfl rfl (by kernel_rfl) (by kernel_rfl) (by kernel_rfl) (fun _ _ _ h => h) (gMove rfl (.tmp 1) rfl (.slice (some ⟨bb, ob, none⟩) n cb) rfl) hS0 ?_
      simp only [Act.put, aS, aC, aZ]
      refine takeH (i := 6) (some 24) rfl rfl (by kernel_rfl) (by kernel_rfl) (by kernel_rfl) (fun _ _ _ h => h) (gMove rfl (.tmp 5) rfl (.int .i64 (i : Nat)) rfl) hS0 ?_
      simp only [Act.put, aS, aC, aZ]
      refine takeH (i := 7) (some 25) rfl rfl (by kernel_rfl) (by kernel_rfl) (by kernel_rfl) (fun _ _ _ h => h) (gIx rfl (.tmp 23) (.tmp 24) rfl _ _ _ rfl rfl (idx38 bb ob n cb i hlt)) hS0 ?_
      simp only [Act.put, aS, aC, aZ]
      refine takeH (i := 8) (some 26) rfl rfl (by kernel_rfl) (by kernel_rfl) (by kernel_rfl) (fun _ _ _ h => h) (gLoad o30 rfl (.tmp 25) rfl bb (ob + i) rfl (.slice qb k db) (fun W h => by rw [← HC.out.2]; exact World.cell?_of_block (h.block bb (block_lt_of_cell HC.out.2)))) hS0 ?_
      simp only [Act.put, aS, aC, aZ]
      refine takeH (i := 9) (some 27) rfl rfl (by kernel_rfl) (by kernel_rfl) (by kernel_rfl) (fun _ _ _ h => h) (gLen sl30 rfl (.tmp 26) rfl qb k db rfl) hS0 ?_
      simp only [Act.put, aS, aC, aZ]
      refine takeH (i := 10) (some 28) rfl rfl (by kernel_rfl) (by kernel_rfl) (by kernel_rfl) (fun _ _ _ h => h) (gNeq3 rfl (.tmp 22) (.tmp 27) rfl k rfl rfl) hS0 ?_
      simp only [Act.put, aS, aC, aZ]
      refine wpAnyH_done (by kernel_rfl) ?_ _
      have HX : Hid (Below w.heap.size w X) := hS0
      clear hS0
      go_upto_region 8 with fail
      go_wp2_with fail
      go_loopw [6] (fun vj W => ∃ j : Nat, j ≤ k ∧ vj = .int .i64 (j : Nat) ∧ Below w.heap.size w W) (fun vj _ => k - (intOf vj).toNat)
      case atStart => exact ⟨0, Nat.zero_le _, rfl, HX.out⟩
      case round =>
        obtain ⟨j, hj, rfl, hW2⟩ := hrel
        have HW2 := (⟨hW2⟩ : PLift (Below w.heap.size w _))
        have kca := (World.cell?_of_block (a := ⟨ba, oa + i, none⟩) (hW2.block ba (block_lt_of_cell HC.out.1))).trans HC.out.1
        by_cases hlj : j < k
        · have t2 : decide ((j : Int) < (k : Int)) = true := decide_eq_true (by omega)
          obtain ⟨b1, o1, u1, rfl, hc1, hs1⟩ := HLA.out j hlj
          obtain ⟨b2, o2, u2, rfl, hc2, hs2⟩ := HLB.out j hlj
          obtain ⟨cs, hcs⟩ : ∃ cs, cs = L.getD j [] := ⟨_, rfl⟩
          rw [← hcs] at hs1 hs2
          have H1 : Hid (w.cell? ⟨b1, o1 + j, none⟩ = some u1 ∧ w.cell? ⟨b2, o2 + j, none⟩ = some u2 ∧ SliceIn w u1 cs ∧ SliceIn w u2 cs) := ⟨hc1, hc2, hs1, hs2⟩
          clear hc1 hc2 hs1 hs2 hcs
          go_upto_region 11 with (first | (refine wl_ix (.tmp 30) (.tmp 31) rfl rfl _ _ _ rfl rfl (idx38 ba oa n ca i hlt) ?_) | (refine wl_sl sl30 (.tmp 33) rfl rfl _ k da rfl ?_))
          clear kca
          refine wp_region_held (S := fun X => Below w.heap.size w X) (by kernel_rfl) ?_
          show wpAnyH _ _ _ _ _ 17 (Array.replicate 17 false) _ _
          obtain ⟨Y, hY⟩ : ∃ Y : World, Y = { wr with drawn := wr.drawn + 1 } := ⟨_, rfl⟩
          rw [← hY]
          have hS1 : Below w.heap.size w Y := by rw [hY]; exact ⟨hW2.os, hW2.tape, hW2.output, hW2.size, hW2.block⟩
          clear hY
          refine takeH (i := 0) (some 38) rfl rfl (by kernel_rfl) (by kernel_rfl) (by kernel_rfl) (fun _ _ _ h => h) (gMove rfl (.tmp 0) rfl (.slice (some ⟨ba, oa, none⟩) n ca) rfl) hS1 ?_
          simp only [Act.put, aS, aC, aZ]
          refine takeH (i := 1) (some 39) rfl rfl (by kernel_rfl) (by kernel_rfl) (by kernel_rfl) (fun _ _ _ h => h) (gMove rfl (.tmp 5) rfl (.int .i64 (i : Nat)) rfl) hS1 ?_
          simp only [Act.put, aS, aC, aZ]
          refine takeH (i := 2) (some 40) rfl rfl (by kernel_rfl) (by kernel_rfl) (by kernel_rfl) (fun _ _ _ h => h) (gIx rfl (.tmp 38) (.tmp 39) rfl _ _ _ rfl rfl (idx38 ba oa n ca i hlt)) hS1 ?_
          simp only [Act.put, aS, aC, aZ]
          refine takeH (i := 3) (some 41) rfl rfl (by kernel_rfl) (by kernel_rfl) (by kernel_rfl) (fun _ _ _ h => h) (gLoad o30 rfl (.tmp 40) rfl ba (oa + i) rfl _ (fun W h => by rw [← HC.out.1]; exact World.cell?_of_block (h.block ba (block_lt_of_cell HC.out.1)))) hS1 ?_
          simp only [Act.put, aS, aC, aZ]
          refine takeH (i := 4) (some 42) rfl rfl (by kernel_rfl) (by kernel_rfl) (by kernel_rfl) (fun _ _ _ h => h) (gMove rfl (.tmp 6) rfl (.int .i64 (j : Nat)) rfl) hS1 ?_
          simp only [Act.put, aS, aC, aZ]
          refine takeH (i := 5) (some 43) rfl rfl (by kernel_rfl) (by kernel_rfl) (by kernel_rfl) (fun _ _ _ h => h) (gIx rfl (.tmp 41) (.tmp 42) rfl _ _ _ rfl rfl (idx30 b1 o1 k da j hlj)) hS1 ?_
          simp only [Act.put, aS, aC, aZ]
          refine takeH (i := 6) (some 44) rfl rfl (by kernel_rfl) (by kernel_rfl) (by kernel_rfl) (fun _ _ _ h => h) (gLoad o51 rfl (.tmp 43) rfl b1 (o1 + j) rfl u1 (fun W h => by rw [← H1.out.1]; exact World.cell?_of_block (h.block b1 (block_lt_of_cell H1.out.1)))) hS1 ?_
          simp only [Act.put, aS, aC, aZ]
          refine takeH (i := 7) (some 45) rfl rfl (by kernel_rfl) (by kernel_rfl) (by kernel_rfl) (fun _ _ _ h => h) (gStr rfl (.tmp 44) rfl u1 cs rfl (fun _ h => H1.out.2.2.1.later h)) hS1 ?_
          simp only [Act.put, aS, aC, aZ]
          refine takeH (i := 8) (some 46) rfl rfl (by kernel_rfl) (by kernel_rfl) (by kernel_rfl) (fun _ _ _ h => h) (gMove rfl (.tmp 1) rfl (.slice (some ⟨bb, ob, none⟩) n cb) rfl) hS1 ?_
          simp only [Act.put, aS, aC, aZ]
          refine takeH (i := 9) (some 47) rfl rfl (by kernel_rfl) (by kernel_rfl) (by kernel_rfl) (fun _ _ _ h => h) (gMove rfl (.tmp 5) rfl (.int .i64 (i : Nat)) rfl) hS1 ?_
          simp only [Act.put, aS, aC, aZ]
          refine takeH (i := 10) (some 48) rfl rfl (by kernel_rfl) (by kernel_rfl) (by kernel_rfl) (fun _ _ _ h => h) (gIx rfl (.tmp 46) (.tmp 47) rfl _ _ _ rfl rfl (idx38 bb ob n cb i hlt)) hS1 ?_
          simp only [Act.put, aS, aC, aZ]
          refine takeH (i := 11) (some 49) rfl rfl (by kernel_rfl) (by kernel_rfl) (by kernel_rfl) (fun _ _ _ h => h) (gLoad o30 rfl (.tmp 48) rfl bb (ob + i) rfl _ (fun W h => by rw [← HC.out.2]; exact World.cell?_of_block (h.block bb (block_lt_of_cell HC.out.2)))) hS1 ?_
          simp only [Act.put, aS, aC, aZ]
          refine takeH (i := 12) (some 50) rfl rfl (by kernel_rfl) (by kernel_rfl) (by kernel_rfl) (fun _ _ _ h => h) (gMove rfl (.tmp 6) rfl (.int .i64 (j : Nat)) rfl) hS1 ?_
          simp only [Act.put, aS, aC, aZ]
          refine takeH (i := 13) (some 51) rfl rfl (by kernel_rfl) (by kernel_rfl) (by kernel_rfl) (fun _ _ _ h => h) (gIx rfl (.tmp 49) (.tmp 50) rfl _ _ _ rfl rfl (idx30 b2 o2 k db j hlj)) hS1 ?_
          simp only [Act.put, aS, aC, aZ]
          refine takeH (i := 14) (some 52) rfl rfl (by kernel_rfl) (by kernel_rfl) (by kernel_rfl) (fun _ _ _ h => h) (gLoad o51 rfl (.tmp 51) rfl b2 (o2 + j) rfl u2 (fun W h => by rw [← H1.out.2.1]; exact World.cell?_of_block (h.block b2 (block_lt_of_cell H1.out.2.1)))) hS1 ?_
          simp only [Act.put, aS, aC, aZ]
          refine takeH (i := 15) (some 53) rfl rfl (by kernel_rfl) (by kernel_rfl) (by kernel_rfl) (fun _ _ _ h => h) (gStr rfl (.tmp 52) rfl u2 cs rfl (fun _ h => H1.out.2.2.2.later h)) hS1 ?_
          simp only [Act.put, aS, aC, aZ]
          refine takeH (i := 16) (some 54) rfl rfl (by kernel_rfl) (by kernel_rfl) (by kernel_rfl) (fun _ _ _ h => h) (gSne rfl (.tmp 45) (.tmp 53) rfl _ rfl rfl) hS1 ?_
          simp only [Act.put, aS, aC, aZ]
          refine wpAnyH_done (by kernel_rfl) ?_ _
          have HY : Hid (Below w.heap.size w Y) := hS1
          clear hS1
          go_wp2_with fail
          refine ⟨⟨j + 1, by omega, by go_num, HY.out⟩, ?_⟩
          simp [intOf]; omega
        · obtain rfl : k = j := by omega
          have t2 : decide ((k : Int) < (k : Int)) = false := decide_eq_false (by omega)
          go_wp2_with (first | (refine wl_ix (.tmp 30) (.tmp 31) rfl rfl _ _ _ rfl rfl (idx38 ba oa n ca i hlt) ?_) | (refine wl_sl sl30 (.tmp 33) rfl rfl _ k da rfl ?_))
          refine ⟨⟨i + 1, by omega, by go_num, HW2.down⟩, ?_⟩
          simp [intOf]; omega
    · obtain rfl : n = i := by omega
      have t1 : decide ((n : Int) < (n : Int)) = false := decide_eq_false (by omega)
      go_wp2_with (refine wl_sl sl38 (.tmp 13) rfl rfl _ n ca rfl ?_)
      go_ret
      exact ⟨rfl, HW.out⟩
end Go.Proofs.YtebalanfagglnaaDoor

/- Layer 14: plain: segments as bits, places, where there is room first. Layer 14: plain: what a place has, and what is read of it. -/
import Derived.Test.YthgidfoidbgnaaaDoorE10
import Derived.Test.YthgidfoidbgnaaaDoorE01
namespace Go.Proofs.YthgidfoidbgnaaaDoor
open Go.RowKit Go.Maps

/-- the bits of n sectors side by side -/
def rowM (f n : Nat) : Nat := (2 ^ n - 1) * 2 ^ f
theorem rowM_lt {f n : Nat} (h : f + n ≤ 16) : rowM f n < 65536 := by
 unfold rowM
 have h1 : 2 ^ n * 2 ^ f ≤ 65536 := by
  rw [← Nat.pow_add]
  exact Nat.pow_le_pow_right (by decide) (by omega : n + f ≤ 16)
 have h2 : 0 < 2 ^ f := Nat.pow_pos (by decide)
 have h3 : 0 < 2 ^ n := Nat.pow_pos (by decide)
 have h4 : (2 ^ n - 1) * 2 ^ f + 2 ^ f = 2 ^ n * 2 ^ f := by
  rw [Nat.sub_mul, Nat.one_mul]
  have : 2 ^ f ≤ 2 ^ n * 2 ^ f := Nat.le_mul_of_pos_left _ h3
  omega
 omega
theorem rowM_bit (f n j : Nat) : (rowM f n).testBit j = decide (f ≤ j ∧ j < f + n) := by
 unfold rowM
 rw [← Nat.shiftLeft_eq, Nat.testBit_shiftLeft, Nat.testBit_two_pow_sub_one]
 by_cases h : f ≤ j
 ·simp [h]; omega
 ·simp [h]
/-- a bit stays where the next ones are there too -/
def moves : Nat → Nat → Nat
 | 0, s => s
 | k + 1, s => moves k s &&& (moves k s >>> 1)
theorem moves_lt (k s : Nat) (h : s < 65536) : moves k s < 65536 := by
 induction k with
 | zero => exact h
 | succ k ih => exact Nat.lt_of_le_of_lt Nat.and_le_left ih
theorem moves_bit (s : Nat) : ∀ k j, (moves k s).testBit j = true ↔ ∀ i, i ≤ k → s.testBit (j + i) = true := by
 intro k
 induction k with
 | zero =>
  intro j
  refine ⟨fun h i hi => ?_, fun h => h 0 (Nat.le_refl _)⟩
  obtain rfl : i = 0 := by omega
  exact h
 | succ k ih =>
  intro j
  show (moves k s &&& (moves k s >>> 1)).testBit j = true ↔ _
  rw [Nat.testBit_and, Nat.testBit_shiftRight, Bool.and_eq_true, ih, ih]
  constructor
  ·rintro ⟨h1, h2⟩ i hi
   by_cases e : i ≤ k
   ·exact h1 i e
   ·obtain rfl : i = k + 1 := by omega
    have := h2 k (Nat.le_refl _)
    rw [show 1 + j + k = j + (k + 1) by omega] at this
    exact this
  ·intro h
   exact ⟨fun i hi => h i (by omega), fun i hi => by rw [show 1 + j + i = j + (i + 1) by omega]; exact h (i + 1) (by omega)⟩
/-- the lowest bit -/
def LowB (s j : Nat) : Prop := s.testBit j = true ∧ ∀ i, i < j → s.testBit i = false
/-- all n sectors from a on are free -/
def AllFree (fr : List Nat) (a n : Nat) : Prop := a / 16 < fr.length ∧ a % 16 + n ≤ 16 ∧ ∀ i, i < n → (fr.getD (a / 16) 0).testBit (a % 16 + i) = true
/-- places in use, and the free sectors -/
structure SegInv (fr : List Nat) (us : List (Nat × Nat)) : Prop where
 lt : ∀ s ∈ fr, s < 65536
 ok : ∀ u ∈ us, 1 ≤ u.2 ∧ u.1 % 16 + u.2 ≤ 16 ∧ u.1 / 16 < fr.length
 bit : ∀ p, p / 16 < fr.length → ((fr.getD (p / 16) 0).testBit (p % 16) = true ↔ ∀ u ∈ us, ¬ (u.1 ≤ p ∧ p < u.1 + u.2))
 apart : us.Pairwise fun a b => a.1 + a.2 ≤ b.1 ∨ b.1 + b.2 ≤ a.1
/-- a place that is none of the used ones' -/
def Room1 (k : Nat) (us : List (Nat × Nat)) (a n : Nat) : Prop := a / 16 < k ∧ a % 16 + n ≤ 16 ∧ ∀ u ∈ us, u.1 + u.2 ≤ a ∨ a + n ≤ u.1
theorem SegInv.free {fr : List Nat} {us : List (Nat × Nat)} (h : SegInv fr us) {a n : Nat} (hn : 1 ≤ n) : AllFree fr a n ↔ Room1 fr.length us a n := by
 have hd := Nat.div_add_mod a 16
 constructor
 ·rintro ⟨h1, h2, h3⟩
  refine ⟨h1, h2, fun u hu => ?_⟩
  rcases Nat.lt_or_ge a (u.1 + u.2) with k1 | k1
  ·rcases Nat.lt_or_ge u.1 (a + n) with k2 | k2
   ·exfalso
    obtain ⟨o1, o2, o3⟩ := h.ok u hu
    obtain ⟨i, hi, hc⟩ : ∃ i, i < n ∧ u.1 ≤ a + i ∧ a + i < u.1 + u.2 := by
     by_cases e : u.1 ≤ a
     ·exact ⟨0, by omega, by omega, by omega⟩
     ·exact ⟨u.1 - a, by omega, by omega, by omega⟩
    have e1 : (a + i) / 16 = a / 16 := by omega
    have e2 : (a + i) % 16 = a % 16 + i := by omega
    have := (h.bit (a + i) (by rw [e1]; exact h1)).1 (by rw [e1, e2]; exact h3 i hi) u hu
    exact this hc
   ·exact Or.inr k2
  ·exact Or.inl k1
 ·rintro ⟨h1, h2, h3⟩
  refine ⟨h1, h2, fun i hi => ?_⟩
  have e1 : (a + i) / 16 = a / 16 := by omega
  have e2 : (a + i) % 16 = a % 16 + i := by omega
  rw [← e2, ← e1]
  exact (h.bit (a + i) (by rw [e1]; exact h1)).2 fun u hu hc => by
   rcases h3 u hu with k | k <;> omega
theorem SegInv.new (k : Nat) : SegInv (List.replicate k 65535) [] := by
 refine ⟨fun s hs => by rw [(List.mem_replicate.1 hs).2]; decide, fun u hu => (by cases hu), fun p hp => ?_, List.Pairwise.nil⟩
 rw [List.length_replicate] at hp
 rw [show (List.replicate k 65535).getD (p / 16) 0 = 65535 by simp [List.getD_eq_getElem?_getD, hp]]
 refine ⟨fun _ u hu => (by cases hu), fun _ => ?_⟩
 rw [show (65535 : Nat) = 2 ^ 16 - 1 by decide, Nat.testBit_two_pow_sub_one]
 exact decide_eq_true (Nat.mod_lt p (show 0 < 16 by decide))
/-- bits that are taken away -/
def lessM (s r : Nat) : Nat := s &&& (65535 - r)
theorem lessM_bit {s r : Nat} (hs : s < 65536) (hr : r < 65536) (j : Nat) : (lessM s r).testBit j = (s.testBit j && !(r.testBit j)) := by
 unfold lessM
 have e := Nat.testBit_two_pow_sub_succ (x := r) (n := 16) hr j
 rw [show (2 : Nat) ^ 16 - (r + 1) = 65535 - r by omega] at e
 rw [Nat.testBit_and, e]
 by_cases hj : j < 16
 ·rw [decide_eq_true hj]; simp
 ·rw [Nat.testBit_lt_two_pow (show s < 2 ^ j from Nat.lt_of_lt_of_le hs (Nat.pow_le_pow_right (show 0 < 2 by decide) (by omega : 16 ≤ j)))]
  rfl
theorem getD_mem_lt {fr : List Nat} (h : ∀ s ∈ fr, s < 65536) (i : Nat) : fr.getD i 0 < 65536 := by
 rw [List.getD_eq_getElem?_getD]
 cases e : fr[i]? with
 | none => decide
 | some x => exact h x (List.mem_of_getElem? e)
theorem set_getD {fr : List Nat} {i j v : Nat} (hi : i < fr.length) : (fr.set i v).getD j 0 = if j = i then v else fr.getD j 0 := by
 by_cases e : j = i
 ·subst e; simp [List.getD_eq_getElem?_getD, hi]
 ·rw [if_neg e]; simp [List.getD_eq_getElem?_getD, List.getElem?_set_ne (Ne.symm e)]
theorem set_lt {fr : List Nat} (h : ∀ s ∈ fr, s < 65536) (i v : Nat) (hv : v < 65536) : ∀ s ∈ fr.set i v, s < 65536 := fun s hs => by
 rcases List.mem_or_eq_of_mem_set hs with k | k
 ·exact h s k
 ·rw [k]; exact hv
theorem SegInv.take {fr : List Nat} {us : List (Nat × Nat)} (h : SegInv fr us) {a n : Nat} (hn : 1 ≤ n) (hf : Room1 fr.length us a n) : SegInv (fr.set (a / 16) (lessM (fr.getD (a / 16) 0) (rowM (a % 16) n))) (us ++ [(a, n)]) := by
 obtain ⟨h1, h2, h3⟩ := hf
 have hs := getD_mem_lt h.lt (a / 16)
 refine ⟨set_lt h.lt _ _ (Nat.lt_of_le_of_lt Nat.and_le_left hs), fun u hu => ?_, fun p hp => ?_, ?_⟩
 ·rw [List.length_set]
  rcases List.mem_append.1 hu with k | k
  ·exact h.ok u k
  ·rw [List.mem_singleton.1 k]; exact ⟨hn, h2, h1⟩
 ·rw [List.length_set] at hp
  rw [set_getD h1]
  have hb := h.bit p hp
  have hd := Nat.div_add_mod a 16
  have hdp := Nat.div_add_mod p 16
  by_cases e : p / 16 = a / 16
  ·rw [if_pos e, lessM_bit hs (rowM_lt h2), rowM_bit, Bool.and_eq_true, ← e, hb, Bool.not_eq_true', decide_eq_false_iff_not]
   constructor
   ·rintro ⟨k1, k2⟩ u hu hc
    rcases List.mem_append.1 hu with k | k
    ·exact k1 u k hc
    ·rw [List.mem_singleton.1 k] at hc
     simp only at hc
     exact k2 ⟨by omega, by omega⟩
   ·intro k
    refine ⟨fun u hu => k u (List.mem_append_left _ hu), fun hc => ?_⟩
    exact k (a, n) (List.mem_append_right _ (List.mem_singleton.2 rfl)) ⟨by simp only; omega, by simp only; omega⟩
  ·rw [if_neg e, hb]
   constructor
   ·intro k1 u hu hc
    rcases List.mem_append.1 hu with k | k
    ·exact k1 u k hc
    ·rw [List.mem_singleton.1 k] at hc
     simp only at hc
     omega
   ·exact fun k u hu => k u (List.mem_append_left _ hu)
 ·rw [List.pairwise_append]
  refine ⟨h.apart, List.pairwise_singleton _ _, fun u hu v hv => ?_⟩
  rw [List.mem_singleton.1 hv]
  exact h3 u hu
theorem SegInv.perm {fr : List Nat} {us vs : List (Nat × Nat)} (h : SegInv fr us) (hp : us.Perm vs) : SegInv fr vs :=
 ⟨h.lt, fun u hu => h.ok u (hp.mem_iff.2 hu), fun p hk => (h.bit p hk).trans ⟨fun k u hu => k u (hp.mem_iff.2 hu), fun k u hu => k u (hp.mem_iff.1 hu)⟩, hp.pairwise h.apart fun h => h.symm⟩
theorem SegInv.give {fr : List Nat} {us : List (Nat × Nat)} {a n : Nat} (h : SegInv fr ((a, n) :: us)) : SegInv (fr.set (a / 16) (fr.getD (a / 16) 0 ||| rowM (a % 16) n)) us := by
 obtain ⟨o1, o2, o3⟩ := h.ok _ (List.mem_cons_self ..)
 have o1 : 1 ≤ n := o1
 have o2 : a % 16 + n ≤ 16 := o2
 have o3 : a / 16 < fr.length := o3
 have hr := rowM_lt o2
 have hs := getD_mem_lt h.lt (a / 16)
 have hap := List.pairwise_cons.1 h.apart
 refine ⟨set_lt h.lt _ _ (Nat.or_lt_two_pow (n := 16) hs hr), fun u hu => by rw [List.length_set]; exact h.ok u (List.mem_cons_of_mem _ hu), fun p hp => ?_, hap.2⟩
 rw [List.length_set] at hp
 rw [set_getD o3]
 have hb := h.bit p hp
 have hd := Nat.div_add_mod a 16
 have hdp := Nat.div_add_mod p 16
 by_cases e : p / 16 = a / 16
 ·rw [if_pos e, Nat.testBit_or, rowM_bit, Bool.or_eq_true, ← e, hb, decide_eq_true_eq]
  constructor
  ·rintro (k | k) u hu hc
   ·exact k u (List.mem_cons_of_mem _ hu) hc
   ·have hk := hap.1 u hu
    simp only at hk
    omega
  ·intro k
   by_cases e2 : a % 16 ≤ p % 16 ∧ p % 16 < a % 16 + n
   ·exact Or.inr e2
   ·left
    intro u hu hc
    rcases List.mem_cons.1 hu with k1 | k1
    ·rw [k1] at hc
     simp only at hc
     omega
    ·exact k u k1 hc
 ·rw [if_neg e, hb]
  constructor
  ·exact fun k u hu => k u (List.mem_cons_of_mem _ hu)
  ·intro k u hu hc
   rcases List.mem_cons.1 hu with k1 | k1
   ·rw [k1] at hc
    simp only at hc
    omega
   ·exact k u k1 hc
/-- the least place that has room -/
def Fits (k : Nat) (us : List (Nat × Nat)) (a n : Nat) : Prop := Room1 k us a n ∧ ∀ b, b < a → ¬ Room1 k us b n
theorem Fits.uniq {k : Nat} {us : List (Nat × Nat)} {a b n : Nat} (h : Fits k us a n) (h' : Fits k us b n) : a = b := by
 rcases Nat.lt_trichotomy a b with e | e | e
 ·exact absurd h.1 (h'.2 a e)
 ·exact e
 ·exact absurd h'.1 (h.2 b e)
/-- what was ever asked, segment for segment -/
def sumE (E : Nat → Nat) : Nat → Nat
 | 0 => 0
 | k + 1 => sumE E k + E k
def RoomInv (k : Nat) (us : List (Nat × Nat)) (ever : Nat) : Prop := ∃ E : Nat → Nat, (∀ u ∈ us, u.1 % 16 + u.2 ≤ E (u.1 / 16)) ∧ sumE E k ≤ ever
theorem sumE_upd (E : Nat → Nat) (s n : Nat) : ∀ k, sumE (fun i => if i = s then E i + n else E i) k = sumE E k + if s < k then n else 0 := by
 intro k
 induction k with
 | zero => rfl
 | succ k ih =>
  show sumE (fun i => if i = s then E i + n else E i) k + (if k = s then E k + n else E k) = sumE E k + E k + _
  rw [ih]
  by_cases e : k = s
  ·subst e; rw [if_pos rfl, if_neg (by omega), if_pos (by omega)]; omega
  ·rw [if_neg e]
   by_cases e2 : s < k
   ·rw [if_pos e2, if_pos (by omega)]; omega
   ·rw [if_neg e2, if_neg (by omega)]; omega
theorem RoomInv.none (k : Nat) : RoomInv k [] 0 := ⟨fun _ => 0, fun u hu => (by cases hu), by
 induction k with
 | zero => exact Nat.le_refl _
 | succ k ih => exact ih⟩
theorem RoomInv.mono {k : Nat} {us : List (Nat × Nat)} {e e' : Nat} (h : RoomInv k us e) (he : e ≤ e') : RoomInv k us e' := by
 obtain ⟨E, h1, h2⟩ := h
 exact ⟨E, h1, by omega⟩
theorem RoomInv.sub {k : Nat} {us vs : List (Nat × Nat)} {e : Nat} (h : RoomInv k us e) (hs : ∀ u ∈ vs, u ∈ us) : RoomInv k vs e := by
 obtain ⟨E, h1, h2⟩ := h
 exact ⟨E, fun u hu => h1 u (hs u hu), h2⟩
theorem RoomInv.add {k : Nat} {us : List (Nat × Nat)} {e a n : Nat} (h : RoomInv k us e) (hok : ∀ u ∈ us, 1 ≤ u.2 ∧ u.1 % 16 + u.2 ≤ 16) (hf : Fits k us a n) : RoomInv k (us ++ [(a, n)]) (e + n) := by
 obtain ⟨E, h1, h2⟩ := h
 obtain ⟨⟨f1, f2, f3⟩, f4⟩ := hf
 have hd := Nat.div_add_mod a 16
 have hE : a % 16 ≤ E (a / 16) := by
  by_cases e0 : a % 16 = 0
  ·omega
  ·have hno := f4 (a - 1) (by omega)
   have e1 : (a - 1) / 16 = a / 16 := by omega
   have e2 : (a - 1) % 16 = a % 16 - 1 := by omega
   by_cases hu : ∃ u ∈ us, ¬ (u.1 + u.2 ≤ a - 1 ∨ a - 1 + n ≤ u.1)
   ·obtain ⟨u, hu, hc⟩ := hu
    have o := hok u hu
    have hk := f3 u hu
    have hx := h1 u hu
    have hdu := Nat.div_add_mod u.1 16
    have e3 : u.1 + u.2 = a := by omega
    have e4 : u.1 / 16 = a / 16 := by omega
    rw [e4] at hx
    omega
   ·exfalso
    refine hno ⟨by omega, by omega, fun u hu' => ?_⟩
    rcases Classical.em (u.1 + u.2 ≤ a - 1 ∨ a - 1 + n ≤ u.1) with k1 | k1
    ·exact k1
    ·exact absurd ⟨u, hu', k1⟩ hu
 refine ⟨fun i => if i = a / 16 then E i + n else E i, fun u hu => ?_, by rw [sumE_upd, if_pos f1]; omega⟩
 rcases List.mem_append.1 hu with k1 | k1
 ·have := h1 u k1
  show _ ≤ if u.1 / 16 = a / 16 then E (u.1 / 16) + n else E (u.1 / 16)
  split <;> omega
 ·rw [List.mem_singleton.1 k1]
  show a % 16 + n ≤ if a / 16 = a / 16 then E (a / 16) + n else E (a / 16)
  rw [if_pos rfl]
  omega
theorem RoomInv.full {k : Nat} {us : List (Nat × Nat)} {e n : Nat} (h : RoomInv k us e) (hok : ∀ u ∈ us, 1 ≤ u.2 ∧ u.1 % 16 + u.2 ≤ 16) (hn : n ≤ 9) (hno : ∀ a, ¬ Room1 k us a n) : 8 * k ≤ e := by
 obtain ⟨E, h1, h2⟩ := h
 have h8 : ∀ s, s < k → 8 ≤ E s := fun s hs => by
  rcases Nat.lt_or_ge (E s) 8 with e8 | e8
  ·exfalso
   refine hno (16 * s + E s) ⟨by omega, by omega, fun u hu => ?_⟩
   have o := hok u hu
   have hx := h1 u hu
   have hdu := Nat.div_add_mod u.1 16
   by_cases e1 : u.1 / 16 = s
   ·rw [e1] at hx; omega
   ·rcases Nat.lt_or_gt_of_ne e1 with e2 | e2
    ·left; omega
    ·right; omega
  ·exact e8
 have : ∀ j, j ≤ k → 8 * j ≤ sumE E j := by
  intro j
  induction j with
  | zero => intro _; exact Nat.le_refl _
  | succ j ih =>
   intro hj
   have := ih (by omega)
   have := h8 j (by omega)
   show 8 * (j + 1) ≤ sumE E j + E j
   omega
 have := this k (Nat.le_refl _)
 omega
end Go.Proofs.YthgidfoidbgnaaaDoor

namespace Go.Proofs.YthgidfoidbgnaaaDoor
open Go.RowKit Go.Maps Fr.Frame

def costN (n : Nat) : Nat := 1 + (n + 63) / 64
def labP (d a t : Nat) : List Nat := be 4 t ++ (be 1 d ++ be 2 a)
def mrkP (t i : Nat) : List Nat := be 4 t ++ be 1 i
def piece (rs : List Nat) (i : Nat) : List Nat := (rs.drop (59 * i)).take 59 ++ List.replicate (59 - ((rs.drop (59 * i)).take 59).length) 0
def frmP (d a t : Nat) (b : List Nat) : List Nat := pack 104 (labP d a t ++ b)
def secI (d a t : Nat) (b : List Nat) (i : Nat) : List Nat := piece (frmP d a t b) i ++ mrkP t i
def imgP (d a t : Nat) (b : List Nat) : List (List Nat) := (List.range (costN b.length)).map (secI d a t b)
def pcs (F : List (List Nat)) : List Nat := (F.map (·.take 59)).flatten
def tagP (F : List (List Nat)) : Nat := val ((payOf (pcs F)).take 4)
def payP (F : List (List Nat)) : List Nat := (payOf (pcs F)).drop 7
def UnOk (F : List (List Nat)) : Prop := okB (pcs F) = true ∧ 7 ≤ (payOf (pcs F)).length
instance (F : List (List Nat)) : Decidable (UnOk F) := by unfold UnOk; exact inferInstance
def bytesP (d a : Nat) (F : List (List Nat)) : Option (List Nat) := if UnOk F ∧ (payP F).length ≤ 512 ∧ imgP d a (tagP F) (payP F) = F then some (payP F) else none
theorem piece_length (rs : List Nat) (i : Nat) : (piece rs i).length = 59 := by
 unfold piece
 rw [List.length_append, List.length_replicate]
 have : ((rs.drop (59 * i)).take 59).length ≤ 59 := by rw [List.length_take]; omega
 omega
theorem mrkP_length (t i : Nat) : (mrkP t i).length = 5 := by unfold mrkP; rw [List.length_append, be_length, be_length]
theorem labP_length (d a t : Nat) : (labP d a t).length = 7 := by unfold labP; rw [List.length_append, List.length_append, be_length, be_length, be_length]
theorem secI_length (d a t : Nat) (b : List Nat) (i : Nat) : (secI d a t b i).length = 64 := by unfold secI; rw [List.length_append, piece_length, mrkP_length]
theorem frmP_length (d a t : Nat) (b : List Nat) : (frmP d a t b).length = b.length + 16 := by unfold frmP; rw [pack_length, List.length_append, labP_length]; omega
theorem imgP_length (d a t : Nat) (b : List Nat) : (imgP d a t b).length = costN b.length := by unfold imgP; rw [List.length_map, List.length_range]
theorem lab_lt (d a t : Nat) : ∀ c ∈ labP d a t, c < 256 := fun c hc => by
 unfold labP at hc
 rcases List.mem_append.1 hc with h | h
 ·exact be_lt _ _ c h
 ·rcases List.mem_append.1 h with h | h
  ·exact be_lt _ _ c h
  ·exact be_lt _ _ c h
theorem labb_lt (d a t : Nat) {b : List Nat} (h : ∀ c ∈ b, c < 256) : ∀ c ∈ labP d a t ++ b, c < 256 := fun c hc => by
 rcases List.mem_append.1 hc with h1 | h1
 ·exact lab_lt d a t c h1
 ·exact h c h1
theorem frmP_lt (d a t : Nat) {b : List Nat} (h : ∀ c ∈ b, c < 256) : ∀ c ∈ frmP d a t b, c < 256 := pack_lt _ _ (by decide) (labb_lt d a t h)
theorem piece_lt {rs : List Nat} (h : ∀ c ∈ rs, c < 256) (i : Nat) : ∀ c ∈ piece rs i, c < 256 := fun c hc => by
 unfold piece at hc
 rcases List.mem_append.1 hc with h1 | h1
 ·exact h c (List.mem_of_mem_drop (List.mem_of_mem_take h1))
 ·rw [(List.mem_replicate.1 h1).2]; decide
theorem mrkP_lt (t i : Nat) : ∀ c ∈ mrkP t i, c < 256 := fun c hc => by
 unfold mrkP at hc
 rcases List.mem_append.1 hc with h1 | h1 <;> exact be_lt _ _ c h1
theorem secI_lt (d a t : Nat) {b : List Nat} (h : ∀ c ∈ b, c < 256) (i : Nat) : ∀ c ∈ secI d a t b i, c < 256 := fun c hc => by
 unfold secI at hc
 rcases List.mem_append.1 hc with h1 | h1
 ·exact piece_lt (frmP_lt d a t h) i c h1
 ·exact mrkP_lt t i c h1
theorem be_mod (s n : Nat) : be s (n % 256 ^ s) = be s n := by
 have h := be_val (be s n) (be_lt s n)
 rw [be_length, val_be] at h
 exact h
theorem imgP_mod (d a t : Nat) (b : List Nat) : imgP d a (t % 4294967296) b = imgP d a t b := by
 have e : be 4 (t % 4294967296) = be 4 t := be_mod 4 t
 unfold imgP secI frmP labP mrkP
 rw [e]
/-- a piece, as cut of the bytes with noughts behind -/
theorem piece_cut (rs : List Nat) (M i : Nat) (h : 59 * (i + 1) ≤ rs.length + M) : piece rs i = ((rs ++ List.replicate M 0).drop (59 * i)).take 59 := by
 unfold piece
 rw [List.drop_append, List.take_append, List.drop_replicate, List.take_replicate]
 congr 2
 rw [List.length_take, List.length_drop]
 omega
theorem chunks (Z : List Nat) : ∀ n, ((List.range n).map fun i => (Z.drop (59 * i)).take 59).flatten = Z.take (59 * n) := by
 intro n
 induction n with
 | zero => simp
 | succ n ih =>
  rw [List.range_succ, List.map_append, List.flatten_append, ih, Nat.mul_add, List.take_add]
  simp
theorem pieces_flat (rs : List Nat) (n : Nat) (h : rs.length ≤ 59 * n) : ((List.range n).map (piece rs)).flatten = rs ++ List.replicate (59 * n - rs.length) 0 := by
 have e : (List.range n).map (piece rs) = (List.range n).map fun i => ((rs ++ List.replicate (59 * n - rs.length) 0).drop (59 * i)).take 59 :=
  List.map_congr_left fun i hi => piece_cut rs _ i (by have := List.mem_range.1 hi; have := Nat.mul_le_mul_left 59 (show i + 1 ≤ n by omega); omega)
 rw [e, chunks, List.take_of_length_le (by rw [List.length_append, List.length_replicate]; omega)]
theorem costN_room {n : Nat} (h : n ≤ 512) : n + 16 ≤ 59 * costN n := by unfold costN; omega
theorem costN_le {n : Nat} (h : n ≤ 512) : 1 ≤ costN n ∧ costN n ≤ 9 := by unfold costN; omega
theorem take_sec (d a t : Nat) (b : List Nat) (i : Nat) : (secI d a t b i).take 59 = piece (frmP d a t b) i := by
 unfold secI
 rw [List.take_append_of_le_length (by rw [piece_length]; exact Nat.le_refl _), List.take_of_length_le (by rw [piece_length]; exact Nat.le_refl _)]
theorem pcs_img (d a t : Nat) (b : List Nat) (h : b.length ≤ 512) : pcs (imgP d a t b) = frmP d a t b ++ List.replicate (59 * costN b.length - (frmP d a t b).length) 0 := by
 unfold pcs imgP
 rw [List.map_map, ← pieces_flat _ _ (by rw [frmP_length]; exact costN_room h)]
 congr 1
 exact List.map_congr_left fun i _ => take_sec d a t b i
theorem back_img (d a t : Nat) (b rest : List Nat) (h : b.length ≤ 512) : okB (frmP d a t b ++ rest) = true ∧ payOf (frmP d a t b ++ rest) = labP d a t ++ b := by
 have hl : (labP d a t ++ b).length < 4294967296 := by rw [List.length_append, labP_length]; omega
 exact ⟨(okB_pack 104 _ rest hl).1, (back 104 _ rest hl).2.1⟩
theorem lab_take (d a t : Nat) (b : List Nat) : val ((labP d a t ++ b).take 4) = t % 4294967296 := by
 unfold labP
 rw [List.append_assoc, List.take_append_of_le_length (by rw [be_length]; exact Nat.le_refl _), List.take_of_length_le (by rw [be_length]; exact Nat.le_refl _), val_be]
theorem lab_drop (d a t : Nat) (b : List Nat) : (labP d a t ++ b).drop 7 = b := by
 rw [List.drop_append, List.drop_of_length_le (by rw [labP_length]; exact Nat.le_refl _), labP_length]
 rfl
/-- what was written is read -/
theorem bytesP_of {d a t : Nat} {b rest : List Nat} {F : List (List Nat)} (h : b.length ≤ 512) (hp : pcs F = frmP d a t b ++ rest) : bytesP d a F = if imgP d a t b = F then some b else none := by
 obtain ⟨h1, h2⟩ := back_img d a t b rest h
 have e1 : payP F = b := by unfold payP; rw [hp, h2, lab_drop]
 have e2 : tagP F = t % 4294967296 := by unfold tagP; rw [hp, h2, lab_take]
 have e3 : UnOk F := ⟨by rw [hp]; exact h1, by rw [hp, h2, List.length_append, labP_length]; omega⟩
 unfold bytesP
 rw [e1, e2, imgP_mod]
 by_cases e : imgP d a t b = F
 ·rw [if_pos ⟨e3, h, e⟩, if_pos e]
 ·rw [if_neg fun k => e k.2.2, if_neg e]
theorem bytesP_img (d a t : Nat) (b : List Nat) (h : b.length ≤ 512) : bytesP d a (imgP d a t b) = some b := by
 rw [bytesP_of h (pcs_img d a t b h), if_pos rfl]
end Go.Proofs.YthgidfoidbgnaaaDoor

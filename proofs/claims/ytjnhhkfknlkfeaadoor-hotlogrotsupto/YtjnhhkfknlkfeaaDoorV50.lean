/- Layer 14: plain: of a place of which one byte turned. Rows that came in: each is no longer than all together. -/
import Derived.Test.YtjnhhkfknlkfeaaDoorV39
import Derived.Test.YtjnhhkfknlkfeaaDoorV07
import Derived.Test.YtjnhhkfknlkfeaaDoorV45
namespace Go.Proofs.YtjnhhkfknlkfeaaDoor
open Go.RowKit Go.Maps Fr.Frame

theorem crc_set (cs : List Nat) (p x : Nat) (hp : p < cs.length) (hx : x < 256) (h0 : x ≠ 0) : crc (cs.set p (cs.getD p 0 ^^^ x)) ≠ crc cs := by
  intro he
  have h1 : Fr.Crc.more 0#32 (cs.set p (cs.getD p 0 ^^^ x)) = Fr.Crc.more 0#32 cs := BitVec.eq_of_toNat_eq he
  unfold Fr.Crc.more at h1
  rw [Fr.Crc.run_set cs _ p x hp] at h1
  have h2 := congrArg (fun y => ~~~ y) h1
  simp only [BitVec.not_not] at h2
  have h3 := congrArg (fun y => Fr.Crc.run (~~~ 0#32) cs ^^^ y) h2
  simp only [← BitVec.xor_assoc, BitVec.xor_self, BitVec.zero_xor] at h3
  have h4 := Fr.Crc.steps_inj0 _ _ h3
  have h5 := congrArg BitVec.toNat h4
  rw [BitVec.toNat_ofNat] at h5
  simp at h5
  omega
theorem val_inj (xs ys : List Nat) (hl : xs.length = ys.length) (hx : ∀ c ∈ xs, c < 256) (hy : ∀ c ∈ ys, c < 256) (h : val xs = val ys) : xs = ys := by
  rw [← be_val xs hx, ← be_val ys hy, h, hl]
theorem xor_ne (a x : Nat) (h0 : x ≠ 0) : a ^^^ x ≠ a := by
  intro h
  have : (a ^^^ x) ^^^ a = 0 := by rw [h, Nat.xor_self]
  rw [Nat.xor_comm a x, Nat.xor_assoc, Nat.xor_self, Nat.xor_zero] at this
  exact h0 this
theorem xor_lt (a x : Nat) (ha : a < 256) (hx : x < 256) : a ^^^ x < 256 := by
  have := Nat.xor_lt_two_pow (n := 8) ha hx
  simpa using this
/-- a turned byte of a frame, whatever is behind -/
theorem turnedF (kind : Nat) (cs : List Nat) (hk : kind < 256) (h : ∀ c ∈ cs, c < 256) (hsz : cs.length < 4294967296) (rest : List Nat) (p x : Nat) (hp4 : 4 ≤ p) (hp : p < cs.length + 9) (hx : x < 256) (h0 : x ≠ 0) :
    okB ((pack kind cs).set p ((pack kind cs).getD p 0 ^^^ x) ++ rest) = false := by
  have hpl := pack_length kind cs
  obtain ⟨hok, hl⟩ := okB_pack kind cs [] hsz
  rw [List.append_nil] at hok hl
  have hlt := pack_lt kind cs hk h
  generalize pack kind cs = P at *
  have hok' := hok
  unfold okB at hok'
  obtain ⟨_, _, hs⟩ := of_decide_eq_true hok'
  rw [hl] at hs
  have hle : lenOf (P.set p (P.getD p 0 ^^^ x) ++ rest) = cs.length := by
    rw [← hl]
    unfold lenOf
    rw [List.take_append_of_le_length (by rw [List.length_set]; omega), List.take_set_of_le hp4]
  unfold okB
  rw [hle]
  apply decide_eq_false
  rintro ⟨_, _, hs'⟩
  rw [List.take_append_of_le_length (by rw [List.length_set]; omega), List.take_append_of_le_length (by rw [List.length_set]; omega)] at hs'
  by_cases hb : p < 5 + cs.length
  · have e1 : ((P.set p (P.getD p 0 ^^^ x)).take (5 + cs.length + 4)).drop (5 + cs.length) = (P.take (5 + cs.length + 4)).drop (5 + cs.length) := by
      rw [List.take_set, List.drop_set_of_lt hb]
    have e2 : (P.set p (P.getD p 0 ^^^ x)).take (5 + cs.length) = (P.take (5 + cs.length)).set p ((P.take (5 + cs.length)).getD p 0 ^^^ x) := by
      rw [List.take_set]
      congr 2
      rw [List.getD_eq_getElem?_getD, List.getD_eq_getElem?_getD, List.getElem?_take, if_pos hb]
    rw [e1, e2, hs] at hs'
    exact crc_set (P.take (5 + cs.length)) p x (by simp; omega) hx h0 hs'.symm
  · have e1 : (P.set p (P.getD p 0 ^^^ x)).take (5 + cs.length) = P.take (5 + cs.length) := by
      rw [List.take_set_of_le (by omega)]
    rw [e1, ← hs] at hs'
    have e2 := val_inj _ _ (by simp) (fun c hc => by
      have hm := List.mem_of_mem_take (List.mem_of_mem_drop hc)
      rcases List.mem_or_eq_of_mem_set hm with hm | rfl
      · exact hlt c hm
      · exact xor_lt _ _ (getD_lt hlt p) hx) (fun c hc => hlt c (List.mem_of_mem_take (List.mem_of_mem_drop hc))) hs'
    have e3 := congrArg (fun l => l[p - (5 + cs.length)]?) e2
    simp only [List.getElem?_drop] at e3
    rw [show 5 + cs.length + (p - (5 + cs.length)) = p by omega, List.getElem?_take, List.getElem?_take, if_pos (by omega), if_pos (by omega), List.getElem?_set_self (by omega)] at e3
    have e4 : P[p]? = some (P.getD p 0) := by
      rw [List.getD_eq_getElem?_getD, List.getElem?_eq_getElem (by omega)]
      rfl
    rw [e4] at e3
    exact xor_ne _ _ h0 (Option.some.inj e3)
theorem set_same (P : List Nat) (p : Nat) : P.set p (P.getD p 0) = P := by
  apply List.ext_getElem?
  intro i
  by_cases h : p = i
  · subst h
    by_cases hp : p < P.length
    · rw [List.getElem?_set_self hp, List.getD_eq_getElem?_getD, List.getElem?_eq_getElem hp]
      rfl
    · rw [List.set_eq_of_length_le (by omega)]
  · rw [List.getElem?_set_ne h]
theorem flat59 (g : Nat → List Nat) (hg : ∀ i, (g i).length = 59) : ∀ n q, (((List.range n).map g).flatten)[q]? = if q < 59 * n then (g (q / 59))[q % 59]? else none := by
  have hlen : ∀ n, (((List.range n).map g).flatten).length = 59 * n := by
    intro n
    induction n with
    | zero => rfl
    | succ n ih =>
      rw [List.range_succ, List.map_append, List.flatten_append, List.length_append, ih]
      simp [hg]
      omega
  intro n
  induction n with
  | zero => intro q; simp
  | succ n ih =>
    intro q
    rw [List.range_succ, List.map_append, List.flatten_append]
    by_cases hq : q < 59 * n
    · rw [List.getElem?_append_left (by rw [hlen]; exact hq), ih, if_pos hq, if_pos (by omega)]
    · rw [List.getElem?_append_right (by rw [hlen]; omega), hlen]
      simp only [List.map_cons, List.map_nil, List.flatten_cons, List.flatten_nil, List.append_nil]
      by_cases h2 : q < 59 * (n + 1)
      · rw [if_pos h2, show q / 59 = n by omega, show q % 59 = q - 59 * n by omega]
      · rw [if_neg h2, List.getElem?_eq_none_iff.2 (by rw [hg]; omega)]
/-- what a place tells of which one byte turned -/
theorem rotP {d a t : Nat} {b : List Nat} (hb : b.length ≤ 512) (hlt : ∀ c ∈ b, c < 256) (j p x : Nat) (hj : j < costN b.length) (hp : p < 64) (hx : x < 256) :
    bytesP d a ((List.range (costN b.length)).map fun i => if i = j then (secI d a t b i).set p ((secI d a t b i).getD p 0 ^^^ x) else secI d a t b i) = none ∨
    bytesP d a ((List.range (costN b.length)).map fun i => if i = j then (secI d a t b i).set p ((secI d a t b i).getD p 0 ^^^ x) else secI d a t b i) = some b ∨ (j = 0 ∧ p < 4) := by
  by_cases h0 : x = 0
  · right; left
    rw [show ((List.range (costN b.length)).map fun i => if i = j then (secI d a t b i).set p ((secI d a t b i).getD p 0 ^^^ x) else secI d a t b i) = imgP d a t b from List.map_congr_left fun i _ => by
      rw [h0, Nat.xor_zero, set_same]
      split <;> rfl]
    exact bytesP_img d a t b hb
  by_cases hearly : j = 0 ∧ p < 4
  · exact Or.inr (Or.inr hearly)
  left
  have hsl := secI_length d a t b j
  have hne : imgP d a t b ≠ (List.range (costN b.length)).map fun i => if i = j then (secI d a t b i).set p ((secI d a t b i).getD p 0 ^^^ x) else secI d a t b i := fun e => by
    have e1 := congrArg (fun l : List (List Nat) => (l[j]?).map (·[p]?)) e
    unfold imgP at e1
    simp only [List.getElem?_map, List.getElem?_range hj, Option.map_some, if_true] at e1
    rw [List.getElem?_set_self (by omega), List.getElem?_eq_getElem (by omega)] at e1
    have e2 := Option.some.inj (Option.some.inj e1)
    rw [List.getD_eq_getElem?_getD, List.getElem?_eq_getElem (by omega), Option.getD_some] at e2
    exact xor_ne _ _ h0 e2.symm
  have hpcs : pcs ((List.range (costN b.length)).map fun i => if i = j then (secI d a t b i).set p ((secI d a t b i).getD p 0 ^^^ x) else secI d a t b i) = ((List.range (costN b.length)).map fun i => if i = j then (piece (frmP d a t b) i ++ mrkP t i |>.set p ((secI d a t b i).getD p 0 ^^^ x)).take 59 else piece (frmP d a t b) i).flatten := by
    unfold pcs
    rw [List.map_map]
    congr 1
    refine List.map_congr_left fun i _ => ?_
    show (if i = j then _ else _ : List Nat).take 59 = _
    split
    · rfl
    · exact take_sec d a t b i
  have hfl := frmP_length d a t b
  have hflat := pieces_flat (frmP d a t b) (costN b.length) (by rw [hfl]; exact costN_room hb)
  obtain ⟨Z, hZ⟩ : ∃ Z, Z = List.replicate (59 * costN b.length - (frmP d a t b).length) 0 := ⟨_, rfl⟩
  rw [← hZ] at hflat
  by_cases hp59 : p < 59
  · have hset : pcs ((List.range (costN b.length)).map fun i => if i = j then (secI d a t b i).set p ((secI d a t b i).getD p 0 ^^^ x) else secI d a t b i) = (frmP d a t b ++ Z).set (59 * j + p) ((frmP d a t b ++ Z).getD (59 * j + p) 0 ^^^ x) := by
      have hg1 : ∀ i, (if i = j then (piece (frmP d a t b) i ++ mrkP t i |>.set p ((secI d a t b i).getD p 0 ^^^ x)).take 59 else piece (frmP d a t b) i).length = 59 := fun i => by
        split
        · rw [List.length_take, List.length_set, List.length_append, piece_length, mrkP_length]
          rfl
        · exact piece_length _ _
      rw [hpcs, ← hflat]
      apply List.ext_getElem?
      intro q
      have hF := flat59 (piece (frmP d a t b)) (piece_length _) (costN b.length)
      have hval : (((List.range (costN b.length)).map (piece (frmP d a t b))).flatten).getD (59 * j + p) 0 = (secI d a t b j).getD p 0 := by
        have : 59 * (j + 1) ≤ 59 * costN b.length := Nat.mul_le_mul_left 59 hj
        rw [List.getD_eq_getElem?_getD, List.getD_eq_getElem?_getD, hF, if_pos (by omega), show (59 * j + p) / 59 = j by omega, show (59 * j + p) % 59 = p by omega]
        unfold secI
        rw [List.getElem?_append_left (by rw [piece_length]; exact hp59)]
      rw [hval, flat59 _ hg1]
      by_cases e : 59 * j + p = q
      · subst e
        have : 59 * (j + 1) ≤ 59 * costN b.length := Nat.mul_le_mul_left 59 hj
        rw [if_pos (by omega), List.getElem?_set_self (by rw [hflat, List.length_append, hZ, List.length_replicate]; have := costN_room hb; omega), show (59 * j + p) / 59 = j by omega, show (59 * j + p) % 59 = p by omega, if_pos rfl, List.getElem?_take, if_pos hp59, List.getElem?_set_self (by rw [List.length_append, piece_length, mrkP_length]; omega)]
      · rw [List.getElem?_set_ne e, hF]
        split
        · by_cases e2 : q / 59 = j
          · rw [if_pos e2, List.getElem?_take, if_pos (Nat.mod_lt _ (by decide)), List.getElem?_set_ne (by omega), List.getElem?_append_left (by rw [piece_length]; exact Nat.mod_lt _ (by decide))]
          · rw [if_neg e2]
        · rfl
    by_cases hP : 59 * j + p < (frmP d a t b).length
    · rw [List.getD_eq_getElem?_getD, List.getElem?_append_left hP, ← List.getD_eq_getElem?_getD, List.set_append_left _ _ hP] at hset
      have hno := turnedF 104 (labP d a t ++ b) (by decide) (labb_lt d a t hlt) (by rw [List.length_append, labP_length]; omega) Z (59 * j + p) x (by omega) (by rw [List.length_append, labP_length]; omega) hx h0
      unfold bytesP
      rw [if_neg]
      rintro ⟨hu, _⟩
      have := hu.1
      rw [hset] at this
      unfold frmP at this
      rw [hno] at this
      cases this
    · rw [List.set_append_right _ _ (by omega)] at hset
      rw [bytesP_of hb hset, if_neg hne]
  · have hpc : pcs ((List.range (costN b.length)).map fun i => if i = j then (secI d a t b i).set p ((secI d a t b i).getD p 0 ^^^ x) else secI d a t b i) = frmP d a t b ++ Z := by
      rw [hpcs, ← hflat]
      congr 1
      refine List.map_congr_left fun i _ => ?_
      split
      · rw [List.take_set_of_le (by omega), List.take_append_of_le_length (by rw [piece_length]; exact Nat.le_refl _), List.take_of_length_le (by rw [piece_length]; exact Nat.le_refl _)]
      · rfl
    rw [bytesP_of hb hpc, if_neg hne]
theorem fl_of {m : Pl} (hw : m.wt 1 = []) (q : Nat) : m.rd 1 q = (m.fl 1).getD q zeros := by
  unfold Pl.rd
  rw [hw]
  rfl
theorem rotted_rd {m : Pl} (hw : m.wt 1 = []) (a : Nat) (s : List Nat) (ha : a < (m.fl 1).length) (q : Nat) : (m.rotted 1 a s).rd 1 q = if q = a then s else m.rd 1 q := by
  have hw' : (m.rotted 1 a s).wt 1 = [] := hw
  rw [fl_of hw', fl_of hw]
  show (upd m.fl 1 ((m.fl 1).set a s) 1).getD q zeros = _
  unfold upd
  rw [if_pos rfl, List.getD_eq_getElem?_getD, List.getD_eq_getElem?_getD]
  by_cases e : q = a
  · subst e
    rw [if_pos rfl, List.getElem?_set_self ha]
    rfl
  · rw [if_neg e, List.getElem?_set_ne (fun h => e h.symm)]
/-- a plant and its hot disk, of which one byte turned -/
structure HtX (w W : World) (c : Nat → Colour) (gp gh gf gm : Nat) (m : Pl) (n : Nat) (us : List (Nat × List Nat)) (K a p x : Nat) : Prop where
  pl : PlW w W c gp m n K
  hot : ∃ fr f q, HotM W gh gp gf gm 1 q fr f ∧ SegInv fr (us.map plc) ∧ FM f (us.map plc) ∧ fr.length = n / 16
  on : m.on = true
  rots : ∀ u ∈ us, u.2.length ≤ 512 ∧ (∀ c ∈ u.2, c < 256) ∧ ∃ t, ∀ j, j < costN u.2.length → m.rd 1 (u.1 + j) = if u.1 + j = a then (secI 1 u.1 t u.2 j).set p ((secI 1 u.1 t u.2 j).getD p 0 ^^^ x) else secI 1 u.1 t u.2 j
section
variable {w W W' : World} {c c' : Nat → Colour} {gp gh gf gm : Nat} {m : Pl} {n K a p x : Nat} {us : List (Nat × List Nat)}
theorem HtX.bel (h : HtX w W c gp gh gf gm m n us K a p x) (hb : Below W.heap.size W W') : HtX w W' c gp gh gf gm m n us K a p x := by
  obtain ⟨fr, f, q, h1, h2⟩ := h.hot
  exact ⟨h.pl.bel hb, ⟨fr, f, q, h1.later hb, h2⟩, h.on, h.rots⟩
theorem HtW.rot (h : HtW w W c gp gh gf gm m n us K) (a p : Nat) (y : Int) (ha : a < n) (hp : p < 64) : Calls Tryd.prog 24 #[ptr gp, .int .i64 1, .int .i64 (a : Nat), .int .i64 (p : Nat), .int .i64 y] W fun e W' => ∃ b c' m', e = .returned (.bool b) ∧ Sq W W' c c' gf gm ∧ HtX w W' c' gp gh gf gm m' n us K a p (byte8 y) := by
  have hfl : (m.fl 1).length = n := by
    rw [h.pl.live.2.1.disk 1 h.pl.dev.1 h.pl.dev.2.1]
    exact h.pl.dev.2.2.1
  have hd := h.pl.dev.1
  have e : m.rot 1 (a : Nat) (p : Nat) y = (true, m.rotted 1 a (turned ((m.fl 1).getD a zeros) p y)) := if_pos ⟨⟨by decide, by omega⟩, ⟨by omega, by show (a : Int) < ((m.fl 1).length : Int); omega⟩, by omega, by omega⟩
  refine (h.pl.live.rot 1 (a : Nat) (p : Nat) y).mono ?_
  rw [e]
  rintro e' W' ⟨rfl, hx⟩
  obtain ⟨c', k1, k3⟩ := hx.sp
  obtain ⟨fr, f, q, h1, h2, h3, h4, _⟩ := h.hot
  refine ⟨true, c', _, rfl, ⟨k1.cc, k1.ch.mono fun _ _ e => Or.inl e⟩, ⟨h.pl.sp k1 k3 rfl h.pl.le, ⟨fr, f, q, (h1.sp k1 h.hc).1, h2, h3, h4⟩, h.on, fun u hu => ?_⟩⟩
  obtain ⟨g1, g2, t, g3⟩ := h.held u hu
  refine ⟨g1, g2, t, fun j hj => ?_⟩
  rw [rotted_rd h.wt a _ (by omega)]
  by_cases e : u.1 + j = a
  · rw [if_pos e, if_pos e]
    unfold turned
    rw [← fl_of h.wt, ← e, g3 j hj]
  · rw [if_neg e, if_neg e, g3 j hj]
theorem HtX.read (h : HtX w W c gp gh gf gm m n us K a p x) (hK : K ≤ 1000000000000) (hp : p < 64) (hx : x < 256) {u : Nat × List Nat} (hu : u ∈ us) : Calls Tryd.prog 25 #[ptr gh, .agg (toP u).cells.toArray] W fun e W' => Below W.heap.size W W' ∧
    ((∃ v, e = .returned (.tuple #[v, .int .i64 0]) ∧ BNew W.heap.size W' v u.2) ∨ (u.1 ≤ a ∧ a < u.1 + costN u.2.length ∧ e = .returned (.tuple #[.slice none 0 0, .int .i64 4])) ∨ (u.1 = a ∧ p < 4 ∧ ∃ v b, b.length ≤ 512 ∧ e = .returned (.tuple #[v, .int .i64 0]) ∧ BNew W.heap.size W' v b)) := by
  obtain ⟨fr, f, q, h1, h2, h3, h4⟩ := h.hot
  obtain ⟨k1, k2, t, k3⟩ := h.rots u hu
  have hok := h2.ok (plc u) (List.mem_map.2 ⟨u, hu, rfl⟩)
  have e1 : (plc u).1 = u.1 := rfl
  have e2 : (plc u).2 = costN u.2.length := rfl
  have hn := h.pl.hn
  have hle := h.pl.le
  have hc9 := costN_le k1
  refine (readH_yes h1 h.pl.tabW h.pl.live (by omega) h.on h.pl.dev.1 (by decide) u.1 (costN u.2.length) false (by rw [h.pl.dev.2.2.2]; omega) (by omega) (by omega) ((usB_iff h3 _ _ _).2 ⟨rfl, plc u, List.mem_map.2 ⟨u, hu, rfl⟩, rfl, rfl⟩)).mono ?_
  rintro e W' ⟨hb, hr⟩
  refine ⟨hb, ?_⟩
  by_cases hit : u.1 ≤ a ∧ a < u.1 + costN u.2.length
  · have hs : ((List.range (costN u.2.length)).map fun j => m.rd 1 (u.1 + j)) = (List.range (costN u.2.length)).map fun i => if i = a - u.1 then (secI 1 u.1 t u.2 i).set p ((secI 1 u.1 t u.2 i).getD p 0 ^^^ x) else secI 1 u.1 t u.2 i :=
      List.map_congr_left fun j hj => by
        rw [k3 j (List.mem_range.1 hj)]
        by_cases e : j = a - u.1
        · rw [if_pos e, if_pos (by omega)]
        · rw [if_neg e, if_neg (by omega)]
    rw [hs] at hr
    rcases hr with ⟨b, v, g1, g2, g3⟩ | ⟨_, g2⟩
    · rcases rotP (d := 1) (a := u.1) (t := t) k1 k2 (a - u.1) p x (by omega) hp hx with r | r | r
      · rw [r] at g1
        cases g1
      · rw [r] at g1
        cases g1
        exact Or.inl ⟨v, g2, g3⟩
      · exact Or.inr (Or.inr ⟨by omega, r.2, v, b, bytesP_le g1, g2, g3⟩)
    · exact Or.inr (Or.inl ⟨hit.1, hit.2, g2⟩)
  · have hs : ((List.range (costN u.2.length)).map fun j => m.rd 1 (u.1 + j)) = imgP 1 u.1 t u.2 := by
      unfold imgP
      exact List.map_congr_left fun j hj => by
        have hj := List.mem_range.1 hj
        rw [k3 j hj, if_neg (by omega)]
    rw [hs, bytesP_img 1 u.1 t u.2 k1] at hr
    rcases hr with ⟨b, v, g1, g2, g3⟩ | ⟨g1, _⟩
    · cases g1
      exact Or.inl ⟨v, g2, g3⟩
    · cases g1
end
end Go.Proofs.YtjnhhkfknlkfeaaDoor

namespace Go.Proofs.YtjnhhkfknlkfeaaDoor

theorem flat_ge : ∀ (L : List (List Nat)) (i : Nat), (L.getD i []).length ≤ L.flatten.length := by
  intro L
  induction L with
  | nil => intro i; simp
  | cons a L ih =>
    intro i
    cases i with
    | zero => simp
    | succ i =>
      have h1 := ih i
      simp only [List.getD_cons_succ, List.flatten_cons, List.length_append]
      omega
end Go.Proofs.YtjnhhkfknlkfeaaDoor

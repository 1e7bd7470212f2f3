/- What the document reads of bytes, plain. -/
import Derived.Test.YtncjmolhofnpbaaR20
namespace Go.Proofs.Ytncjmolhofnpbaa
open Go.RowKit
open Fr.Frame (be val be_val be_length val_be val_lt be_lt)

def rst (b : List Nat) : List Nat := b.drop (1 + b.getD 0 0)
def rawId (b : List Nat) : List Nat := (b.take (1 + b.getD 0 0)).drop 1
def rawL (b : List Nat) : Nat := val ((rst b).take 2)
def rawRoot (b : List Nat) : List Nat := ((rst b).drop 2).take 32
def rawI (b : List Nat) : Nat := val (((rst b).drop 34).take 4)
def rawX (b : List Nat) : Nat := val (((rst b).drop 38).take 6)
def rawF (b : List Nat) : Nat := (rst b).getD 44 0
def rawK (b : List Nat) : Nat := (rst b).getD 45 0
def plc (c : List Nat) : Pc := ⟨val (c.take 1), val ((c.drop 1).take 2), val ((c.drop 3).take 1), decide (c.getD 4 0 = 1)⟩
def rawPs (b : List Nat) (k : Nat) : List Pc := (List.range k).map fun i => plc ((rst b).drop (46 + 5 * i))
def raw0 (b : List Nat) : Rc := ⟨rawId b, rawL b, rawRoot b, rawI b, rawX b, decide (rawF b % 2 = 1), decide (rawF b / 2 % 2 = 1), []⟩
def raw (b : List Nat) : Rc := { raw0 b with cp := rawPs b (rawK b) }
def okA (b : List Nat) : Prop := 1 ≤ b.length ∧ 47 + b.getD 0 0 ≤ b.length
def okB (b : List Nat) : Prop := rawF b ≤ 3 ∧ (rst b).length = 46 + 5 * rawK b
def okC (b : List Nat) (k : Nat) : Prop := ∀ i, i < k → ((rst b).drop (46 + 5 * i)).getD 4 0 ≤ 1
theorem rawPs_snoc (b : List Nat) (k : Nat) : rawPs b (k + 1) = rawPs b k ++ [plc ((rst b).drop (46 + 5 * k))] := by simp [rawPs, List.range_succ]
theorem rawPs_length (b : List Nat) (k : Nat) : (rawPs b k).length = k := by simp [rawPs]
theorem take_lt {l : List Nat} (h : ∀ c ∈ l, c < 256) (n : Nat) : ∀ c ∈ l.take n, c < 256 := fun c hc => h c (List.mem_of_mem_take hc)
theorem drop_lt {l : List Nat} (h : ∀ c ∈ l, c < 256) (n : Nat) : ∀ c ∈ l.drop n, c < 256 := fun c hc => h c (List.mem_of_mem_drop hc)
theorem be_take {l : List Nat} (h : ∀ c ∈ l, c < 256) (n : Nat) (hn : n ≤ l.length) : be n (val (l.take n)) = l.take n := by
  have h1 := be_val (l.take n) (take_lt h n)
  rw [List.length_take, Nat.min_eq_left hn] at h1
  exact h1
theorem val_one (x : Nat) : val [x] = x := by simp [val]
theorem encP_plc (c : List Nat) (h : ∀ x ∈ c, x < 256) (hl : 5 ≤ c.length) (h4 : c.getD 4 0 ≤ 1) : encP (plc c) = c.take 5 := by
  match c, hl with
  | c0 :: c1 :: c2 :: c3 :: c4 :: t, _ =>
    have a1 := be_take h 1 (by simp)
    have a2 := be_take (drop_lt h 1) 2 (by simp)
    have a3 := be_take (drop_lt h 3) 1 (by simp)
    simp at a1 a2 a3 h4
    have h5 : bitB (decide (c4 = 1)) 1 = c4 := by
      by_cases e : c4 = 1
      · simp [bitB, e]
      · simp [bitB, e]; omega
    simp [encP, plc, a1, a2, a3, h5]
theorem rst_lt {b : List Nat} (h : ∀ c ∈ b, c < 256) : ∀ c ∈ rst b, c < 256 := drop_lt h _
theorem encPs_at (ps : List Pc) (i : Nat) (p : Pc) (hp : ps[i]? = some p) : ∃ t, (encPs ps).drop (5 * i) = encP p ++ t := by
  induction ps generalizing i with
  | nil => simp at hp
  | cons q ps ih =>
    cases i with
    | zero =>
      simp at hp
      subst hp
      exact ⟨encPs ps, by simp [encPs]⟩
    | succ i =>
      simp at hp
      obtain ⟨t, ht⟩ := ih i hp
      refine ⟨t, ?_⟩
      rw [encPs, show 5 * (i + 1) = 5 + 5 * i by omega, ← List.drop_drop, List.drop_left' (encP_length q)]
      exact ht
theorem encPs_raw (b : List Nat) (hb : ∀ c ∈ b, c < 256) (k : Nat) (hl : 46 + 5 * k ≤ (rst b).length) (hc : okC b k) : encPs (rawPs b k) = ((rst b).drop 46).take (5 * k) := by
  induction k with
  | zero => rfl
  | succ k ih =>
    rw [rawPs_snoc, encPs_snoc, ih (by omega) (fun i hi => hc i (by omega)), encP_plc ((rst b).drop (46 + 5 * k)) (drop_lt (rst_lt hb) _) (by rw [List.length_drop]; omega) (hc k (by omega)), show 5 * (k + 1) = 5 * k + 5 by omega, List.take_add, List.drop_drop]
theorem split2 (l : List Nat) (n : Nat) (x : Nat) (t : List Nat) (h : l.drop n = x :: t) : l.getD n 0 = x := by
  have h1 : (l.drop n)[0]? = some x := by rw [h]; rfl
  rw [List.getElem?_drop] at h1
  simp at h1
  simp [h1]
theorem raw_sound {b : List Nat} (hb : ∀ c ∈ b, c < 256) (hA : okA b) (hB : okB b) (hC : okC b (rawK b)) : enc (raw b) = b := by
  have hl : (rst b).length = b.length - (1 + b.getD 0 0) := by simp only [rst, List.length_drop]
  have hr := rst_lt hb
  obtain ⟨hA1, hA2⟩ := hA
  obtain ⟨hB1, hB2⟩ := hB
  have hid : (rawId b).length = b.getD 0 0 := by simp only [rawId, List.length_drop, List.length_take]; omega
  have e0 : b = b.getD 0 0 :: (rawId b ++ rst b) := by
    cases b with
    | nil => simp at hA1
    | cons x t =>
      simp only [List.getD_cons_zero] at *
      have h1 : (x :: t) = (x :: t).take (1 + x) ++ (x :: t).drop (1 + x) := (List.take_append_drop _ _).symm
      have h2 : (x :: t).take (1 + x) = x :: ((x :: t).take (1 + x)).drop 1 := by rw [Nat.add_comm 1 x]; simp
      simp only [rawId, rst, List.getD_cons_zero]
      rw [← List.cons_append, ← h2]
      exact h1
  have p1 : rst b = (rst b).take 2 ++ (rst b).drop 2 := (List.take_append_drop 2 _).symm
  have p2 : (rst b).drop 2 = ((rst b).drop 2).take 32 ++ (rst b).drop 34 := by
    have := (List.take_append_drop 32 ((rst b).drop 2)).symm
    rw [List.drop_drop] at this
    exact this
  have p3 : (rst b).drop 34 = ((rst b).drop 34).take 4 ++ (rst b).drop 38 := by
    have := (List.take_append_drop 4 ((rst b).drop 34)).symm
    rw [List.drop_drop] at this
    exact this
  have p4 : (rst b).drop 38 = ((rst b).drop 38).take 6 ++ (rst b).drop 44 := by
    have := (List.take_append_drop 6 ((rst b).drop 38)).symm
    rw [List.drop_drop] at this
    exact this
  have p5 : (rst b).drop 44 = rawF b :: rawK b :: (rst b).drop 46 := by
    match hm : (rst b).drop 44 with
    | [] => have := congrArg List.length hm; simp at this; omega
    | [x] => have := congrArg List.length hm; simp at this; omega
    | x :: y :: t =>
      have e1 := split2 _ _ _ _ hm
      have e2 : (rst b).drop 45 = y :: t := by
        have := congrArg (List.drop 1) hm
        rw [List.drop_drop] at this
        exact this
      have e3 := split2 _ _ _ _ e2
      have e4 : (rst b).drop 46 = t := by
        have := congrArg (List.drop 2) hm
        rw [List.drop_drop] at this
        exact this
      rw [rawF, rawK, e1, e3, e4]
  have p6 : encPs (rawPs b (rawK b)) = (rst b).drop 46 := by
    rw [encPs_raw b hb _ (by omega) hC, List.take_of_length_le (by rw [List.length_drop]; omega)]
  have f1 : bitB (decide (rawF b % 2 = 1)) 1 + bitB (decide (rawF b / 2 % 2 = 1)) 2 = rawF b := by
    obtain h | h | h | h : rawF b = 0 ∨ rawF b = 1 ∨ rawF b = 2 ∨ rawF b = 3 := by omega
    all_goals (rw [h]; rfl)
  have t1 : be 2 (rawL b) = (rst b).take 2 := be_take hr 2 (by omega)
  have t2 : be 4 (rawI b) = ((rst b).drop 34).take 4 := be_take (drop_lt hr 34) 4 (by rw [List.length_drop]; show 4 ≤ (rst b).length - 34; omega)
  have t3 : be 6 (rawX b) = ((rst b).drop 38).take 6 := be_take (drop_lt hr 38) 6 (by rw [List.length_drop]; show 6 ≤ (rst b).length - 38; omega)
  conv => rhs; rw [e0]
  unfold enc encE encT raw raw0
  simp only [hid, Int.toNat_natCast, t1, t2, t3, f1, rawPs_length, p6]
  have q : (rst b).take 2 ++ rawRoot b ++ (((rst b).drop 34).take 4 ++ (((rst b).drop 38).take 6 ++ rawF b :: rawK b :: (rst b).drop 46)) = rst b := by
    rw [← p5, ← p4, ← p3, rawRoot, List.append_assoc, ← p2, ← p1]
  rw [List.cons_append, List.append_assoc, q]
theorem raw_root {b : List Nat} (hA : okA b) : (raw b).root.length = 32 := by
  obtain ⟨_, h2⟩ := hA
  show (rawRoot b).length = 32
  simp only [rawRoot, rst, List.length_take, List.length_drop]
  omega
theorem plc_enc (p : Pc) (t : List Nat) (hok : pcB p = true) : plc (encP p ++ t) = p ∧ (encP p ++ t).getD 4 0 ≤ 1 := by
  have hk : (0 ≤ p.dev ∧ p.dev ≤ 11) ∧ (0 ≤ p.pl ∧ p.pl ≤ 4095) ∧ (0 ≤ p.len ∧ p.len ≤ 255) := by
    simp [pcB, inB] at hok
    omega
  have e1 := be_one p.dev.toNat (by omega)
  have e3 := be_one p.len.toNat (by omega)
  have e2 : val (be 2 p.pl.toNat) = p.pl.toNat := by rw [val_be]; omega
  obtain ⟨u, v, huv⟩ : ∃ u v, be 2 p.pl.toNat = [u, v] := by
    have h := be_length 2 p.pl.toNat
    match hm : be 2 p.pl.toNat with
    | [u, v] => exact ⟨u, v, rfl⟩
    | [] => rw [hm] at h; simp at h
    | [x] => rw [hm] at h; simp at h
    | x :: y :: z :: l => rw [hm] at h; simp at h
  rw [huv] at e2
  unfold plc encP
  rw [e1, e3, huv]
  constructor
  · simp [val_one, e2]
    have a1 : ((p.dev.toNat : Nat) : Int) = p.dev := by omega
    have a2 : ((p.pl.toNat : Nat) : Int) = p.pl := by omega
    have a3 : ((p.len.toNat : Nat) : Int) = p.len := by omega
    cases p with
    | mk d l n bd =>
      simp at a1 a2 a3 ⊢
      refine ⟨by omega, by omega, by omega, ?_⟩
      cases bd <;> simp [bitB]
  · have := bit_le p.bad 1
    simpa using this
theorem raw_enc (r : Rc) (hm : mayB r = true) (h32 : r.root.length = 32) : okA (enc r) ∧ okB (enc r) ∧ okC (enc r) (rawK (enc r)) ∧ raw (enc r) = r := by
  have hk := hm
  simp only [mayB, Bool.and_eq_true] at hk
  have hq : r.id.length ≤ 16 ∧ (0 ≤ r.length ∧ r.length ≤ 512) ∧ (0 ≤ r.index ∧ r.index ≤ 2147483647) ∧ (0 ≤ r.expiry ∧ r.expiry ≤ 1099511627776) ∧ r.cp.length ≤ 8 := by
    have := ent_bounds hk.1
    have h2 := hk.2
    simp [restB, inB] at h2
    omega
  have hps : r.cp.all pcB = true := by
    have := hk.2
    simp only [restB, Bool.and_eq_true] at this
    exact this.2
  obtain ⟨fl, hfl⟩ : ∃ fl, fl = bitB r.hold 1 + bitB r.gone 2 := ⟨_, rfl⟩
  have hfl3 : fl ≤ 3 := by have h1 := bit_le r.hold 1; have h2 := bit_le r.gone 2; omega
  have e0 : enc r = r.id.length :: (r.id ++ (be 2 r.length.toNat ++ (r.root ++ (be 4 r.index.toNat ++ (be 6 r.expiry.toNat ++ (fl :: r.cp.length :: encPs r.cp)))))) := by simp [enc, encE, encT, hfl]
  have g0 : (enc r).getD 0 0 = r.id.length := by rw [e0]; rfl
  have er : rst (enc r) = be 2 r.length.toNat ++ (r.root ++ (be 4 r.index.toNat ++ (be 6 r.expiry.toNat ++ (fl :: r.cp.length :: encPs r.cp)))) := by
    unfold rst
    rw [g0, e0, Nat.add_comm 1, List.drop_succ_cons, List.drop_left' rfl]
  have d2 : (rst (enc r)).drop 2 = r.root ++ (be 4 r.index.toNat ++ (be 6 r.expiry.toNat ++ (fl :: r.cp.length :: encPs r.cp))) := by rw [er, List.drop_left' (be_length 2 _)]
  have d34 : (rst (enc r)).drop 34 = be 4 r.index.toNat ++ (be 6 r.expiry.toNat ++ (fl :: r.cp.length :: encPs r.cp)) := by
    rw [show (34 : Nat) = 2 + 32 from rfl, ← List.drop_drop, d2, List.drop_left' h32]
  have d38 : (rst (enc r)).drop 38 = be 6 r.expiry.toNat ++ (fl :: r.cp.length :: encPs r.cp) := by
    rw [show (38 : Nat) = 34 + 4 from rfl, ← List.drop_drop, d34, List.drop_left' (be_length 4 _)]
  have d44 : (rst (enc r)).drop 44 = fl :: r.cp.length :: encPs r.cp := by
    rw [show (44 : Nat) = 38 + 6 from rfl, ← List.drop_drop, d38, List.drop_left' (be_length 6 _)]
  have d45 : (rst (enc r)).drop 45 = r.cp.length :: encPs r.cp := by
    rw [show (45 : Nat) = 44 + 1 from rfl, ← List.drop_drop, d44]; rfl
  have d46 : (rst (enc r)).drop 46 = encPs r.cp := by
    rw [show (46 : Nat) = 44 + 2 from rfl, ← List.drop_drop, d44]; rfl
  have gF : rawF (enc r) = fl := split2 _ _ _ _ d44
  have gK : rawK (enc r) = r.cp.length := split2 _ _ _ _ d45
  have hlen : (rst (enc r)).length = 46 + 5 * r.cp.length := by
    have := congrArg List.length d46
    rw [encPs_length, List.length_drop] at this
    have h2 := congrArg List.length d44
    simp [encPs_length] at h2
    omega
  have hplc : ∀ i p, r.cp[i]? = some p → ∃ t, (rst (enc r)).drop (46 + 5 * i) = encP p ++ t := by
    intro i p hp
    rw [← List.drop_drop, d46]
    exact encPs_at r.cp i p hp
  have hpok : ∀ p ∈ r.cp, pcB p = true := fun p hp => List.all_eq_true.1 hps p hp
  refine ⟨⟨by rw [enc_length]; omega, by rw [g0, enc_length]; omega⟩, ⟨by rw [gF]; exact hfl3, by rw [gK]; exact hlen⟩, fun i hi => ?_, ?_⟩
  · rw [gK] at hi
    obtain ⟨t, ht⟩ := hplc i r.cp[i] (List.getElem?_eq_getElem hi)
    rw [ht]
    exact (plc_enc _ t (hpok _ (List.getElem_mem hi))).2
  · have c1 : rawId (enc r) = r.id := by
      unfold rawId
      rw [g0, e0, Nat.add_comm 1, List.take_succ_cons, List.drop_succ_cons, List.drop_zero, List.take_left' rfl]
    have c2 : rawL (enc r) = r.length.toNat := by unfold rawL; rw [er, List.take_left' (be_length 2 _), val_be]; omega
    have c3 : rawRoot (enc r) = r.root := by unfold rawRoot; rw [d2, List.take_left' h32]
    have c4 : rawI (enc r) = r.index.toNat := by unfold rawI; rw [d34, List.take_left' (be_length 4 _), val_be]; omega
    have c5 : rawX (enc r) = r.expiry.toNat := by unfold rawX; rw [d38, List.take_left' (be_length 6 _), val_be]; omega
    have c6 : rawPs (enc r) (rawK (enc r)) = r.cp := by
      rw [gK]
      refine List.ext_getElem? fun i => ?_
      by_cases hi : i < r.cp.length
      · obtain ⟨t, ht⟩ := hplc i r.cp[i] (List.getElem?_eq_getElem hi)
        rw [List.getElem?_eq_getElem hi]
        simp only [rawPs, List.getElem?_map, List.getElem?_range hi, Option.map_some, ht]
        rw [(plc_enc _ t (hpok _ (List.getElem_mem hi))).1]
      · rw [List.getElem?_eq_none (by rw [rawPs_length]; omega), List.getElem?_eq_none (by omega)]
    have c7 : decide (fl % 2 = 1) = r.hold := by rw [hfl]; cases r.hold <;> cases r.gone <;> simp [bitB]
    have c8 : decide (fl / 2 % 2 = 1) = r.gone := by rw [hfl]; cases r.hold <;> cases r.gone <;> simp [bitB]
    refine rc_ext _ _ c1 ?_ c3 ?_ ?_ ?_ ?_ c6
    · show ((rawL (enc r) : Nat) : Int) = _
      rw [c2]; omega
    · show ((rawI (enc r) : Nat) : Int) = _
      rw [c4]; omega
    · show ((rawX (enc r) : Nat) : Int) = _
      rw [c5]; omega
    · show decide (rawF (enc r) % 2 = 1) = _
      rw [gF]; exact c7
    · show decide (rawF (enc r) / 2 % 2 = 1) = _
      rw [gF]; exact c8
theorem dec_raw {b : List Nat} (hb : ∀ c ∈ b, c < 256) (hA : okA b) (hB : okB b) (hC : okC b (rawK b)) (hm : mayB (raw b) = true) : decR b = some (raw b) := by
  have h := decR_enc (raw b) hm (raw_root hA)
  rw [raw_sound hb hA hB hC] at h
  exact h
theorem dec_fails {b : List Nat} (hb : ∀ c ∈ b, c < 256) (h : ¬ (okA b ∧ okB b ∧ okC b (rawK b) ∧ mayB (raw b) = true)) : decR b = none := by
  cases hd : decR b with
  | none => rfl
  | some r =>
    obtain ⟨e, hm, h32⟩ := decR_some hb hd
    obtain ⟨h1, h2, h3, h4⟩ := raw_enc r hm h32
    rw [← e] at h1 h2 h3 h4
    exact absurd ⟨h1, h2, h3, by rw [h4]; exact hm⟩ h
/-- entries -/
def okE (b : List Nat) : Prop := 1 ≤ b.length ∧ b.length = 35 + b.getD 0 0
theorem decE_raw {b : List Nat} (hb : ∀ c ∈ b, c < 256) (hE : okE b) (hm : entB (rawId b) (rawL b) = true) : decE b = some (rawId b, rawL b, rawRoot b) := by
  obtain ⟨hA1, hA2⟩ := hE
  have hl : (rst b).length = 34 := by simp only [rst, List.length_drop]; omega
  have hr := rst_lt hb
  have hid : (rawId b).length = b.getD 0 0 := by simp only [rawId, List.length_drop, List.length_take]; omega
  have e0 : b = b.getD 0 0 :: (rawId b ++ rst b) := by
    cases b with
    | nil => simp at hA1
    | cons x t =>
      simp only [List.getD_cons_zero] at *
      have h1 : (x :: t) = (x :: t).take (1 + x) ++ (x :: t).drop (1 + x) := (List.take_append_drop _ _).symm
      have h2 : (x :: t).take (1 + x) = x :: ((x :: t).take (1 + x)).drop 1 := by rw [Nat.add_comm 1 x]; simp
      simp only [rawId, rst, List.getD_cons_zero]
      rw [← List.cons_append, ← h2]
      exact h1
  have p1 : rst b = (rst b).take 2 ++ (rst b).drop 2 := (List.take_append_drop 2 _).symm
  have p2 : rawRoot b = (rst b).drop 2 := by unfold rawRoot; rw [List.take_of_length_le (by rw [List.length_drop]; omega)]
  have t1 : be 2 (rawL b) = (rst b).take 2 := be_take hr 2 (by omega)
  have he : encE (rawId b) (rawL b) (rawRoot b) = b := by
    conv => rhs; rw [e0]
    unfold encE
    rw [hid, Int.toNat_natCast, t1, p2, ← p1]
  have h := decE_enc (rawId b) (rawRoot b) (rawL b) hm (by rw [p2, List.length_drop]; omega)
  rw [he, Int.toNat_natCast] at h
  exact h
theorem decE_fails {b : List Nat} (hb : ∀ c ∈ b, c < 256) (h : ¬ (okE b ∧ entB (rawId b) (rawL b) = true)) : decE b = none := by
  cases hd : decE b with
  | none => rfl
  | some x =>
    obtain ⟨id, n, root⟩ := x
    obtain ⟨e, hm, h32⟩ := decE_some hb hd
    have hq := ent_bounds hm
    have e0 : b = id.length :: (id ++ (be 2 n ++ root)) := by rw [e]; simp [encE]
    have g0 : b.getD 0 0 = id.length := by rw [e0]; rfl
    have er : rst b = be 2 n ++ root := by
      unfold rst
      rw [g0, e0, Nat.add_comm 1, List.drop_succ_cons, List.drop_left' rfl]
    have c1 : rawId b = id := by
      unfold rawId
      rw [g0, e0, Nat.add_comm 1, List.take_succ_cons, List.drop_succ_cons, List.drop_zero, List.take_left' rfl]
    have c2 : rawL b = n := by unfold rawL; rw [er, List.take_left' (be_length 2 _), val_be]; omega
    have hlen : b.length = 35 + id.length := by rw [e0]; simp [be_length, h32]; omega
    exact absurd ⟨⟨by omega, by rw [g0]; exact hlen⟩, by rw [c1, c2]; exact hm⟩ h
end Go.Proofs.Ytncjmolhofnpbaa

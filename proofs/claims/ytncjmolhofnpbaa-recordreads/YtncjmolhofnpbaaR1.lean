/- Records and entries as bytes: plain. -/
import Derived.Test.YtncjmolhofnpbaaFr
namespace Go.Proofs.Ytncjmolhofnpbaa
open Fr.Frame

/-- a sign of an id -/
def sign (c : Nat) : Bool := (decide (97 ≤ c) && decide (c ≤ 122)) || (decide (48 ≤ c) && decide (c ≤ 57)) || decide (c = 45) || decide (c = 46)
def nameB (id : List Nat) : Bool := decide (1 ≤ id.length) && decide (id.length ≤ 16) && id.all sign
def inB (n m : Int) : Bool := decide (0 ≤ n) && decide (n ≤ m)
/-- where a copy is -/
structure Pc where
  dev : Int
  pl : Int
  len : Int
  bad : Bool
def pcB (p : Pc) : Bool := inB p.dev 11 && inB p.pl 4095 && inB p.len 255
/-- a record -/
structure Rc where
  id : List Nat
  length : Int
  root : List Nat
  index : Int
  expiry : Int
  hold : Bool
  gone : Bool
  cp : List Pc
def entB (id : List Nat) (length : Int) : Bool := nameB id && inB length 512
def restB (r : Rc) : Bool := inB r.index 2147483647 && inB r.expiry 1099511627776 && decide (r.cp.length ≤ 8) && r.cp.all pcB
def mayB (r : Rc) : Bool := entB r.id r.length && restB r
def bitB (b : Bool) (n : Nat) : Nat := if b then n else 0
def encE (id : List Nat) (length : Int) (root : List Nat) : List Nat := id.length :: (id ++ (be 2 length.toNat ++ root))
def encP (p : Pc) : List Nat := be 1 p.dev.toNat ++ (be 2 p.pl.toNat ++ (be 1 p.len.toNat ++ [bitB p.bad 1]))
def encPs : List Pc → List Nat
  | [] => []
  | p :: ps => encP p ++ encPs ps
def encT (r : Rc) : List Nat := be 4 r.index.toNat ++ (be 6 r.expiry.toNat ++ (bitB r.hold 1 + bitB r.gone 2) :: r.cp.length :: encPs r.cp)
def enc (r : Rc) : List Nat := encE r.id r.length r.root ++ encT r

/-- the first n bytes, and what is behind -/
def tk (n : Nat) (l : List Nat) : Option (List Nat × List Nat) := if n ≤ l.length then some (l.take n, l.drop n) else none
def num (n : Nat) (l : List Nat) : Option (Nat × List Nat) := (tk n l).bind fun x => some (val x.1, x.2)
def upTo (m : Nat) (l : List Nat) : Option (Nat × List Nat) := (num 1 l).bind fun x => if x.1 ≤ m then some x else none
def rdE (l : List Nat) : Option ((List Nat × Nat × List Nat) × List Nat) :=
  (num 1 l).bind fun a => (tk a.1 a.2).bind fun b => (num 2 b.2).bind fun c => (tk 32 c.2).bind fun d => if entB b.1 c.1 then some ((b.1, c.1, d.1), d.2) else none
def rdP (l : List Nat) : Option (Pc × List Nat) :=
  (num 1 l).bind fun a => (num 2 a.2).bind fun b => (num 1 b.2).bind fun c => (upTo 1 c.2).bind fun d => some (⟨a.1, b.1, c.1, decide (d.1 = 1)⟩, d.2)
def rdPs : Nat → List Nat → Option (List Pc × List Nat)
  | 0, l => some ([], l)
  | k + 1, l => (rdP l).bind fun a => (rdPs k a.2).bind fun b => some (a.1 :: b.1, b.2)
def rdR (l : List Nat) : Option (Rc × List Nat) :=
  (rdE l).bind fun a => (num 4 a.2).bind fun b => (num 6 b.2).bind fun c => (upTo 3 c.2).bind fun d => (num 1 d.2).bind fun e => (rdPs e.1 e.2).bind fun f =>
    if restB ⟨a.1.1, a.1.2.1, a.1.2.2, b.1, c.1, decide (d.1 % 2 = 1), decide (d.1 / 2 % 2 = 1), f.1⟩ then some (⟨a.1.1, a.1.2.1, a.1.2.2, b.1, c.1, decide (d.1 % 2 = 1), decide (d.1 / 2 % 2 = 1), f.1⟩, f.2) else none
def decR (b : List Nat) : Option Rc := (rdR b).bind fun x => if x.2.length = 0 then some x.1 else none
def decE (b : List Nat) : Option (List Nat × Nat × List Nat) := (rdE b).bind fun x => if x.2.length = 0 then some x.1 else none

theorem rdPs_succ (k : Nat) (l : List Nat) : rdPs (k + 1) l = (rdP l).bind fun a => (rdPs k a.2).bind fun b => some (a.1 :: b.1, b.2) := rfl
theorem rdPs_snoc (k : Nat) : ∀ l : List Nat, rdPs (k + 1) l = (rdPs k l).bind fun a => (rdP a.2).bind fun b => some (a.1 ++ [b.1], b.2) := by
  induction k with
  | zero => intro l; cases h : rdP l with
    | none => simp [rdPs, h]
    | some x => simp [rdPs, h]
  | succ k ih =>
    intro l
    rw [rdPs_succ (k + 1) l, rdPs_succ k l]
    cases h : rdP l with
    | none => rfl
    | some x =>
      simp only [Option.bind_some, ih]
      cases h2 : rdPs k x.2 with
      | none => rfl
      | some y =>
        simp only [Option.bind_some]
        cases h3 : rdP y.2 with
        | none => rfl
        | some z => rfl

theorem tk_some {n : Nat} {l x t : List Nat} (h : tk n l = some (x, t)) : l = x ++ t ∧ x.length = n := by
  unfold tk at h
  split at h
  · injection h with h
    injection h with h1 h2
    subst h1 h2
    exact ⟨(List.take_append_drop n l).symm, by rw [List.length_take]; omega⟩
  · cases h
theorem tk_app (x t : List Nat) (n : Nat) (h : x.length = n) : tk n (x ++ t) = some (x, t) := by
  subst h
  unfold tk
  rw [if_pos (by simp), List.take_left, List.drop_left]
theorem num_some {n v : Nat} {l t : List Nat} (hb : ∀ c ∈ l, c < 256) (h : num n l = some (v, t)) : l = be n v ++ t ∧ v < 256 ^ n := by
  unfold num at h
  cases hk : tk n l with
  | none => rw [hk] at h; cases h
  | some x =>
    rw [hk] at h
    injection h with h
    injection h with h1 h2
    obtain ⟨e, hl⟩ := tk_some hk
    have hx : ∀ c ∈ x.1, c < 256 := fun c hc => hb c (by rw [e]; simp [hc])
    have h3 := be_val x.1 hx
    have h4 := val_lt x.1 hx
    rw [hl] at h3 h4
    subst h1 h2
    rw [h3]
    exact ⟨e, h4⟩
theorem num_app (n v : Nat) (t : List Nat) (h : v < 256 ^ n) : num n (be n v ++ t) = some (v, t) := by
  unfold num
  rw [tk_app _ _ n (be_length n v)]
  simp only [Option.bind_some, val_be, Nat.mod_eq_of_lt h]
theorem upTo_some {m v : Nat} {l t : List Nat} (hb : ∀ c ∈ l, c < 256) (h : upTo m l = some (v, t)) : l = be 1 v ++ t ∧ v ≤ m ∧ v < 256 := by
  unfold upTo at h
  cases hk : num 1 l with
  | none => rw [hk] at h; cases h
  | some x =>
    rw [hk, Option.bind_some] at h
    split at h
    · injection h with h
      subst h
      obtain ⟨e, hl⟩ := num_some hb hk
      rename_i hm
      exact ⟨e, hm, by simpa using hl⟩
    · cases h
theorem upTo_app (m v : Nat) (t : List Nat) (h : v < 256) (hm : v ≤ m) : upTo m (be 1 v ++ t) = some (v, t) := by
  unfold upTo
  rw [num_app 1 v t (by simpa using h), Option.bind_some, if_pos hm]
theorem be_one (v : Nat) (h : v < 256) : be 1 v = [v] := by
  simp [be, Nat.mod_eq_of_lt h]
theorem tail_lt {x t l : List Nat} (hb : ∀ c ∈ l, c < 256) (e : l = x ++ t) : ∀ c ∈ t, c < 256 := fun c hc => hb c (by rw [e]; simp [hc])

theorem rdE_some {l t id root : List Nat} {n : Nat} (hb : ∀ c ∈ l, c < 256) (h : rdE l = some ((id, n, root), t)) : l = encE id n root ++ t ∧ entB id n = true ∧ root.length = 32 := by
  unfold rdE at h
  cases h1 : num 1 l with
  | none => rw [h1] at h; cases h
  | some a =>
    obtain ⟨e1, l1⟩ := num_some hb h1
    have b1 := tail_lt hb e1
    rw [h1, Option.bind_some] at h
    cases h2 : tk a.1 a.2 with
    | none => rw [h2] at h; cases h
    | some b =>
      obtain ⟨e2, l2⟩ := tk_some h2
      have b2 := tail_lt b1 e2
      rw [h2, Option.bind_some] at h
      cases h3 : num 2 b.2 with
      | none => rw [h3] at h; cases h
      | some c =>
        obtain ⟨e3, l3⟩ := num_some b2 h3
        rw [h3, Option.bind_some] at h
        cases h4 : tk 32 c.2 with
        | none => rw [h4] at h; cases h
        | some d =>
          obtain ⟨e4, l4⟩ := tk_some h4
          rw [h4, Option.bind_some] at h
          split at h
          · injection h with h
            injection h with h h5
            injection h with h6 h7
            injection h7 with h7 h8
            subst h5 h6 h7 h8
            rename_i hok
            refine ⟨?_, hok, l4⟩
            rw [e1, be_one _ (by simpa using l1), e2, e3, e4, ← l2]
            simp [encE]
          · cases h
theorem rdE_app (id root t : List Nat) (n : Int) (hok : entB id n = true) (hr : root.length = 32) : rdE (encE id n root ++ t) = some ((id, n.toNat, root), t) := by
  have hk : id.length ≤ 16 ∧ 0 ≤ n ∧ n ≤ 512 := by
    simp [entB, nameB, inB] at hok
    omega
  unfold rdE encE
  have e1 : (id.length :: (id ++ (be 2 n.toNat ++ root)) ++ t) = be 1 id.length ++ (id ++ (be 2 n.toNat ++ (root ++ t))) := by
    rw [be_one _ (by omega)]
    simp
  rw [e1, num_app 1 _ _ (by omega), Option.bind_some, tk_app _ _ _ rfl, Option.bind_some, num_app 2 _ _ (by omega), Option.bind_some, tk_app _ _ _ hr, Option.bind_some]
  have e2 : ((n.toNat : Nat) : Int) = n := by omega
  simp only [e2, hok, if_true]
theorem rdP_some {l t : List Nat} {p : Pc} (hb : ∀ c ∈ l, c < 256) (h : rdP l = some (p, t)) : l = encP p ++ t := by
  unfold rdP at h
  cases h1 : num 1 l with
  | none => rw [h1] at h; cases h
  | some a =>
    obtain ⟨e1, l1⟩ := num_some hb h1
    have b1 := tail_lt hb e1
    rw [h1, Option.bind_some] at h
    cases h2 : num 2 a.2 with
    | none => rw [h2] at h; cases h
    | some b =>
      obtain ⟨e2, l2⟩ := num_some b1 h2
      have b2 := tail_lt b1 e2
      rw [h2, Option.bind_some] at h
      cases h3 : num 1 b.2 with
      | none => rw [h3] at h; cases h
      | some c =>
        obtain ⟨e3, l3⟩ := num_some b2 h3
        have b3 := tail_lt b2 e3
        rw [h3, Option.bind_some] at h
        cases h4 : upTo 1 c.2 with
        | none => rw [h4] at h; cases h
        | some d =>
          obtain ⟨e4, l4, l5⟩ := upTo_some b3 h4
          rw [h4, Option.bind_some] at h
          injection h with h
          injection h with h5 h6
          subst h5 h6
          have e5 : bitB (decide (d.1 = 1)) 1 = d.1 := by
            by_cases hd : d.1 = 1
            · simp [bitB, hd]
            · simp [bitB, hd]; omega
          rw [e1, e2, e3, e4, be_one d.1 l5]
          simp [encP, e5]
theorem rdP_app (p : Pc) (t : List Nat) (hok : pcB p = true) : rdP (encP p ++ t) = some (p, t) := by
  have hk : (0 ≤ p.dev ∧ p.dev ≤ 11) ∧ (0 ≤ p.pl ∧ p.pl ≤ 4095) ∧ (0 ≤ p.len ∧ p.len ≤ 255) := by
    simp [pcB, inB] at hok
    omega
  unfold rdP encP
  have e1 : (be 1 p.dev.toNat ++ (be 2 p.pl.toNat ++ (be 1 p.len.toNat ++ [bitB p.bad 1])) ++ t) = be 1 p.dev.toNat ++ (be 2 p.pl.toNat ++ (be 1 p.len.toNat ++ (be 1 (bitB p.bad 1) ++ t))) := by
    rw [be_one (bitB p.bad 1) (by cases p.bad <;> simp [bitB])]
    simp
  rw [e1, num_app 1 _ _ (by omega), Option.bind_some, num_app 2 _ _ (by omega), Option.bind_some, num_app 1 _ _ (by omega), Option.bind_some, upTo_app 1 _ _ (by cases p.bad <;> simp [bitB]) (by cases p.bad <;> simp [bitB]), Option.bind_some]
  have e2 : ((p.dev.toNat : Nat) : Int) = p.dev := by omega
  have e3 : ((p.pl.toNat : Nat) : Int) = p.pl := by omega
  have e4 : ((p.len.toNat : Nat) : Int) = p.len := by omega
  have e5 : decide (bitB p.bad 1 = 1) = p.bad := by cases p.bad <;> simp [bitB]
  simp only [e2, e3, e4, e5]
theorem rdPs_some (k : Nat) : ∀ {l t : List Nat} {ps : List Pc}, (∀ c ∈ l, c < 256) → rdPs k l = some (ps, t) → l = encPs ps ++ t ∧ ps.length = k := by
  induction k with
  | zero =>
    intro l t ps _ h
    injection h with h
    injection h with h1 h2
    subst h1 h2
    exact ⟨rfl, rfl⟩
  | succ k ih =>
    intro l t ps hb h
    rw [rdPs] at h
    cases h1 : rdP l with
    | none => rw [h1] at h; cases h
    | some a =>
      have e1 := rdP_some hb h1
      have b1 := tail_lt hb e1
      rw [h1, Option.bind_some] at h
      cases h2 : rdPs k a.2 with
      | none => rw [h2] at h; cases h
      | some b =>
        obtain ⟨e2, l2⟩ := ih b1 h2
        rw [h2, Option.bind_some] at h
        injection h with h
        injection h with h3 h4
        subst h3 h4
        refine ⟨?_, by simp [l2]⟩
        rw [e1, e2, encPs, List.append_assoc]
theorem rdPs_app : ∀ (ps : List Pc) (t : List Nat), ps.all pcB = true → rdPs ps.length (encPs ps ++ t) = some (ps, t) := by
  intro ps
  induction ps with
  | nil => intro t _; rfl
  | cons p ps ih =>
    intro t h
    simp only [List.all_cons, Bool.and_eq_true] at h
    rw [List.length_cons, rdPs, encPs, List.append_assoc, rdP_app p _ h.1, Option.bind_some, ih t h.2, Option.bind_some]
theorem rdR_some {l t : List Nat} {r : Rc} (hb : ∀ c ∈ l, c < 256) (h : rdR l = some (r, t)) : l = enc r ++ t ∧ mayB r = true ∧ r.root.length = 32 := by
  unfold rdR at h
  cases h1 : rdE l with
  | none => rw [h1] at h; cases h
  | some a =>
    obtain ⟨e1, o1, z1⟩ := rdE_some hb h1
    have b1 := tail_lt hb e1
    rw [h1, Option.bind_some] at h
    cases h2 : num 4 a.2 with
    | none => rw [h2] at h; cases h
    | some b =>
      obtain ⟨e2, l2⟩ := num_some b1 h2
      have b2 := tail_lt b1 e2
      rw [h2, Option.bind_some] at h
      cases h3 : num 6 b.2 with
      | none => rw [h3] at h; cases h
      | some c =>
        obtain ⟨e3, l3⟩ := num_some b2 h3
        have b3 := tail_lt b2 e3
        rw [h3, Option.bind_some] at h
        cases h4 : upTo 3 c.2 with
        | none => rw [h4] at h; cases h
        | some d =>
          obtain ⟨e4, l4, l4'⟩ := upTo_some b3 h4
          have b4 := tail_lt b3 e4
          rw [h4, Option.bind_some] at h
          cases h5 : num 1 d.2 with
          | none => rw [h5] at h; cases h
          | some e =>
            obtain ⟨e5, l5⟩ := num_some b4 h5
            have b5 := tail_lt b4 e5
            rw [h5, Option.bind_some] at h
            cases h6 : rdPs e.1 e.2 with
            | none => rw [h6] at h; cases h
            | some f =>
              obtain ⟨e6, l6⟩ := rdPs_some _ b5 h6
              rw [h6, Option.bind_some] at h
              split at h
              · injection h with h
                injection h with h7 h8
                subst h7 h8
                rename_i hok
                refine ⟨?_, by simp only [mayB, o1, hok, Bool.and_self], z1⟩
                have e7 : bitB (decide (d.1 % 2 = 1)) 1 + bitB (decide (d.1 / 2 % 2 = 1)) 2 = d.1 := by
                  obtain h | h | h | h : d.1 = 0 ∨ d.1 = 1 ∨ d.1 = 2 ∨ d.1 = 3 := by omega
                  all_goals (rw [h]; rfl)
                rw [e1, e2, e3, e4, e5, e6, be_one d.1 l4', be_one e.1 (by simpa using l5)]
                simp [enc, encT, e7, l6]
              · cases h
theorem rdR_app (r : Rc) (t : List Nat) (hok : mayB r = true) (hr : r.root.length = 32) : rdR (enc r ++ t) = some (r, t) := by
  have hk := hok
  simp only [mayB, Bool.and_eq_true] at hk
  have hq : (0 ≤ r.length ∧ r.length ≤ 512) ∧ (0 ≤ r.index ∧ r.index ≤ 2147483647) ∧ (0 ≤ r.expiry ∧ r.expiry ≤ 1099511627776) ∧ r.cp.length ≤ 8 := by
    simp [entB, restB, inB] at hk
    omega
  have hps : r.cp.all pcB = true := by
    have := hk.2
    simp only [restB, Bool.and_eq_true] at this
    exact this.2
  unfold rdR enc encT
  have hf : bitB r.hold 1 + bitB r.gone 2 ≤ 3 := by cases r.hold <;> cases r.gone <;> simp [bitB]
  have e1 : (encE r.id r.length r.root ++ (be 4 r.index.toNat ++ (be 6 r.expiry.toNat ++ (bitB r.hold 1 + bitB r.gone 2) :: r.cp.length :: encPs r.cp)) ++ t) = encE r.id r.length r.root ++ (be 4 r.index.toNat ++ (be 6 r.expiry.toNat ++ (be 1 (bitB r.hold 1 + bitB r.gone 2) ++ (be 1 r.cp.length ++ (encPs r.cp ++ t))))) := by
    rw [be_one _ (by omega), be_one _ (by omega)]
    simp
  rw [e1, rdE_app _ _ _ _ hk.1 hr, Option.bind_some, num_app 4 _ _ (by omega), Option.bind_some, num_app 6 _ _ (by omega), Option.bind_some, upTo_app 3 _ _ (by omega) hf, Option.bind_some, num_app 1 _ _ (by omega), Option.bind_some, rdPs_app _ _ hps, Option.bind_some]
  have e2 : ((r.length.toNat : Nat) : Int) = r.length := by omega
  have e3 : ((r.index.toNat : Nat) : Int) = r.index := by omega
  have e4 : ((r.expiry.toNat : Nat) : Int) = r.expiry := by omega
  have e5 : decide ((bitB r.hold 1 + bitB r.gone 2) % 2 = 1) = r.hold := by cases r.hold <;> cases r.gone <;> simp [bitB]
  have e6 : decide ((bitB r.hold 1 + bitB r.gone 2) / 2 % 2 = 1) = r.gone := by cases r.hold <;> cases r.gone <;> simp [bitB]
  simp only [e2, e3, e4, e5, e6, hk.2, if_true]
theorem decR_some {b : List Nat} {r : Rc} (hb : ∀ c ∈ b, c < 256) (h : decR b = some r) : b = enc r ∧ mayB r = true ∧ r.root.length = 32 := by
  unfold decR at h
  cases h1 : rdR b with
  | none => rw [h1] at h; cases h
  | some x =>
    rw [h1, Option.bind_some] at h
    split at h
    · rename_i hz
      injection h with h
      subst h
      obtain ⟨e, o⟩ := rdR_some (t := x.2) hb h1
      have ez : x.2 = [] := List.length_eq_zero_iff.1 hz
      rw [ez, List.append_nil] at e
      exact ⟨e, o⟩
    · cases h
theorem decR_enc (r : Rc) (hok : mayB r = true) (hr : r.root.length = 32) : decR (enc r) = some r := by
  have := rdR_app r [] hok hr
  rw [List.append_nil] at this
  simp [decR, this]
theorem decE_some {b id root : List Nat} {n : Nat} (hb : ∀ c ∈ b, c < 256) (h : decE b = some (id, n, root)) : b = encE id n root ∧ entB id n = true ∧ root.length = 32 := by
  unfold decE at h
  cases h1 : rdE b with
  | none => rw [h1] at h; cases h
  | some x =>
    rw [h1, Option.bind_some] at h
    split at h
    · rename_i hz
      injection h with h
      have ez : x.2 = [] := List.length_eq_zero_iff.1 hz
      have ex : x = ((id, n, root), []) := by rw [← h, ← ez]
      rw [ex] at h1
      obtain ⟨e, o⟩ := rdE_some hb h1
      rw [List.append_nil] at e
      exact ⟨e, o⟩
    · cases h
theorem decE_enc (id root : List Nat) (n : Int) (hok : entB id n = true) (hr : root.length = 32) : decE (encE id n root) = some (id, n.toNat, root) := by
  have := rdE_app id root [] n hok hr
  rw [List.append_nil] at this
  simp [decE, this]
theorem encP_length (p : Pc) : (encP p).length = 5 := by simp [encP, be_length]
theorem encPs_length (ps : List Pc) : (encPs ps).length = 5 * ps.length := by
  induction ps with
  | nil => rfl
  | cons p ps ih => rw [encPs, List.length_append, encP_length, ih, List.length_cons]; omega
theorem encE_length (id root : List Nat) (n : Int) : (encE id n root).length = 3 + id.length + root.length := by simp [encE, be_length]; omega
theorem enc_length (r : Rc) : (enc r).length = 15 + r.id.length + r.root.length + 5 * r.cp.length := by
  simp [enc, encT, encE_length, be_length, encPs_length]
  omega
theorem encPs_snoc (ps : List Pc) (p : Pc) : encPs (ps ++ [p]) = encPs ps ++ encP p := by
  induction ps with
  | nil => simp [encPs]
  | cons q ps ih => simp [encPs, ih]
end Go.Proofs.Ytncjmolhofnpbaa

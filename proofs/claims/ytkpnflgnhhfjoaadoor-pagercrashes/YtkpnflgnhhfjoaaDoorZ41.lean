/- The pager and the document's pager: how they go together; strings. Whether a pager is as the document's; which of the ten. -/
import Derived.Test.YtkpnflgnhhfjoaaDoorZ40
import Derived.Test.YtkpnflgnhhfjoaaDoorZ37
namespace Go.Proofs.YtkpnflgnhhfjoaaDoor
open Go.RowKit Go.Maps

theorem leastFrom_first (L : Hd) (U : List Nat) (n : Nat) : ∀ f k, n + 1 ≤ f + k → (∀ j, j < k → freeP L U (j : Nat) = false) → (leastFrom L U n f k = none → ∀ j, j < n → freeP L U (j : Nat) = false) ∧ (∀ p, leastFrom L U n f k = some p → ∀ j, j < p → freeP L U (j : Nat) = false) := by
  intro f
  induction f with
  | zero => intro k h hk; exact ⟨fun _ j hj => hk j (by omega), fun p e => by cases e⟩
  | succ f ih =>
    intro k h hk
    unfold leastFrom
    by_cases h1 : k < n
    · rw [if_pos h1]
      cases h2 : freeP L U (k : Nat) with
      | true =>
        rw [if_pos rfl]
        exact ⟨fun e => (by cases e), fun p e j hj => hk j (by have e2 : k = p := Option.some.inj e; omega)⟩
      | false =>
        rw [if_neg (by decide)]
        refine ih (k + 1) (by omega) fun j hj => ?_
        rcases Nat.lt_or_ge j k with h3 | h3
        · exact hk j h3
        · rw [show j = k by omega]; exact h2
    · rw [if_neg h1]
      exact ⟨fun _ j hj => hk j (by omega), fun p e => by cases e⟩
theorem leastP_none {L : Hd} {U : List Nat} {n : Nat} (h : leastP L U n = none) : ∀ j, j < n → freeP L U (j : Nat) = false := (leastFrom_first L U n (n + 1) 0 (by omega) (fun j hj => absurd hj (Nat.not_lt_zero _))).1 h
theorem leastP_first {L : Hd} {U : List Nat} {n p : Nat} (h : leastP L U n = some p) : ∀ j, j < p → freeP L U (j : Nat) = false := (leastFrom_first L U n (n + 1) 0 (by omega) (fun j hj => absurd hj (Nat.not_lt_zero _))).2 p h
/-- the pager has what the document's has -/
structure Rls (L : Hd) (U : List Nat) (X : Nat → List Nat) (r : RefS) (n : Nat) : Prop where
  root : L.root = r.rt
  us : ∀ p, p < n → bitP U p = r.us.getD p false
  ws : ∀ p, p < n → bitP L.used p = r.ws.getD p false
  xb : ∀ p, p < n → r.us.getD p false = true → (r.lb.getD p []).length ≤ 500 ∧ X p = imOf (r.lb.getD p [])
  xc : ∀ p, p < n → r.ws.getD p false = true → (r.lc.getD p []).length ≤ 500 ∧ X p = imOf (r.lc.getD p [])
structure RefS.Len (r : RefS) (n : Nat) : Prop where
  u : r.us.length = n
  w : r.ws.length = n
  b : r.lb.length = n
  c : r.lc.length = n
theorem Ref.sgy {S : Nat → Prop} {W : World} {gy n : Nat} {r : RefS} (h : Ref S W gy n r) : S gy := by
  obtain ⟨vb, vu, vw, vc, bs, cs, ho⟩ := h.opened
  exact ho.sgy
/-- another's pager, whose struct is written -/
theorem Ref.off {S : Nat → Prop} {W W' : World} {gy gm n : Nat} {r : RefS} {cs0 : List Value} (h : Ref S W gm n r) (hr : Row W gy 84 cs0) (hne : gm ≠ gy) (hc : Ch (· = gy) W W') : Ref S W' gm n r := by
  obtain ⟨vb, vu, vw, vc, bs, cs, ho⟩ := h.opened
  refine RefO.ref (RefX.o (vb := vb) (vu := vu) (vw := vw) (vc := vc) (bs := bs) (cs := cs) ⟨ho.sgy, ho.b.offRow hr (by decide) hc, ho.u.offRow hr (by decide) hc, ho.w.offRow hr (by decide) hc, ho.c.offRow hr (by decide) hc, ho.uw, ho.bc, ho.lu, ho.lw, ho.lb, ho.lc, ho.mb, ho.mc, fun i v b e e' => ⟨(ho.byb i v b e e').1.offRow hr (by decide) hc, (ho.byb i v b e e').2⟩, fun i v b e e' => ⟨(ho.byc i v b e e').1.offRow hr (by decide) hc, (ho.byc i v b e e').2⟩⟩ ?_)
  exact (hc.one gm ho.row.lt fun e => hne e).trans ho.row
theorem Ref.row84 {S : Nat → Prop} {W : World} {gy n : Nat} {r : RefS} (h : Ref S W gy n r) : ∃ cs0, Row W gy 84 cs0 := by
  obtain ⟨vb, vu, vw, vc, bs, cs, ho⟩ := h.opened
  exact ⟨_, ho.row⟩
theorem Ref.len {S : Nat → Prop} {W : World} {gy n : Nat} {r : RefS} (h : Ref S W gy n r) : r.Len n := by
  obtain ⟨vb, vu, vw, vc, bs, cs, ho⟩ := h.opened
  exact ⟨ho.lu, ho.lw, ho.mb, ho.mc⟩
theorem getD_set {α : Type} (l : List α) (k p : Nat) (x d : α) (hk : k < l.length) : (l.set k x).getD p d = if p = k then x else l.getD p d := by
  rw [List.getD_eq_getElem?_getD, List.getElem?_set]
  by_cases e : p = k
  · subst e
    rw [if_pos rfl, if_pos rfl, if_pos hk]
    rfl
  · rw [if_neg (fun e2 => e e2.symm), if_neg e, ← List.getD_eq_getElem?_getD]
section
variable {L : Hd} {U : List Nat} {X : Nat → List Nat} {r : RefS} {n : Nat}
theorem Rls.used (h : Rls L U X r n) (hl : r.Len n) (hn : n ≤ 384) (hout : ∀ p, n ≤ p → p < 384 → bitP U p = false) (p : Int) : hasP U p = r.used p := by
  unfold hasP RefS.used
  rw [hl.u]
  by_cases h0 : 0 ≤ p
  · rw [decide_eq_true h0, Bool.true_and, Bool.true_and]
    obtain ⟨k, rfl⟩ := Int.eq_ofNat_of_zero_le h0
    show (decide ((k : Int) < 384) && bitP U k) = (decide ((k : Int) < (n : Nat)) && r.us.getD k false)
    by_cases h1 : k < n
    · rw [decide_eq_true (by omega), decide_eq_true (by omega), h.us k h1]
    · rw [decide_eq_false (show ¬ (k : Int) < (n : Nat) by omega), Bool.false_and]
      by_cases h2 : k < 384
      · rw [hout k (by omega) h2, Bool.and_false]
      · rw [decide_eq_false (by omega), Bool.false_and]
  · rw [decide_eq_false h0, Bool.false_and, Bool.false_and]
theorem Rls.free (h : Rls L U X r n) (hn : n ≤ 384) (j : Nat) (hj : j < n) : freeP L U (j : Nat) = freeR r j := by
  unfold freeP freeR
  rw [hasP_nat U j (by omega), hasP_nat L.used j (by omega), h.us j hj, h.ws j hj]
theorem Rls.room (h : Rls L U X r n) (hn : n ≤ 384) : roomTo L U n = roomR r.us r.ws n := by
  have key : ∀ k, k ≤ n → roomTo L U k = roomR r.us r.ws k := by
    intro k
    induction k with
    | zero => intro _; rfl
    | succ k ih =>
      intro hk
      unfold roomTo roomR
      rw [ih (by omega), h.free hn k (by omega)]
      unfold freeR
      rfl
  exact key n (Nat.le_refl _)
theorem Rls.none (h : Rls L U X r n) (hn : n ≤ 384) (hf : ∀ j, j < n → freeR r j = false) : leastP L U n = none := by
  cases e : leastP L U n with
  | none => rfl
  | some p =>
    obtain ⟨h1, h2⟩ := leastP_some e
    rw [h.free hn p h1, hf p h1] at h2
    cases h2
theorem Rls.least (h : Rls L U X r n) (hn : n ≤ 384) (k : Nat) (hk : k < n) (hf : freeR r k = true) (hb : ∀ j, j < k → freeR r j = false) : leastP L U n = some k := by
  cases e : leastP L U n with
  | none =>
    have := leastP_none e k hk
    rw [h.free hn k hk, hf] at this
    cases this
  | some p =>
    obtain ⟨h1, h2⟩ := leastP_some e
    rcases Nat.lt_trichotomy p k with h3 | h3 | h3
    · rw [h.free hn p h1, hb p h3] at h2; cases h2
    · rw [h3]
    · have := leastP_first e k h3
      rw [h.free hn k hk, hf] at this
      cases this
theorem freeR_two {k : Nat} (h : freeR r k = true) : r.us.getD k false = false ∧ r.ws.getD k false = false := by
  unfold freeR at h
  cases h1 : r.us.getD k false <;> cases h2 : r.ws.getD k false <;> rw [h1, h2] at h <;> first | exact ⟨rfl, rfl⟩ | cases h
theorem Rls.put (h : Rls L U X r n) (hl : r.Len n) (hu : USet U) (hn : n ≤ 384) (k : Nat) (hk : k < n) (hf : freeR r k = true) (b : List Nat) (hb : b.length ≤ 500) : Rls L (withP U k) (updP X k (imOf b)) { r with us := r.us.set k true, lb := r.lb.set k b } n := by
  obtain ⟨f1, f2⟩ := freeR_two hf
  refine ⟨h.root, fun p hp => ?_, h.ws, fun p hp e => ?_, fun p hp e => ?_⟩
  · rw [bitP_with hu (by omega), getD_set _ _ _ _ _ (by rw [hl.u]; exact hk)]
    by_cases e : p = k
    · rw [if_pos e, decide_eq_true e, Bool.true_or]
    · rw [if_neg e, decide_eq_false e, Bool.false_or, h.us p hp]
  · show ((r.lb.set k b).getD p []).length ≤ 500 ∧ updP X k (imOf b) p = imOf ((r.lb.set k b).getD p [])
    rw [getD_set _ _ _ _ _ (by rw [hl.b]; exact hk)]
    unfold updP
    by_cases e2 : p = k
    · rw [if_pos e2, if_pos e2]
      exact ⟨hb, rfl⟩
    · rw [if_neg e2, if_neg e2]
      refine h.xb p hp ?_
      have e3 : (r.us.set k true).getD p false = true := e
      rw [getD_set _ _ _ _ _ (by rw [hl.u]; exact hk), if_neg e2] at e3
      exact e3
  · show (r.lc.getD p []).length ≤ 500 ∧ updP X k (imOf b) p = imOf (r.lc.getD p [])
    have e2 : p ≠ k := fun e3 => by
      have e4 : r.ws.getD p false = true := e
      rw [e3, f2] at e4
      cases e4
    unfold updP
    rw [if_neg e2]
    exact h.xc p hp e
theorem Rls.less (h : Rls L U X r n) (hl : r.Len n) (hu : USet U) (hn : n ≤ 384) (k : Nat) (hk : k < n) : Rls L (lessP U k) X { r with us := r.us.set k false } n := by
  refine ⟨h.root, fun p hp => ?_, h.ws, fun p hp e => h.xb p hp ?_, h.xc⟩
  · rw [bitP_less hu (by omega), getD_set _ _ _ _ _ (by rw [hl.u]; exact hk)]
    by_cases e : p = k
    · rw [if_pos e, decide_eq_true e]; rfl
    · rw [if_neg e, decide_eq_false e, h.us p hp]; rfl
  · have e3 : (r.us.set k false).getD p false = true := e
    rw [getD_set _ _ _ _ _ (by rw [hl.u]; exact hk)] at e3
    by_cases e2 : p = k
    · rw [if_pos e2] at e3; cases e3
    · rw [if_neg e2] at e3; exact e3
theorem Rls.commit (h : Rls L U X r n) (p : Int) : Rls (nextHd L p U) U X { r with rt := p, ws := r.us, lc := r.lb } n := ⟨rfl, h.us, h.us, h.xb, h.xb⟩
/-- what an opening finds -/
def RefS.dropped (r : RefS) : RefS := { r with us := r.ws, lb := r.lc }
theorem Rls.drop (h : Rls L U X r n) : Rls L L.used X r.dropped n := ⟨h.root, h.ws, h.ws, h.xc, h.xc⟩
theorem Rls.new (k n : Nat) (X : Nat → List Nat) : Rls (noHd k) noneP X (ref0 n) n := by
  have e : ∀ p, (List.replicate n false).getD p false = false := fun p => by
    rw [List.getD_eq_getElem?_getD, List.getElem?_replicate]
    split <;> rfl
  refine ⟨rfl, fun p _ => ?_, fun p _ => ?_, fun p _ e2 => ?_, fun p _ e2 => ?_⟩
  · rw [bitP_none]; exact (e p).symm
  · show bitP noneP p = _
    rw [bitP_none]; exact (e p).symm
  · exact absurd (show (List.replicate n false).getD p false = true from e2) (by rw [e p]; decide)
  · exact absurd (show (List.replicate n false).getD p false = true from e2) (by rw [e p]; decide)
/-- what can be told of a pager by asking -/
def Told (L : Hd) (U : List Nat) (X : Nat → List Nat) (r : RefS) (n : Nat) : Prop := L.root = r.rt ∧ ∀ p, p < n → bitP U p = r.us.getD p false ∧ (r.us.getD p false = true → (r.lb.getD p []).length ≤ 500 ∧ X p = imOf (r.lb.getD p []))
theorem Told.rel (h : Told L L.used X r.dropped n) : Rls L L.used X r.dropped n := ⟨h.1, fun p hp => (h.2 p hp).1, fun p hp => (h.2 p hp).1, fun p hp => (h.2 p hp).2, fun p hp => (h.2 p hp).2⟩
theorem readV_two {x : List Nat} (h : x.length = 512) (hv : readV x = true) : (imBytes x).length ≤ 500 ∧ x = imOf (imBytes x) := by
  unfold readV at hv
  simp only [Bool.and_eq_true, decide_eq_true_eq] at hv
  exact ⟨by rw [imBytes_length h hv.1]; exact hv.1, hv.2.symm⟩
end
/- strings -/
def str (cs : List Nat) : Value := .string (strOfNums (cs.map Int.ofNat))
theorem str_inj {xs ys : List Nat} (hx : ∀ c ∈ xs, c < 256) (hy : ∀ c ∈ ys, c < 256) : (strOfNums (xs.map Int.ofNat) = strOfNums (ys.map Int.ofNat)) ↔ xs = ys := by
  constructor
  · intro h
    have h1 := congrArg (fun s => s.data.toList) h
    simp only [strOfNums_data, List.map_map] at h1
    have key : ∀ zs : List Nat, (∀ c ∈ zs, c < 256) → (zs.map ((fun n : Int => UInt8.ofNat n.toNat) ∘ Int.ofNat)).map UInt8.toNat = zs := by
      intro zs hz
      rw [List.map_map]
      conv => rhs; rw [← List.map_id zs]
      apply List.map_congr_left
      intro c hc
      have := hz c hc
      simp [Function.comp]
      omega
    rw [← key xs hx, ← key ys hy, h1]
  · intro h
    rw [h]
theorem str_same {sx sy : ByteArray} {b : Bool} (h : decide (sx = sy) = b) : (sx.toList == sy.toList) = b := by
  rw [← h, Bool.eq_iff_iff, beq_iff_eq, decide_eq_true_iff, ByteArray.toList_eq, ByteArray.toList_eq]
  constructor
  · intro h
    obtain ⟨⟨l⟩⟩ := sx
    obtain ⟨⟨m⟩⟩ := sy
    have h' : l = m := h
    rw [h']
  · intro h
    rw [h]
section
variable {w : World} {a : Act} {o : Oper}
theorem rx_sne (x y : Operand) (ho : o.op = .binOp .neq 9 x y 9) (xs ys : List Nat) (hx : a.eval x = str xs) (hy : a.eval y = str ys) (hbx : ∀ c ∈ xs, c < 256) (hby : ∀ c ∈ ys, c < 256) (b : Bool) (hb : decide (xs = ys) = b) : (execOp a.eval o).run Tryd.prog w = .ok (.value (.bool (!b))) w := by
  have e : decide (strOfNums (xs.map Int.ofNat) = strOfNums (ys.map Int.ofNat)) = b := by rw [← hb, Bool.eq_iff_iff, decide_eq_true_iff, decide_eq_true_iff]; exact str_inj hbx hby
  have e' := str_same e
  unfold str at hx hy
  generalize strOfNums (xs.map Int.ofNat) = sx at *
  generalize strOfNums (ys.map Int.ofNat) = sy at *
  simp only [execOp, ho, hx, hy]
  simp [go_sem]
  rw [e']
theorem run_strB (x : Operand) (ho : o.op = .convert 38 9 x) (v : Value) (cs : List Nat) (hx : a.eval x = v) (hin : SliceIn w v cs) : (execOp a.eval o).run Tryd.prog w = .ok (.value (str cs)) w := by
  have h := run_bstring hin
  simp [execOp, ho, hx, h, str]
end
end Go.Proofs.YtkpnflgnhhfjoaaDoor

namespace Go.Proofs.YtkpnflgnhhfjoaaDoor
open Go.RowKit Go.Maps

/-- what a look at a page tells -/
def AskG (U : List Nat) (X : Nat → List Nat) (p er : Int) (bs : List Nat) : Prop := (hasP U p = false ∧ er = 90 ∧ bs = []) ∨ (hasP U p = true ∧ readV (X p.toNat) = false ∧ er = 4 ∧ bs = []) ∨ (hasP U p = true ∧ readV (X p.toNat) = true ∧ er = 0 ∧ bs = imBytes (X p.toNat))
def AskR (r : RefS) (p fr : Int) (cs : List Nat) : Prop := (r.used p = false ∧ fr = 90 ∧ cs = []) ∨ (r.used p = true ∧ fr = 0 ∧ cs = r.lb.getD p.toNat [])
theorem snil (w : World) : SliceIn w (.slice none 0 0) [] := ⟨none, 0, rfl, ⟨Nat.le_refl _, by decide⟩, Or.inl rfl⟩
theorem PgW.ask {w W : World} {c : Nat → Colour} {gp g : Nat} {m : Pl} {ds ts : List Nat} {i n : Nat} {L : Hd} {U : List Nat} {X : Nat → List Nat} {K : Nat} (h : PgW w W c gp g m ds ts i n L U X K) (hK : K ≤ 1000000000000) (p : Int) : Calls Tryd.prog 28 #[ptr gp, .int .i64 p] W fun e W' => ∃ v er bs, e = .returned (.tuple #[v, .int .i64 er]) ∧ Below W.heap.size W W' ∧ SliceIn W' v bs ∧ AskG U X p er bs := by
  refine (h.read hK p).mono ?_
  rintro e W' ⟨h1, ⟨h2, h3⟩ | ⟨h2, h3, h4⟩ | ⟨v, h2, h3, h4, h5⟩⟩
  · exact ⟨_, _, [], h3, h1, snil _, Or.inl ⟨h2, rfl, rfl⟩⟩
  · exact ⟨_, _, [], h4, h1, snil _, Or.inr (Or.inl ⟨h2, h3, rfl, rfl⟩)⟩
  · obtain ⟨q, rfl, _, hq⟩ := h4
    have him := h.o.c.img p.toNat
    have hl := (readV_two him.1 h3).1
    exact ⟨_, _, _, h5, h1, new_slice hq (imBytes_lt him.2) rfl (by omega), Or.inr (Or.inr ⟨h2, h3, rfl, rfl⟩)⟩
theorem rask_any (S : Nat → Prop) (w : World) (gy n : Nat) (r : RefS) (h : Ref S w gy n r) (hn : n ≤ 384) (p : Int) : Calls Tryd.prog 50 #[ptr gy, .int .i64 p] w fun e w' => ∃ v er bs, e = .returned (.tuple #[v, .int .i64 er]) ∧ Below w.heap.size w w' ∧ SliceIn w' v bs ∧ AskR r p er bs := by
  refine (rread_any S w gy n r h hn p).mono ?_
  rintro e W' (⟨h1, h2, rfl⟩ | ⟨h1, v, h2, h3, h4⟩)
  · exact ⟨_, _, [], h2, Below.refl _ _, snil _, Or.inl ⟨h1, rfl, rfl⟩⟩
  · exact ⟨_, _, _, h2, h4, h3, Or.inr ⟨h1, rfl, rfl⟩⟩
section
variable {L : Hd} {U : List Nat} {X : Nat → List Nat} {r : RefS} {n : Nat}
theorem Rls.asks (h : Rls L U X r n) (hl : r.Len n) (hn : n ≤ 384) (hout : ∀ p, n ≤ p → p < 384 → bitP U p = false) {p er fr : Int} {bs cs : List Nat} (h1 : AskG U X p er bs) (h2 : AskR r p fr cs) : er = fr ∧ bs = cs := by
  have hu := h.used hl hn hout p
  rcases h1 with ⟨a1, a2, a3⟩ | ⟨a1, a2, a3, a4⟩ | ⟨a1, a2, a3, a4⟩ <;> rcases h2 with ⟨b1, b2, b3⟩ | ⟨b1, b2, b3⟩ <;> rw [a1, b1] at hu
  · exact ⟨a2.trans b2.symm, a3.trans b3.symm⟩
  · cases hu
  · cases hu
  · obtain ⟨k, rfl, hk⟩ := used_lt b1
    have hb : r.us.getD k false = true := by
      have h3 := b1
      unfold RefS.used at h3
      simp only [Bool.and_eq_true] at h3
      exact h3.2.2
    obtain ⟨x1, x2⟩ := h.xb k (by rw [← hl.u]; exact hk) hb
    have e : (((k : Nat) : Int)).toNat = k := rfl
    rw [e, x2, readV_of x1] at a2
    cases a2
  · cases hu
  · obtain ⟨k, rfl, hk⟩ := used_lt b1
    have hb : r.us.getD k false = true := by
      have h3 := b1
      unfold RefS.used at h3
      simp only [Bool.and_eq_true] at h3
      exact h3.2.2
    obtain ⟨x1, x2⟩ := h.xb k (by rw [← hl.u]; exact hk) hb
    have e : (((k : Nat) : Int)).toNat = k := rfl
    rw [e, x2, imBytes_of x1] at a4
    rw [e] at b3
    exact ⟨a3.trans b2.symm, a4.trans b3.symm⟩
/-- what a page that answers alike is -/
def Page1 (U : List Nat) (X : Nat → List Nat) (r : RefS) (p : Nat) : Prop := bitP U p = r.us.getD p false ∧ (r.us.getD p false = true → (r.lb.getD p []).length ≤ 500 ∧ X p = imOf (r.lb.getD p []))
theorem ask_page (hl : r.Len n) (hn : n ≤ 384) (hX : Imgs X) {p : Nat} (hp : p < n) {er : Int} {bs : List Nat} (h1 : AskG U X (p : Nat) er bs) (h2 : AskR r (p : Nat) er bs) : Page1 U X r p := by
  have e : (((p : Nat) : Int)).toNat = p := rfl
  have hu : r.used (p : Nat) = r.us.getD p false := by
    unfold RefS.used
    rw [hl.u, decide_eq_true (by omega), decide_eq_true (by omega), e]
    rfl
  have hh : hasP U (p : Nat) = bitP U p := hasP_nat U p (by omega)
  rw [AskG, e, hh] at h1
  rw [AskR, e, hu] at h2
  rcases h1 with ⟨a1, a2, a3⟩ | ⟨a1, a2, a3, a4⟩ | ⟨a1, a2, a3, a4⟩ <;> rcases h2 with ⟨b1, b2, b3⟩ | ⟨b1, b2, b3⟩
  · exact ⟨a1.trans b1.symm, fun e2 => by rw [b1] at e2; cases e2⟩
  · rw [a2] at b2; cases b2
  · rw [a3] at b2; cases b2
  · rw [a3] at b2; cases b2
  · rw [a3] at b2; cases b2
  · obtain ⟨x1, x2⟩ := readV_two (hX p).1 a2
    rw [← a4, b3] at x1 x2
    exact ⟨a1.trans b1.symm, fun _ => ⟨x1, x2⟩⟩
end
set_option maxHeartbeats 4000000 in
set_option maxRecDepth 100000 in
theorem alike_any {w W : World} {c : Nat → Colour} {gp g : Nat} {m : Pl} {ds ts : List Nat} {i0 n : Nat} {L : Hd} {U : List Nat} {X : Nat → List Nat} {K : Nat} (h : PgW w W c gp g m ds ts i0 n L U X K) (hK : K ≤ 1000000000000) (S : Nat → Prop) (gy : Nat) (r : RefS) (hr : Ref S W gy n r) : Calls Tryd.prog 22 #[ptr gp, ptr gy] W fun e W' => ∃ b, e = .returned (.bool b) ∧ Below W.heap.size W W' ∧ (Rls L U X r n → b = true) ∧ (b = true → n ≤ 39 → Told L U X r n) := by
  have HP : Hid (PgW w W c gp g m ds ts i0 n L U X K) := h
  have HK : Hid (K ≤ 1000000000000) := hK
  have HR : Hid (Ref S W gy n r) := hr
  have HN : Hid (n ≤ 384) := h.n384
  clear h hK hr
  obtain ⟨PQ, HPQ⟩ : ∃ PQ : Ending → World → Prop, Hid (PQ = fun e W' => ∃ b, e = .returned (.bool b) ∧ Below W.heap.size W W' ∧ (Rls L U X r n → b = true) ∧ (b = true → n ≤ 39 → Told L U X r n)) := ⟨_, rfl⟩
  rw [← HPQ.out]
  obtain ⟨d1, hd1⟩ : ∃ x, (!decide (L.root = r.rt)) = x := ⟨_, rfl⟩
  have HD1 : Hid ((!decide (L.root = r.rt)) = d1) := hd1
  obtain ⟨d2, hd2⟩ : ∃ x, (!decide ((roomTo L U n : Int) = (roomR r.us r.ws n : Nat))) = x := ⟨_, rfl⟩
  have HD2 : Hid ((!decide ((roomTo L U n : Int) = (roomR r.us r.ws n : Nat))) = d2) := hd2
  obtain ⟨rg, hrg⟩ : ∃ x : Int, x = (roomTo L U n : Nat) := ⟨_, rfl⟩
  obtain ⟨rr, hrr⟩ : ∃ x : Int, x = (roomR r.us r.ws n : Nat) := ⟨_, rfl⟩
  have HRG : Hid (rg = (roomTo L U n : Nat) ∧ rr = (roomR r.us r.ws n : Nat)) := ⟨hrg, hrr⟩
  have HD3 : Hid ((!decide (rg = rr)) = d2) := (by rw [hrg, hrr]; exact hd2)
  clear hd1 hd2 hrg hrr
  go_enter Tryd.func22, Tryd.ntmps22
  by_cases hc1 : d1 = true
  · have HT : Hid (d1 = true) := hc1
    clear hc1
    go_upto_region 1 with fail
    refine wp_region_lit ?_
    refine wl rfl (ptr gp) _ (run_mvZ (.tmp 0) rfl (ptr gp) rfl) ?_
    simp only [Act.put, aS, aC, aZ]
    refine wpList_callW eN27 [.tmp 10] _ rfl rfl [(ptr gp)] rfl ?_
    refine HP.out.root.mono ?_
    rintro e W_ ⟨rfl, rfl⟩
    refine ⟨_, rfl, ?_⟩
    simp only [Act.put, aS, aC, aZ]
    refine wl rfl (ptr gy) _ (run_mvZ (.tmp 1) rfl (ptr gy) rfl) ?_
    simp only [Act.put, aS, aC, aZ]
    refine wpList_callW eN48 [.tmp 12] _ rfl rfl [(ptr gy)] rfl ?_
    refine (rroot_any S _ gy n r HR.out).mono ?_
    rintro e W_ ⟨rfl, rfl⟩
    refine ⟨_, rfl, ?_⟩
    simp only [Act.put, aS, aC, aZ]
    refine wl rfl (.bool d1) _ (run_neZ (.tmp 11) (.tmp 13) rfl L.root r.rt rfl rfl d1 HD1.out) ?_
    simp only [Act.put, aS, aC, aZ]
    refine wl rfl (.bool d1) _ (run_mvZ (.tmp 14) rfl (.bool d1) rfl) ?_
    simp only [Act.put, aS, aC, aZ]
    refine wpList_skip (by rw [HT.out]; kernel_rfl) ?_
    simp only [Act.put, aS, aC, aZ]
    refine wpList_skip (by rw [HT.out]; kernel_rfl) ?_
    simp only [Act.put, aS, aC, aZ]
    refine wpList_skip (by rw [HT.out]; kernel_rfl) ?_
    simp only [Act.put, aS, aC, aZ]
    refine wpList_skip (by rw [HT.out]; kernel_rfl) ?_
    simp only [Act.put, aS, aC, aZ]
    refine wpList_skip (by rw [HT.out]; kernel_rfl) ?_
    simp only [Act.put, aS, aC, aZ]
    refine wl rfl (.bool d1) _ (run_pickZ (.tmp 15) (.const (.bool true)) (.tmp 20) rfl d1 (.bool d1) rfl (by rw [HT.out]; rfl)) ?_
    simp only [Act.put, aS, aC, aZ]
    refine wpList_nil ?_
    obtain rfl : d1 = true := HT.out
    go_wp2_with fail
    rw [HPQ.out]
    exact ⟨false, rfl, Below.refl _ _, fun hrel => absurd HD1.out (by rw [hrel.root, decide_eq_true rfl]; decide), fun e => by cases e⟩
  obtain rfl : d1 = false := (by cases d1 with | true => exact absurd rfl hc1 | false => rfl)
  clear hc1
  have HRT : Hid (L.root = r.rt) := (by
    have h := HD1.out
    by_cases e : L.root = r.rt
    · exact e
    · rw [decide_eq_false e] at h; cases h)
  go_upto_region 1 with fail
  refine wp_region_lit ?_
  refine wl rfl (ptr gp) _ (run_mvZ (.tmp 0) rfl (ptr gp) rfl) ?_
  simp only [Act.put, aS, aC, aZ]
  refine wpList_callW eN27 [.tmp 10] _ rfl rfl [(ptr gp)] rfl ?_
  refine HP.out.root.mono ?_
  rintro e W_ ⟨rfl, rfl⟩
  refine ⟨_, rfl, ?_⟩
  simp only [Act.put, aS, aC, aZ]
  refine wl rfl (ptr gy) _ (run_mvZ (.tmp 1) rfl (ptr gy) rfl) ?_
  simp only [Act.put, aS, aC, aZ]
  refine wpList_callW eN48 [.tmp 12] _ rfl rfl [(ptr gy)] rfl ?_
  refine (rroot_any S _ gy n r HR.out).mono ?_
  rintro e W_ ⟨rfl, rfl⟩
  refine ⟨_, rfl, ?_⟩
  simp only [Act.put, aS, aC, aZ]
  refine wl rfl (.bool false) _ (run_neZ (.tmp 11) (.tmp 13) rfl L.root r.rt rfl rfl false HD1.out) ?_
  simp only [Act.put, aS, aC, aZ]
  refine wl rfl (.bool false) _ (run_mvZ (.tmp 14) rfl (.bool false) rfl) ?_
  simp only [Act.put, aS, aC, aZ]
  refine wl (by kernel_rfl) (ptr gp) _ (run_mvZ (.tmp 0) rfl (ptr gp) rfl) ?_
  simp only [Act.put, aS, aC, aZ]
  refine wpList_callW eN29 [.tmp 16] _ (by kernel_rfl) rfl [(ptr gp)] rfl ?_
  refine HP.out.room.mono ?_
  rintro e W1 ⟨rfl, b_⟩
  refine ⟨_, rfl, ?_⟩
  rw [← HRG.out.1]
  have HB1 : Hid (Below W.heap.size W W1) := b_
  have HR1 : Hid (Ref S W1 gy n r) := HR.out.later b_
  clear b_
  simp only [Act.put, aS, aC, aZ]
  refine wl (by kernel_rfl) (ptr gy) _ (run_mvZ (.tmp 1) rfl (ptr gy) rfl) ?_
  simp only [Act.put, aS, aC, aZ]
  refine wpList_callW eN49 [.tmp 18] _ (by kernel_rfl) rfl [(ptr gy)] rfl ?_
  refine (rroom_any S _ gy n r HR1.out HN.out).mono ?_
  rintro e W_ ⟨rfl, rfl⟩
  refine ⟨_, rfl, ?_⟩
  rw [← HRG.out.2]
  simp only [Act.put, aS, aC, aZ]
  refine wl (by kernel_rfl) (.bool d2) _ (run_neZ (.tmp 17) (.tmp 19) rfl rg rr rfl rfl d2 HD3.out) ?_
  simp only [Act.put, aS, aC, aZ]
  refine wl rfl (.bool d2) _ (run_pickZ (.tmp 15) (.const (.bool true)) (.tmp 20) rfl false (.bool d2) rfl rfl) ?_
  simp only [Act.put, aS, aC, aZ]
  refine wpList_nil ?_
  clear HRG HD3
  by_cases hc2 : d2 = true
  · subst hc2
    go_wp2_with fail
    rw [HPQ.out]
    exact ⟨false, rfl, HB1.out, fun hrel => absurd HD2.out (by rw [hrel.room HN.out, decide_eq_true rfl]; decide), fun e => by cases e⟩
  obtain rfl : d2 = false := (by cases d2 with | true => exact absurd rfl hc2 | false => rfl)
  clear hc2
  go_upto_region 3 with fail
  go_wp2_with fail
  go_loopw [5] (fun vi W2 => ∃ i : Int, vi = .int .i64 i ∧ -1 ≤ i ∧ i ≤ 40 ∧ Hid (Below W.heap.size W W2 ∧ ∀ p : Nat, (p : Int) < i → p < n → Page1 U X r p)) (fun vi _ => (41 - intOf vi).toNat)
  case atStart => exact ⟨-1, rfl, by decide, by decide, HB1.out, fun p hp => absurd hp (by omega)⟩
  case round =>
    obtain ⟨i, rfl, hi1, hi40, HI⟩ := hrel
    obtain ⟨WK, hWK⟩ : ∃ W2 : World, W2 = wr := ⟨_, rfl⟩
    subst hWK
    have HRK : Hid (Ref S WK gy n r) := HR.out.later HI.out.1
    obtain ⟨vb, vu, vw, vc, bs0, cs0, h1, h2, h3, h4, h5, h6, h7, h8, h9, h10, h11, h12, h13, h14, h15, h16⟩ := id HRK.out
    have HRW : Hid (Row WK gy 84 [.int .i64 (n : Nat), vb, vu, vw, .int .i64 r.rt, vc]) := h1
    clear h1 h2 h3 h4 h5 h6 h7 h8 h9 h10 h11 h12 h13 h14 h15 h16
    by_cases hc3 : i ≤ (n : Nat)
    · by_cases hc4 : i < 40
      · go_upto_region 4 with fail
        refine wp_region_lit ?_
        refine wl rfl (.int .i64 i) _ (run_mvZ (.tmp 5) rfl (.int .i64 i) rfl) ?_
        simp only [Act.put, aS, aC, aZ]
        refine wl rfl (ptr gy) _ (run_mvZ (.tmp 1) rfl (ptr gy) rfl) ?_
        simp only [Act.put, aS, aC, aZ]
        refine wl rfl (ptr gy) _ (run_nil (.tmp 23) rfl ⟨gy, 0, none⟩ rfl) ?_
        simp only [Act.put, aS, aC, aZ]
        refine wl rfl (.pointer (some ⟨gy, 0 + 0, none⟩)) _ (run_fieldOp' f84_0 (.tmp 24) rfl gy (0) rfl) ?_
        simp only [Act.put, aS, aC, aZ]
        refine wl rfl (.int .i64 (n : Nat)) _ (run_load1 o3 (.tmp 25) rfl gy (0 + 0) rfl (.int .i64 (n : Nat)) (HRW.out.at 0 _ rfl)) ?_
        simp only [Act.put, aS, aC, aZ]
        refine wl rfl (.bool true) _ (run_leqZ (.tmp 22) (.tmp 26) rfl i (n : Nat) rfl rfl true (decide_eq_true (by omega))) ?_
        simp only [Act.put, aS, aC, aZ]
        refine wl rfl (.bool true) _ (run_mvZ (.tmp 27) rfl (.bool true) rfl) ?_
        simp only [Act.put, aS, aC, aZ]
        refine wl (by kernel_rfl) (.int .i64 i) _ (run_mvZ (.tmp 5) rfl (.int .i64 i) rfl) ?_
        simp only [Act.put, aS, aC, aZ]
        refine wl (by kernel_rfl) (.bool true) _ (run_lssZ (.tmp 29) (.const (.int .i64 40)) rfl i 40 rfl rfl true (decide_eq_true (by omega))) ?_
        simp only [Act.put, aS, aC, aZ]
        refine wl rfl (.bool true) _ (run_pickZ (.tmp 28) (.tmp 30) (.const (.bool false)) rfl true (.bool true) rfl rfl) ?_
        simp only [Act.put, aS, aC, aZ]
        refine wpList_nil ?_
        go_upto_region 6 with fail
        refine wp_region_lit ?_
        refine wl rfl (ptr gp) _ (run_mvZ (.tmp 0) rfl (ptr gp) rfl) ?_
        simp only [Act.put, aS, aC, aZ]
        refine wl rfl (.int .i64 i) _ (run_mvZ (.tmp 5) rfl (.int .i64 i) rfl) ?_
        simp only [Act.put, aS, aC, aZ]
        refine wpList_callW eN28 [.tmp 35, .tmp 36] _ rfl rfl [(ptr gp), (.int .i64 i)] rfl ?_
        refine ((HP.out.bel HI.out.1).ask HK.out i).mono ?_
        rintro e W2 ⟨v2, er, bs, rfl, b_, s_, a_⟩
        refine ⟨_, rfl, ?_⟩
        have H2 : Hid (Below WK.heap.size WK W2 ∧ SliceIn W2 v2 bs ∧ AskG U X i er bs) := ⟨b_, s_, a_⟩
        clear b_ s_ a_
        simp only [Act.put, aS, aC, aZ]
        refine wl rfl (.tuple #[v2, (.int .i64 er)]) _ (run_mvZ (.tmp 37) rfl (.tuple #[v2, (.int .i64 er)]) rfl) ?_
        simp only [Act.put, aS, aC, aZ]
        refine wl rfl v2 _ (run_extZ (.tmp 34) 0 rfl #[v2, (.int .i64 er)] rfl v2 rfl) ?_
        simp only [Act.put, aS, aC, aZ]
        refine wl rfl (.int .i64 er) _ (run_extZ (.tmp 34) 1 rfl #[v2, (.int .i64 er)] rfl (.int .i64 er) rfl) ?_
        simp only [Act.put, aS, aC, aZ]
        refine wl rfl v2 _ (run_asZ (.tmp 38) rfl v2 rfl) ?_
        simp only [Act.put, aS, aC, aZ]
        refine wl rfl (.int .i64 er) _ (run_asZ (.tmp 39) rfl (.int .i64 er) rfl) ?_
        simp only [Act.put, aS, aC, aZ]
        refine wpList_nil ?_
        go_upto_region 7 with fail
        refine wp_region_lit ?_
        refine wl rfl (ptr gy) _ (run_mvZ (.tmp 1) rfl (ptr gy) rfl) ?_
        simp only [Act.put, aS, aC, aZ]
        refine wl rfl (.int .i64 i) _ (run_mvZ (.tmp 5) rfl (.int .i64 i) rfl) ?_
        simp only [Act.put, aS, aC, aZ]
        refine wpList_callW eN50 [.tmp 41, .tmp 42] _ rfl rfl [(ptr gy), (.int .i64 i)] rfl ?_
        refine (rask_any S _ gy n r (HRK.out.later H2.out.1) HN.out i).mono ?_
        rintro e W3 ⟨v3, fr, cs, rfl, b_, s_, a_⟩
        refine ⟨_, rfl, ?_⟩
        have H3 : Hid (Below WK.heap.size WK W3 ∧ SliceIn W3 v2 bs ∧ SliceIn W3 v3 cs ∧ AskR r i fr cs) := ⟨H2.out.1.trans (b_.mono H2.out.1.size), SliceIn.later b_ H2.out.2.1, s_, a_⟩
        have HA : Hid (AskG U X i er bs) := H2.out.2.2
        clear b_ s_ a_ H2
        simp only [Act.put, aS, aC, aZ]
        refine wl rfl (.tuple #[v3, (.int .i64 fr)]) _ (run_mvZ (.tmp 43) rfl (.tuple #[v3, (.int .i64 fr)]) rfl) ?_
        simp only [Act.put, aS, aC, aZ]
        refine wl rfl v3 _ (run_extZ (.tmp 40) 0 rfl #[v3, (.int .i64 fr)] rfl v3 rfl) ?_
        simp only [Act.put, aS, aC, aZ]
        refine wl rfl (.int .i64 fr) _ (run_extZ (.tmp 40) 1 rfl #[v3, (.int .i64 fr)] rfl (.int .i64 fr) rfl) ?_
        simp only [Act.put, aS, aC, aZ]
        refine wl rfl v3 _ (run_asZ (.tmp 44) rfl v3 rfl) ?_
        simp only [Act.put, aS, aC, aZ]
        refine wl rfl (.int .i64 fr) _ (run_asZ (.tmp 45) rfl (.int .i64 fr) rfl) ?_
        simp only [Act.put, aS, aC, aZ]
        refine wpList_nil ?_
        obtain ⟨d3, hd3⟩ : ∃ x, (!decide (er = fr)) = x := ⟨_, rfl⟩
        have HE : Hid ((!decide (er = fr)) = d3) := hd3
        clear hd3
        by_cases hc5 : d3 = true
        · have HT : Hid (d3 = true) := hc5
          clear hc5
          go_upto_region 8 with fail
          refine wp_region_lit ?_
          refine wl rfl (.int .i64 er) _ (run_mvZ (.tmp 7) rfl (.int .i64 er) rfl) ?_
          simp only [Act.put, aS, aC, aZ]
          refine wl rfl (.int .i64 fr) _ (run_mvZ (.tmp 9) rfl (.int .i64 fr) rfl) ?_
          simp only [Act.put, aS, aC, aZ]
          refine wl rfl (.bool d3) _ (run_neZ (.tmp 46) (.tmp 47) rfl er fr rfl rfl d3 HE.out) ?_
          simp only [Act.put, aS, aC, aZ]
          refine wl rfl (.bool d3) _ (run_mvZ (.tmp 48) rfl (.bool d3) rfl) ?_
          simp only [Act.put, aS, aC, aZ]
          refine wpList_skip (by rw [HT.out]; kernel_rfl) ?_
          simp only [Act.put, aS, aC, aZ]
          refine wpList_skip (by rw [HT.out]; kernel_rfl) ?_
          simp only [Act.put, aS, aC, aZ]
          refine wpList_skip (by rw [HT.out]; kernel_rfl) ?_
          simp only [Act.put, aS, aC, aZ]
          refine wpList_skip (by rw [HT.out]; kernel_rfl) ?_
          simp only [Act.put, aS, aC, aZ]
          refine wpList_skip (by rw [HT.out]; kernel_rfl) ?_
          simp only [Act.put, aS, aC, aZ]
          refine wl rfl (.bool d3) _ (run_pickZ (.tmp 49) (.const (.bool true)) (.tmp 54) rfl d3 (.bool d3) rfl (by rw [HT.out]; rfl)) ?_
          simp only [Act.put, aS, aC, aZ]
          refine wpList_nil ?_
          obtain rfl : d3 = true := HT.out
          go_wp2_with fail
          rw [HPQ.out]
          exact ⟨false, rfl, HI.out.1.trans (H3.out.1.mono HI.out.1.size), fun hrel => absurd HE.out (by rw [(hrel.asks HR.out.len HN.out HP.out.o.out HA.out H3.out.2.2.2).1, decide_eq_true rfl]; decide), fun e => by cases e⟩
        obtain rfl : d3 = false := (by cases d3 with | true => exact absurd rfl hc5 | false => rfl)
        clear hc5
        have HER : Hid (er = fr) := (by
          have h := HE.out
          by_cases e : er = fr
          · exact e
          · rw [decide_eq_false e] at h; cases h)
        obtain ⟨d4, hd4⟩ : ∃ x, decide (bs = cs) = x := ⟨_, rfl⟩
        obtain ⟨nd4, hnd⟩ : ∃ x, x = !d4 := ⟨_, rfl⟩
        have H4 : Hid (decide (bs = cs) = d4 ∧ nd4 = !d4) := ⟨hd4, hnd⟩
        clear hd4 hnd
        go_upto_region 8 with fail
        refine wp_region_lit ?_
        refine wl rfl (.int .i64 er) _ (run_mvZ (.tmp 7) rfl (.int .i64 er) rfl) ?_
        simp only [Act.put, aS, aC, aZ]
        refine wl rfl (.int .i64 fr) _ (run_mvZ (.tmp 9) rfl (.int .i64 fr) rfl) ?_
        simp only [Act.put, aS, aC, aZ]
        refine wl rfl (.bool false) _ (run_neZ (.tmp 46) (.tmp 47) rfl er fr rfl rfl false HE.out) ?_
        simp only [Act.put, aS, aC, aZ]
        refine wl rfl (.bool false) _ (run_mvZ (.tmp 48) rfl (.bool false) rfl) ?_
        simp only [Act.put, aS, aC, aZ]
        refine wl (by kernel_rfl) v2 _ (run_mvZ (.tmp 6) rfl v2 rfl) ?_
        simp only [Act.put, aS, aC, aZ]
        refine wl (by kernel_rfl) (str bs) _ (run_strB (.tmp 50) rfl v2 bs rfl H3.out.2.1) ?_
        simp only [Act.put, aS, aC, aZ]
        refine wl (by kernel_rfl) v3 _ (run_mvZ (.tmp 8) rfl v3 rfl) ?_
        simp only [Act.put, aS, aC, aZ]
        refine wl (by kernel_rfl) (str cs) _ (run_strB (.tmp 52) rfl v3 cs rfl H3.out.2.2.1) ?_
        simp only [Act.put, aS, aC, aZ]
        refine wl (by kernel_rfl) (.bool nd4) _ ((by rw [H4.out.2]; exact rx_sne (.tmp 51) (.tmp 53) rfl bs cs rfl rfl (SliceIn.lt256 H3.out.2.1) (SliceIn.lt256 H3.out.2.2.1) d4 H4.out.1)) ?_
        simp only [Act.put, aS, aC, aZ]
        refine wl rfl (.bool nd4) _ (run_pickZ (.tmp 49) (.const (.bool true)) (.tmp 54) rfl false (.bool nd4) rfl rfl) ?_
        simp only [Act.put, aS, aC, aZ]
        refine wpList_nil ?_
        by_cases hc6 : nd4 = true
        · subst hc6
          go_wp2_with fail
          rw [HPQ.out]
          exact ⟨false, rfl, HI.out.1.trans (H3.out.1.mono HI.out.1.size), fun hrel => absurd H4.out.2 (by rw [← H4.out.1, decide_eq_true (hrel.asks HR.out.len HN.out HP.out.o.out HA.out H3.out.2.2.2).2]; decide), fun e => by cases e⟩
        obtain rfl : nd4 = false := (by cases nd4 with | true => exact absurd rfl hc6 | false => rfl)
        clear hc6
        have HNX : Hid (Below W.heap.size W W3 ∧ ∀ p : Nat, (p : Int) < i + 1 → p < n → Page1 U X r p) := (by
          refine ⟨HI.out.1.trans (H3.out.1.mono HI.out.1.size), fun p hp hpn => ?_⟩
          by_cases e : (p : Int) < i
          · exact HI.out.2 p e hpn
          · have ei : i = (p : Nat) := (by omega)
            have hb : bs = cs := (by
              have h := H4.out
              by_cases e2 : bs = cs
              · exact e2
              · rw [decide_eq_false e2] at h
                rw [← h.1] at h
                cases h.2)
            have h1 := HA.out
            have h2 := H3.out.2.2.2
            rw [← HER.out, ← hb, ei] at h2
            rw [ei] at h1
            exact ask_page HR.out.len HN.out HP.out.o.c.img hpn h1 h2)
        have hn384 := HN.out
        clear H3 H4 HA HE HER
        go_wp2_with fail
        refine ⟨⟨i + 1, by go_num, by omega, by omega, HNX.out⟩, ?_⟩
        simp [intOf]; omega
      · go_upto_region 4 with fail
        refine wp_region_lit ?_
        refine wl rfl (.int .i64 i) _ (run_mvZ (.tmp 5) rfl (.int .i64 i) rfl) ?_
        simp only [Act.put, aS, aC, aZ]
        refine wl rfl (ptr gy) _ (run_mvZ (.tmp 1) rfl (ptr gy) rfl) ?_
        simp only [Act.put, aS, aC, aZ]
        refine wl rfl (ptr gy) _ (run_nil (.tmp 23) rfl ⟨gy, 0, none⟩ rfl) ?_
        simp only [Act.put, aS, aC, aZ]
        refine wl rfl (.pointer (some ⟨gy, 0 + 0, none⟩)) _ (run_fieldOp' f84_0 (.tmp 24) rfl gy (0) rfl) ?_
        simp only [Act.put, aS, aC, aZ]
        refine wl rfl (.int .i64 (n : Nat)) _ (run_load1 o3 (.tmp 25) rfl gy (0 + 0) rfl (.int .i64 (n : Nat)) (HRW.out.at 0 _ rfl)) ?_
        simp only [Act.put, aS, aC, aZ]
        refine wl rfl (.bool true) _ (run_leqZ (.tmp 22) (.tmp 26) rfl i (n : Nat) rfl rfl true (decide_eq_true (by omega))) ?_
        simp only [Act.put, aS, aC, aZ]
        refine wl rfl (.bool true) _ (run_mvZ (.tmp 27) rfl (.bool true) rfl) ?_
        simp only [Act.put, aS, aC, aZ]
        refine wl (by kernel_rfl) (.int .i64 i) _ (run_mvZ (.tmp 5) rfl (.int .i64 i) rfl) ?_
        simp only [Act.put, aS, aC, aZ]
        refine wl (by kernel_rfl) (.bool false) _ (run_lssZ (.tmp 29) (.const (.int .i64 40)) rfl i 40 rfl rfl false (decide_eq_false (by omega))) ?_
        simp only [Act.put, aS, aC, aZ]
        refine wl rfl (.bool false) _ (run_pickZ (.tmp 28) (.tmp 30) (.const (.bool false)) rfl true (.bool false) rfl rfl) ?_
        simp only [Act.put, aS, aC, aZ]
        refine wpList_nil ?_
        go_upto_region 10 with fail
        go_wp2_with fail
        rw [HPQ.out]
        exact ⟨true, rfl, HI.out.1, fun _ => rfl, fun _ hn39 => ⟨HRT.out, fun p hp => HI.out.2 p (by omega) hp⟩⟩
    · go_upto_region 4 with fail
      refine wp_region_lit ?_
      refine wl rfl (.int .i64 i) _ (run_mvZ (.tmp 5) rfl (.int .i64 i) rfl) ?_
      simp only [Act.put, aS, aC, aZ]
      refine wl rfl (ptr gy) _ (run_mvZ (.tmp 1) rfl (ptr gy) rfl) ?_
      simp only [Act.put, aS, aC, aZ]
      refine wl rfl (ptr gy) _ (run_nil (.tmp 23) rfl ⟨gy, 0, none⟩ rfl) ?_
      simp only [Act.put, aS, aC, aZ]
      refine wl rfl (.pointer (some ⟨gy, 0 + 0, none⟩)) _ (run_fieldOp' f84_0 (.tmp 24) rfl gy (0) rfl) ?_
      simp only [Act.put, aS, aC, aZ]
      refine wl rfl (.int .i64 (n : Nat)) _ (run_load1 o3 (.tmp 25) rfl gy (0 + 0) rfl (.int .i64 (n : Nat)) (HRW.out.at 0 _ rfl)) ?_
      simp only [Act.put, aS, aC, aZ]
      refine wl rfl (.bool false) _ (run_leqZ (.tmp 22) (.tmp 26) rfl i (n : Nat) rfl rfl false (decide_eq_false (by omega))) ?_
      simp only [Act.put, aS, aC, aZ]
      refine wl rfl (.bool false) _ (run_mvZ (.tmp 27) rfl (.bool false) rfl) ?_
      simp only [Act.put, aS, aC, aZ]
      refine wpList_skip (by kernel_rfl) ?_
      simp only [Act.put, aS, aC, aZ]
      refine wpList_skip (by kernel_rfl) ?_
      simp only [Act.put, aS, aC, aZ]
      refine wl rfl (.bool false) _ (run_pickZ (.tmp 28) (.tmp 30) (.const (.bool false)) rfl false (.bool false) rfl rfl) ?_
      simp only [Act.put, aS, aC, aZ]
      refine wpList_nil ?_
      go_upto_region 10 with fail
      go_wp2_with fail
      rw [HPQ.out]
      exact ⟨true, rfl, HI.out.1, fun _ => rfl, fun _ hn39 => ⟨HRT.out, fun p hp => HI.out.2 p (by omega) hp⟩⟩
/-- which of the ten -/
def kindOf (n : Int) : Int := (if n < 0 then -(n + 1) else n) % 10
theorem kindOf_lt (n : Int) : 0 ≤ kindOf n ∧ kindOf n < 10 := by unfold kindOf; omega
theorem run_rem10 (w : World) (k : Int) (h : 0 ≤ k) : (binOp .rem 3 (.int .i64 k) (.int .i64 10)).run Tryd.prog w = .ok (.int .i64 (k % 10)) w := by
  have e := Int.tmod_eq_emod_of_nonneg (b := 10) h
  simp [binOp, Op.intDiv]
  exact e
theorem wl_rem10 {w : World} {ops : Array Oper} {rest : List Oper} {o : Oper} {a : Act} {Q : Exit → Act → World → Prop} (x : Operand) (hgd : Region.wanted o (yielded ops a.tmps) = true) (ho : o.op = .binOp .rem 3 x (.const (.int .i64 10)) 3) (k : Int) (h0 : 0 ≤ k) (hx : a.eval x = .int .i64 k) (h : wpList Tryd.prog ops Q rest (a.put o.dst (.int .i64 (k % 10))) w) : wpList Tryd.prog ops Q (o :: rest) a w := wl hgd _ w (by
  have hy : a.eval (.const (.int .i64 10)) = .int .i64 10 := rfl
  have e : (eqGuard .rem 3 x (.const (.int .i64 10)) (.int .i64 k) (.int .i64 10)).run Tryd.prog w = .ok () w := rfl
  simp only [execOp, ho, hx, hy, e, Sem.run_bind, Sem.run_pure, Result.andThen_ok, run_rem10 w k h0]) h
set_option maxRecDepth 100000 in
theorem kind_any (w : World) (n : Int) (h0 : -9223372036854775808 ≤ n) (h1 : n ≤ 9223372036854775807) : Calls Tryd.prog 14 #[.int .i64 n] w fun e w' => e = .returned (.int .i64 (kindOf n)) ∧ w = w' := by
  by_cases hn : n < 0
  · have hn' : decide (n < 0) = true := decide_eq_true hn
    have e : kindOf n = (-(n + 1)) % 10 := by unfold kindOf; rw [if_pos hn]
    rw [e]
    go_enter Tryd.func14, Tryd.ntmps14
    go_wp2_with (refine wl_rem10 (.tmp 8) rfl rfl (-(n + 1)) (by omega) rfl ?_)
    go_ret
    exact ⟨rfl, rfl⟩
  · have hn' : decide (n < 0) = false := decide_eq_false hn
    have e : kindOf n = n % 10 := by unfold kindOf; rw [if_neg hn]
    rw [e]
    go_enter Tryd.func14, Tryd.ntmps14
    go_wp2_with (refine wl_rem10 (.tmp 8) rfl rfl n (by omega) rfl ?_)
    go_ret
    exact ⟨rfl, rfl⟩

end Go.Proofs.YtkpnflgnhhfjoaaDoor

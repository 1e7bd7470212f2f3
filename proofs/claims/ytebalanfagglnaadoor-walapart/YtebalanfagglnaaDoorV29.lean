/- Layer 8: a row of the log read. Layer 8: transactions, one behind the other. -/
import Derived.Test.YtebalanfagglnaaDoorV28
namespace Go.Proofs.YtebalanfagglnaaDoor
open Go.RowKit Go.Maps

theorem eN65 : EntersF 51 := Go.Proofs.enters_of Tryd.func51 (by kernel_rfl) rfl
section
variable {w : World} {ops : Array Oper} {rest : List Oper} {o : Oper} {a : Act} {Q : Exit → Act → World → Prop}
theorem run_callV {f : Nat} (ef : EntersF f) (x : Tmp) (cap : List Value) (xs : List Operand) (ts : Array TypeId) (ho : o.op = .call { callee := .value (.tmp x), args := xs.toArray, argTypes := ts }) (hx : a.eval (.tmp x) = .func (.func f) #[] cap.toArray) (vs : List Value) (hv : xs.map a.eval = vs) : (execOp a.eval o).run Tryd.prog w = .ok (.enter f (vs ++ cap).toArray) w := by
  subst hv
  have hen := ef (xs.map a.eval ++ cap).toArray w
  simp [execOp, ho, resolve, hx, Deferred.ofValue, invoke, hen]
theorem wpList_callV {f : Nat} (ef : EntersF f) (x : Tmp) (cap : List Value) (xs : List Operand) (ts : Array TypeId) (hgd : o.guard = none) (ho : o.op = .call { callee := .value (.tmp x), args := xs.toArray, argTypes := ts }) (hx : a.eval (.tmp x) = .func (.func f) #[] cap.toArray) (vs : List Value) (hv : xs.map a.eval = vs)
    (h : Calls Tryd.prog f (vs ++ cap).toArray w fun e w' => ∃ v, e = .returned v ∧ wpList Tryd.prog ops Q rest (a.put o.dst v) w') : wpList Tryd.prog ops Q (o :: rest) a w :=
  wpList_plain hgd fun K hK => by
    unfold Oper.wp
    rw [run_callV ef x cap xs ts ho hx vs hv]
    refine h.mono fun e w' he => ?_
    obtain ⟨v, rfl, hw⟩ := he
    exact hK _ _ hw
end
theorem own_ne {w : World} {base g t : Nat} {v : Value} {cs : List Nat} {rs : List Value} (h : BOwn w base v cs) (hr : Row w g t rs) (ht : t ≠ 5) : v.ownBlock ≠ some g := by
  intro e
  rcases h.2 with ⟨rfl, _⟩ | ⟨b, cap, cur, rfl, h0, hg, _⟩
  · cases e
  · cases e
    rw [hr] at hg
    cases hg
    exact ht rfl
theorem Row.grown {w w' : World} {o : Option Nat} (h : w.grownBy w' o) {g t : Nat} {rs : List Value} (hr : Row w g t rs) (hne : o ≠ some g) : Row w' g t rs := by
  unfold Row
  rw [h.block g hr.lt (fun e => hne e.symm)]
  exact hr
def rdV (gp gd gh gf : Nat) : Value := .func (.func 51) #[] #[ptr gp, ptr gd, ptr gh, ptr gf]
/-- a row read: A tells whether there is a part, X the sector, E the fault -/
def rowGo (A : Nat → Bool) (X : Nat → List Nat) (E : Int → Nat → Int) (a : Nat) : Nat → Nat → List Nat → Int → List Nat × Nat × Int
  | 0, _, _, f => ([], 0, f)
  | n + 1, j, acc, f =>
    if A (a + j) && decide (pS (X (a + j)) = pS (X a) ∧ pL (X (a + j)) = pL (X a) ∧ pI (X (a + j)) = j) then
      if j + 1 = secsOf (pL (X a)) then ((acc ++ pP (X (a + j))).take (pL (X a)), j + 1, f)
      else rowGo A X E a n (j + 1) (acc ++ pP (X (a + j))) (E f (a + (j + 1)))
    else ([], 0, f)
def rowRd (A : Nat → Bool) (X : Nat → List Nat) (E : Int → Nat → Int) (a : Nat) (f : Int) : List Nat × Nat × Int := rowGo A X E a (secsOf (pL (X a))) 0 [] (E f a)
theorem secsOf_pos (n : Nat) : 0 < secsOf n := by unfold secsOf; omega
theorem secsOf_fits (n : Nat) : n ≤ 44 * secsOf n := by unfold secsOf; omega
theorem secsOf_le (n : Nat) (h : n < 65536) : secsOf n ≤ 1490 := by unfold secsOf; omega
structure RowSt (RT : List Nat × Nat × Int) (gf B g8 : Nat) (W : World) (A : Nat → Bool) (X : Nat → List Nat) (E : Int → Nat → Int) (a s0 k0 l0 : Nat) (pv0 : Value) (j gx : Nat) (u6 : Value) (acc : List Nat) (f' : Int) (s k l : Nat) (pv : Value) (wr : World) : Prop where
  told : RT = rowGo A X E a (secsOf (pL (X a)) - j) j acc f'
  lt : j < secsOf (pL (X a))
  only : OnlyG gf B W wr
  fl : Row wr gf 41 [.int .i64 f']
  fst : Row wr g8 104 (partCells s0 k0 l0 pv0)
  cur : Row wr gx 104 (partCells s k l pv)
  gxB : B ≤ gx
  g8B : B ≤ g8
  sl : ∃ p l c, pv = .slice p l c
  ok : A (a + j) = true → s = pS (X (a + j)) ∧ k = pI (X (a + j)) ∧ l = pL (X (a + j)) ∧ SliceIn wr pv (pP (X (a + j))) ∧ (pP (X (a + j))).length = 44
  fok : 0 < j → A a = true
  own : BOwn wr B u6 acc
  len : acc.length = 44 * j
  small : ∀ c ∈ acc, c < 256
theorem rowGo_no (A : Nat → Bool) (X : Nat → List Nat) (E : Int → Nat → Int) (a n j : Nat) (acc : List Nat) (f : Int) (h : (A (a + j) && decide (pS (X (a + j)) = pS (X a) ∧ pL (X (a + j)) = pL (X a) ∧ pI (X (a + j)) = j)) = false) : rowGo A X E a n j acc f = ([], 0, f) := by
  cases n with
  | zero => rfl
  | succ n =>
    unfold rowGo
    rw [h]
    rfl
theorem rowGo_end (A : Nat → Bool) (X : Nat → List Nat) (E : Int → Nat → Int) (a n j : Nat) (acc : List Nat) (f : Int) (hn : 0 < n) (h : (A (a + j) && decide (pS (X (a + j)) = pS (X a) ∧ pL (X (a + j)) = pL (X a) ∧ pI (X (a + j)) = j)) = true) (he : j + 1 = secsOf (pL (X a))) : rowGo A X E a n j acc f = ((acc ++ pP (X (a + j))).take (pL (X a)), j + 1, f) := by
  cases n with
  | zero => omega
  | succ n =>
    unfold rowGo
    rw [h, if_pos rfl, if_pos he]
theorem rowGo_on (A : Nat → Bool) (X : Nat → List Nat) (E : Int → Nat → Int) (a n j : Nat) (acc : List Nat) (f : Int) (hn : 0 < n) (h : (A (a + j) && decide (pS (X (a + j)) = pS (X a) ∧ pL (X (a + j)) = pL (X a) ∧ pI (X (a + j)) = j)) = true) (he : ¬ j + 1 = secsOf (pL (X a))) : rowGo A X E a n j acc f = rowGo A X E a (n - 1) (j + 1) (acc ++ pP (X (a + j))) (E f (a + (j + 1))) := by
  cases n with
  | zero => omega
  | succ n =>
    conv => lhs; unfold rowGo
    rw [h, if_pos rfl, if_neg he]
    rfl
theorem wl_addN {w : World} {ops : Array Oper} {rest : List Oper} {o : Oper} {a : Act} {Q : Exit → Act → World → Prop} (x y : Operand) (hgd : Region.wanted o (yielded ops a.tmps) = true) (ho : o.op = .binOp .add 3 x y 3) (m n : Nat) (hm : m ≤ 1000000000) (hn : n ≤ 1000000000) (hx : a.eval x = .int .i64 (m : Nat)) (hy : a.eval y = .int .i64 (n : Nat)) (h : wpList Tryd.prog ops Q rest (a.put o.dst (.int .i64 ((m + n : Nat) : Int))) w) : wpList Tryd.prog ops Q (o :: rest) a w := by
  refine wl hgd _ w ?_ h
  have e : (eqGuard .add 3 x y (.int .i64 (m : Nat)) (.int .i64 (n : Nat))).run Tryd.prog w = .ok () w := rfl
  have hwr : IntKind.i64.wrap ((m : Int) + (n : Int)) = ((m + n : Nat) : Int) := by
    simp [IntKind.wrap, IntKind.signed, IntKind.bits]
    omega
  have hr : (binOp .add 3 (.int .i64 (m : Nat)) (.int .i64 (n : Nat))).run Tryd.prog w = .ok (.int .i64 ((m + n : Nat) : Int)) w := by simp [binOp, Op.intArith, hwr]
  exact run_binOp' x y ho (.int .i64 (m : Nat)) (.int .i64 (n : Nat)) _ hx hy e hr
theorem RowSt.below {RT : List Nat × Nat × Int} {gf B g8 : Nat} {W : World} {A : Nat → Bool} {X : Nat → List Nat} {E : Int → Nat → Int} {a s0 k0 l0 : Nat} {pv0 : Value} {j gx : Nat} {u6 : Value} {acc : List Nat} {f' : Int} {s k l : Nat} {pv : Value} {wr w2 : World} (h : RowSt RT gf B g8 W A X E a s0 k0 l0 pv0 j gx u6 acc f' s k l pv wr) (b : Below wr.heap.size wr w2) : RowSt RT gf B g8 W A X E a s0 k0 l0 pv0 j gx u6 acc f' s k l pv w2 :=
  ⟨h.told, h.lt, h.only.trans (OnlyG.of (b.mono (by have := h.g8B; have := h.fst.lt; omega))), h.fl.later b h.fl.lt, h.fst.later b h.fst.lt, h.cur.later b h.cur.lt, h.gxB, h.g8B, h.sl, fun e => ⟨(h.ok e).1, (h.ok e).2.1, (h.ok e).2.2.1, (h.ok e).2.2.2.1.later b, (h.ok e).2.2.2.2⟩, h.fok, h.own.later b, h.len, h.small⟩
/-- what the reader tells, for any fault so far -/
def Reads (W : World) (B gp gd gh gf : Nat) (A : Nat → Bool) (X : Nat → List Nat) (E : Int → Nat → Int) : Prop :=
  ∀ W1 f1 a1, a1 ≤ 1000000 → OnlyG gf B W W1 → Row W1 gf 41 [.int .i64 f1] → Calls Tryd.prog 51 #[.int .i64 (a1 : Nat), ptr gp, ptr gd, ptr gh, ptr gf] W1 fun e w' => ∃ s k l pv, e = .returned (.tuple #[.agg (partCells s k l pv).toArray, .bool (A a1)]) ∧ (∃ p l c, pv = .slice p l c) ∧ (A a1 = true → s = pS (X a1) ∧ k = pI (X a1) ∧ l = pL (X a1) ∧ SliceIn w' pv (pP (X a1)) ∧ (pP (X a1)).length = 44 ∧ ∀ b', pv.ownBlock = some b' → W1.heap.size < b') ∧ Row w' gf 41 [.int .i64 (E f1 a1)] ∧ OnlyG gf W1.heap.size W1 w'
theorem Reads.later {W W' : World} {B B' gp gd gh gf : Nat} {A : Nat → Bool} {X : Nat → List Nat} {E : Int → Nat → Int} (h : Reads W B gp gd gh gf A X E) (ho : OnlyG gf B W W') (hB : B ≤ B') : Reads W' B' gp gd gh gf A X E :=
  fun W1 f1 a1 ha h1 hr => h W1 f1 a1 ha (ho.trans (h1.mono hB)) hr
set_option maxHeartbeats 4000000 in
set_option maxRecDepth 100000 in
theorem readRow_any {W : World} {gp gd gh gf : Nat} {A : Nat → Bool} {X : Nat → List Nat} {E : Int → Nat → Int} (hR : Reads W W.heap.size gp gd gh gf A X E) (hX : ∀ a, pL (X a) < 65536) (f : Int) (hgf : Row W gf 41 [.int .i64 f]) (a : Nat) (ha : a ≤ 100000) :
    Calls Tryd.prog 74 #[rdV gp gd gh gf, .int .i64 (a : Nat)] W fun e w' => ∃ bv, e = .returned (.tuple #[bv, .int .i64 ((rowRd A X E a f).2.1 : Nat)]) ∧ ((rowRd A X E a f).2.1 ≠ 0 → SliceIn w' bv (rowRd A X E a f).1) ∧ Row w' gf 41 [.int .i64 (rowRd A X E a f).2.2] ∧ OnlyG gf W.heap.size W w' := by
  obtain ⟨B, hB⟩ : ∃ B, B = W.heap.size := ⟨_, rfl⟩
  obtain ⟨RT, hRT⟩ : ∃ RT, RT = rowRd A X E a f := ⟨_, rfl⟩
  have HRD : Hid (Reads W B gp gd gh gf A X E) := by rw [hB]; exact hR
  have HRT : Hid (RT = rowRd A X E a f) := hRT
  have HGF : Hid (Row W gf 41 [.int .i64 f] ∧ gf < B ∧ B = W.heap.size) := ⟨hgf, by rw [hB]; exact hgf.lt, hB⟩
  have HX : Hid (∀ a, pL (X a) < 65536) := hX
  obtain ⟨PO, hPO⟩ : ∃ PO : Value → Int → World → Prop, PO = fun (bv : Value) (z : Int) (w' : World) => z = ((RT.2.1 : Nat) : Int) ∧ (RT.2.1 ≠ 0 → SliceIn w' bv RT.1) ∧ Row w' gf 41 [.int .i64 RT.2.2] ∧ OnlyG gf B W w' := ⟨_, rfl⟩
  have HPO : Hid (PO = fun (bv : Value) (z : Int) (w' : World) => z = ((RT.2.1 : Nat) : Int) ∧ (RT.2.1 ≠ 0 → SliceIn w' bv RT.1) ∧ Row w' gf 41 [.int .i64 RT.2.2] ∧ OnlyG gf B W w') := hPO
  rw [← hB, ← hRT]
  refine Calls.mono (R := fun e w' => ∃ bv z, e = .returned (.tuple #[bv, .int .i64 z]) ∧ PO bv z w') ?_ (fun e w' ⟨bv, z, h1, h2⟩ => by rw [hPO] at h2; obtain ⟨rfl, h2⟩ := h2; exact ⟨bv, h1, h2⟩)
  clear hR hX hgf hPO hRT hB
  obtain ⟨ok0, hok0⟩ : ∃ ok0, ok0 = A a := ⟨_, rfl⟩
  have HOK : Hid (ok0 = A a) := hok0
  clear hok0
  go_enter Tryd.func74, Tryd.ntmps74
  go_upto_region 3 with fail
  refine wp_region_lit ?_
  refine wl_mv (.tmp 0) rfl rfl (rdV gp gd gh gf) rfl ?_
  simp only [Act.put, aS, aC, aZ]
  refine wl_mv (.tmp 1) rfl rfl (.int .i64 (a : Nat)) rfl ?_
  simp only [Act.put, aS, aC, aZ]
  refine wpList_callV eN65 12 [ptr gp, ptr gd, ptr gh, ptr gf] [.tmp 13] _ rfl rfl rfl [.int .i64 (a : Nat)] rfl ?_
  refine (HRD.out W f a (by omega) (OnlyG.of (Below.refl _ _)) HGF.out.1).mono ?_
  rw [← HOK.out]
  rintro e w1 ⟨s0, k0, l0, pv0, rfl, hsl, hpp, hf1, o1⟩
  refine ⟨_, rfl, ?_⟩
  rw [← HGF.out.2.2] at o1 hpp
  have R1 : Hid ((∃ p l c, pv0 = .slice p l c) ∧ (ok0 = true → s0 = pS (X a) ∧ k0 = pI (X a) ∧ l0 = pL (X a) ∧ SliceIn w1 pv0 (pP (X a)) ∧ (pP (X a)).length = 44) ∧ Row w1 gf 41 [.int .i64 (E f a)] ∧ OnlyG gf B W w1 ∧ B ≤ w1.heap.size) := ⟨hsl, fun h => ⟨(hpp h).1, (hpp h).2.1, (hpp h).2.2.1, (hpp h).2.2.2.1, (hpp h).2.2.2.2.1⟩, hf1, o1, by have := o1.size; have := HGF.out.2.2; omega⟩
  clear hsl hpp hf1 o1
  simp only [Act.put, aS, aC, aZ]
  refine wl_mv (.tmp 14) rfl rfl (.tuple #[.agg (partCells s0 k0 l0 pv0).toArray, .bool ok0]) rfl ?_
  simp only [Act.put, aS, aC, aZ]
  refine wl rfl (.agg (partCells s0 k0 l0 pv0).toArray) w1 (by simp [execOp, Act.eval, Instr.extract]) ?_
  simp only [Act.put, aS, aC, aZ]
  refine wl rfl (.bool ok0) w1 (by simp [execOp, Act.eval, Instr.extract]) ?_
  simp only [Act.put, aS, aC, aZ]
  refine wpList_alloc_store agg126 _ zero126 rfl rfl rfl rfl rfl (.tmp 15) rfl (partCells s0 k0 l0 pv0) rfl rfl (partCells_one s0 k0 l0 pv0 R1.out.1) (fun _ => rfl) (fun _ => rfl) ?_
  intro w2 r2 s2 b2
  obtain ⟨g8, hg8⟩ : ∃ g8, g8 = w1.heap.size := ⟨_, rfl⟩
  have HG8 : Hid (B ≤ g8 ∧ (ok0 = true → s0 = pS (X a) ∧ k0 = pI (X a) ∧ l0 = pL (X a)) ∧ gf < B) := ⟨by rw [hg8]; exact R1.out.2.2.2.2, fun h => ⟨(R1.out.2.1 h).1, (R1.out.2.1 h).2.1, (R1.out.2.1 h).2.2.1⟩, HGF.out.2.1⟩
  have R2 : Hid ((∃ p l c, pv0 = .slice p l c) ∧ (ok0 = true → s0 = pS (X a) ∧ k0 = pI (X a) ∧ l0 = pL (X a) ∧ SliceIn w2 pv0 (pP (X a)) ∧ (pP (X a)).length = 44) ∧ Row w2 gf 41 [.int .i64 (E f a)] ∧ OnlyG gf B W w2 ∧ Row w2 g8 104 (partCells s0 k0 l0 pv0) ∧ w2.heap.size = g8 + 1) := ⟨R1.out.1, fun h => ⟨(R1.out.2.1 h).1, (R1.out.2.1 h).2.1, (R1.out.2.1 h).2.2.1, (R1.out.2.1 h).2.2.2.1.later b2, (R1.out.2.1 h).2.2.2.2⟩, R1.out.2.2.1.later b2 R1.out.2.2.1.lt, R1.out.2.2.2.1.trans (OnlyG.of (b2.mono R1.out.2.2.2.2)), by rw [hg8]; exact r2, by rw [hg8]; exact s2⟩
  rw [← hg8]
  clear r2 s2 b2 hg8 R1
  simp only [Act.put, aS, aC, aZ]
  refine wl_as (.tmp 16) rfl rfl (.bool ok0) rfl ?_
  simp only [Act.put, aS, aC, aZ]
  refine wpList_nil ?_
  go_upto_region 4 with fail
  refine wp_region_lit ?_
  refine wl_ldA agg126 (.tmp 8) rfl rfl g8 0 rfl (partCells s0 k0 l0 pv0) rfl (fun j v hj => by rw [Nat.zero_add]; exact R2.out.2.2.2.2.1.at j v hj) ?_
  simp only [Act.put, aS, aC, aZ]
  refine wpList_alloc_store agg126 _ zero126 rfl rfl rfl rfl rfl (.tmp 17) rfl (partCells s0 k0 l0 pv0) rfl rfl (partCells_one s0 k0 l0 pv0 R2.out.1) (fun _ => rfl) (fun _ => rfl) ?_
  intro w3 r3 s3 b3
  obtain ⟨gx, hgx⟩ : ∃ gx, gx = w2.heap.size := ⟨_, rfl⟩
  rw [← hgx] at r3 s3 ⊢
  have H0 : Hid (RowSt RT gf B g8 W A X E a s0 k0 l0 pv0 0 gx (.slice none 0 0) [] (E f a) s0 k0 l0 pv0 w3) := ⟨by rw [HRT.out]; rfl, secsOf_pos _, R2.out.2.2.2.1.trans (OnlyG.of (b3.mono (by have := R2.out.2.2.2.2.2; have := HG8.out.1; omega))), R2.out.2.2.1.later b3 R2.out.2.2.1.lt, R2.out.2.2.2.2.1.later b3 R2.out.2.2.2.2.1.lt, r3, by have := R2.out.2.2.2.2.2; have := HG8.out.1; omega, HG8.out.1, R2.out.1, fun h => by rw [Nat.add_zero] at h ⊢; have h2 := R2.out.2.1 (by rw [HOK.out]; exact h); exact ⟨h2.1, h2.2.1, h2.2.2.1, h2.2.2.2.1.later b3, h2.2.2.2.2⟩, fun h => absurd h (Nat.lt_irrefl _), World.ownsRow_nil _ _ _ _, rfl, fun c hc => by cases hc⟩
  clear r3 s3 b3 hgx R2
  simp only [Act.put, aS, aC, aZ]
  refine wpList_nil ?_
  go_wp2_with fail
  go_loopw [6, 7, 9, 10] (fun vb vn vo vx W' => ∃ (j gx : Nat) (acc : List Nat) (f' : Int) (s k l : Nat) (pv : Value) (ok : Bool), vn = .int .i64 (j : Nat) ∧ vo = .bool ok ∧ vx = ptr gx ∧ ok = A (a + j) ∧ RowSt RT gf B g8 W A X E a s0 k0 l0 pv0 j gx vb acc f' s k l pv W') (fun _ vn _ _ _ => 2000 - (intOf vn).toNat)
  case atStart => exact ⟨0, gx, [], _, s0, k0, l0, pv0, ok0, rfl, rfl, rfl, HOK.out, H0.out⟩
  case round =>
    obtain ⟨j, gx, acc, f', s, k, l, pv, ok, rfl, rfl, rfl, hok, hI⟩ := hrel
    have HI : Hid (RowSt RT gf B g8 W A X E a s0 k0 l0 pv0 j gx u6 acc f' s k l pv wr) := hI
    have HO : Hid (ok = A (a + j)) := hok
    have hj : j < 1490 := Nat.lt_of_lt_of_le hI.lt (secsOf_le _ (HX.out a))
    clear hI hok H0
    cases ok with
    | false =>
      have HT : Hid (RT = ([], 0, f')) := by show _ = _; rw [HI.out.told]; exact rowGo_no _ _ _ _ _ _ _ _ (by rw [← HO.out]; rfl)
      go_wp2_with fail
      go_ret2
      exact ⟨_, 0, rfl, by rw [HPO.out, HT.out]; exact ⟨rfl, fun h => absurd rfl h, HI.out.fl, HI.out.only⟩⟩
    | true =>
      have HA : Hid (ok0 = true) := by
        show _ = _
        rw [HOK.out]
        by_cases h0 : j = 0
        · have := HO.out
          rw [h0, Nat.add_zero] at this
          exact this.symm
        · exact HI.out.fok (by omega)
      obtain ⟨gd', hgd'⟩ : ∃ g', g' = decide (s = s0 ∧ l = l0 ∧ k = j) := ⟨_, rfl⟩
      have HG : Hid (gd' = decide (s = s0 ∧ l = l0 ∧ k = j)) := hgd'
      have HIS : Hid (∀ W, Calls Tryd.prog 81 #[.agg (partCells s k l pv).toArray, .agg (partCells s0 k0 l0 pv0).toArray, .int .i64 (j : Nat)] W fun e w' => e = .returned (.bool gd') ∧ Below W.heap.size W w') := fun W => by rw [hgd']; exact isOf_any W s k l pv s0 k0 l0 pv0 j
      have HGG : Hid ((A (a + j) && decide (pS (X (a + j)) = pS (X a) ∧ pL (X (a + j)) = pL (X a) ∧ pI (X (a + j)) = j)) = gd') := by
        show _ = _
        have h1 := HI.out.ok HO.out.symm
        have h2 := HG8.out.2.1 HA.out
        rw [← HO.out, hgd', h1.1, h1.2.1, h1.2.2.1, h2.1, h2.2.2]
        rfl
      clear hgd'
      cases gd' with
      | false =>
        have HT : Hid (RT = ([], 0, f')) := by show _ = _; rw [HI.out.told]; exact rowGo_no _ _ _ _ _ _ _ _ HGG.out
        go_wp2_with (first | (refine wl_ldA agg126 (.tmp 10) rfl rfl gx 0 rfl (partCells s k l pv) rfl (fun j v hj => by rw [Nat.zero_add]; exact HI.out.cur.at j v hj) ?_) | (refine wl_ldA agg126 (.tmp 8) rfl rfl g8 0 rfl (partCells s0 k0 l0 pv0) rfl (fun j v hj => by rw [Nat.zero_add]; exact HI.out.fst.at j v hj) ?_) | (go_at_call 81; refine (HIS.out wr).mono ?_; rintro e w2 ⟨rfl, b2⟩; have R2 : Hid (RowSt RT gf B g8 W A X E a s0 k0 l0 pv0 j gx u6 acc f' s k l pv w2) := HI.out.below b2; clear b2))
        go_ret2
        exact ⟨_, 0, rfl, by rw [HPO.out, HT.out]; exact ⟨rfl, fun h => absurd rfl h, R2.out.fl, R2.out.only⟩⟩
      | true =>
        have HL : Hid (l0 = pL (X a) ∧ l0 < 65536) := ⟨(HG8.out.2.1 HA.out).2.2, by rw [(HG8.out.2.1 HA.out).2.2]; exact HX.out a⟩
        go_upto_region 7 with (first | (refine wl_ldA agg126 (.tmp 10) rfl rfl gx 0 rfl (partCells s k l pv) rfl (fun j v hj => by rw [Nat.zero_add]; exact HI.out.cur.at j v hj) ?_) | (refine wl_ldA agg126 (.tmp 8) rfl rfl g8 0 rfl (partCells s0 k0 l0 pv0) rfl (fun j v hj => by rw [Nat.zero_add]; exact HI.out.fst.at j v hj) ?_) | (go_at_call 81; refine (HIS.out wr).mono ?_; rintro e w2 ⟨rfl, b2⟩; have R2 : Hid (RowSt RT gf B g8 W A X E a s0 k0 l0 pv0 j gx u6 acc f' s k l pv w2) := HI.out.below b2; clear b2))
        refine wp_region_lit ?_
        refine wl_mv (.tmp 6) rfl rfl u6 rfl ?_
        simp only [Act.put, aS, aC, aZ]
        refine wl_fld f126_3 (.tmp 10) rfl rfl gx 0 rfl ?_
        simp only [Act.put, aS, aC, aZ]
        refine wl_ld o51 (.tmp 34) rfl rfl gx (0 + 3) rfl pv (R2.out.cur.at 3 _ rfl) ?_
        simp only [Act.put, aS, aC, aZ]
        refine wl_bgrow (.tmp 33) (.tmp 35) rfl rfl B u6 pv acc (pP (X (a + j))) rfl R2.out.own rfl (R2.out.ok HO.out.symm).2.2.2.1 (by rw [R2.out.len, (R2.out.ok HO.out.symm).2.2.2.2]; omega) (by have := R2.out.g8B; have := R2.out.fst.lt; omega) ?_
        intro va wa hoa hga
        have R3 : Hid (BOwn wa B va (acc ++ pP (X (a + j))) ∧ Row wa gf 41 [.int .i64 f'] ∧ Row wa g8 104 (partCells s0 k0 l0 pv0) ∧ Row wa gx 104 (partCells s k l pv) ∧ OnlyG gf B W wa ∧ B ≤ wa.heap.size) := ⟨hoa, R2.out.fl.grown hga (own_ne R2.out.own R2.out.fl (by decide)), R2.out.fst.grown hga (own_ne R2.out.own R2.out.fst (by decide)), R2.out.cur.grown hga (own_ne R2.out.own R2.out.cur (by decide)), R2.out.only.trans (OnlyG.of (R2.out.own.belowG hga (by have := R2.out.g8B; have := R2.out.fst.lt; omega))), by have := hga.size; have := R2.out.g8B; have := R2.out.fst.lt; omega⟩
        have HAC : Hid ((∀ c ∈ acc ++ pP (X (a + j)), c < 256) ∧ (acc ++ pP (X (a + j))).length = 44 * (j + 1) ∧ (∃ p l c, pv = .slice p l c) ∧ B ≤ gx) := ⟨fun c hc => by rcases List.mem_append.1 hc with h | h; exact R2.out.small c h; exact (R2.out.ok HO.out.symm).2.2.2.1.lt256 c h, by rw [List.length_append, R2.out.len, (R2.out.ok HO.out.symm).2.2.2.2]; omega, R2.out.sl, R2.out.gxB⟩
        have HTD : Hid (RT = rowGo A X E a (secsOf (pL (X a)) - j) j acc f' ∧ j < secsOf (pL (X a))) := ⟨HI.out.told, HI.out.lt⟩
        clear hoa hga R2 HI HIS
        simp only [Act.put, aS, aC, aZ]
        refine wl_as (.tmp 36) rfl rfl va rfl ?_
        simp only [Act.put, aS, aC, aZ]
        refine wpList_nil ?_
        go_upto_region 8 with fail
        refine wp_region_lit ?_
        refine wl_mv (.tmp 7) rfl rfl (.int .i64 (j : Nat)) rfl ?_
        simp only [Act.put, aS, aC, aZ]
        refine wl_addN (.tmp 37) (.const (.int .i64 1)) rfl rfl j 1 (by omega) (by omega) rfl rfl ?_
        simp only [Act.put, aS, aC, aZ]
        refine wl_as (.tmp 38) rfl rfl (.int .i64 ((j + 1 : Nat) : Int)) rfl ?_
        simp only [Act.put, aS, aC, aZ]
        refine wpList_nil ?_
        obtain ⟨K, hK⟩ : ∃ K, K = secsOf l0 := ⟨_, rfl⟩
        have HK : Hid (K = secsOf (pL (X a))) := by show _ = _; rw [hK, HL.out.1]
        have HSC : Hid (∀ W, Calls Tryd.prog 55 #[.int .i64 (l0 : Nat)] W fun e w' => e = .returned (.int .i64 (K : Nat)) ∧ W = w') := fun W => by rw [hK]; exact sectors_any W l0 (by have := HL.out.2; omega)
        have k2 := R3.out.2.2.1.at 2 _ rfl
        clear hK
        obtain ⟨n1, hn1⟩ : ∃ n1, n1 = j + 1 := ⟨_, rfl⟩
        rw [← hn1]
        have HN1 : Hid (n1 = j + 1) := hn1
        have hn1b : n1 ≤ 1490 := by omega
        clear hn1
        by_cases hend : n1 = K
        · have HT : Hid (RT = ((acc ++ pP (X (a + j))).take (pL (X a)), n1, f')) := by show _ = _; rw [HTD.out.1, HN1.out]; exact rowGo_end _ _ _ _ _ _ _ _ (by have := HTD.out.2; omega) HGG.out (by rw [← HK.out, ← HN1.out]; exact hend)
          have HBV : Hid (SliceIn wa va (acc ++ pP (X (a + j))) ∧ l0 ≤ (acc ++ pP (X (a + j))).length) := ⟨R3.out.1.slice HAC.out.1 (by rw [HAC.out.2.1]; omega), by rw [HAC.out.2.1, HL.out.1]; have h1 := secsOf_fits (pL (X a)); have h2 := HK.out; have h3 := HN1.out; omega⟩
          subst hend
          go_wp2_with (first | (go_at_call 55; refine (HSC.out wa).mono ?_; rintro e w' ⟨rfl, rfl⟩) | (refine wl_bsub (.tmp 44) none (some (.tmp 46)) (some (.tmp 48)) rfl rfl va _ rfl HBV.out.1 0 l0 ⟨Or.inl ⟨rfl, rfl⟩, Or.inr ⟨_, rfl, rfl, Or.inr rfl⟩, Nat.zero_le _, HBV.out.2⟩ ?_; intro bv hbv; have HV : Hid (SliceIn wa bv ((acc ++ pP (X (a + j))).take l0)) := (by rw [List.drop_zero] at hbv; exact hbv); clear hbv))
          go_ret2
          exact ⟨bv, _, rfl, by rw [HPO.out, HT.out]; exact ⟨rfl, fun _ => by rw [← HL.out.1]; exact HV.out, R3.out.2.1, R3.out.2.2.2.2.1⟩⟩
        · have t1 : ((n1 : Int) == (K : Int)) = false := by simp; omega
          have t2 : decide ((n1 : Int) = (K : Int)) = false := decide_eq_false (by omega)
          have HT : Hid (RT = rowGo A X E a (secsOf (pL (X a)) - n1) n1 (acc ++ pP (X (a + j))) (E f' (a + n1)) ∧ n1 < secsOf (pL (X a))) := ⟨by rw [HTD.out.1, rowGo_on _ _ _ _ _ _ _ _ (by have := HTD.out.2; omega) HGG.out (by rw [← HK.out, ← HN1.out]; exact hend), HN1.out, Nat.sub_sub], by have h1 := HTD.out.2; have h2 := HK.out; have h3 := HN1.out; omega⟩
          go_upto_region 11 with (go_at_call 55; refine (HSC.out wa).mono ?_; rintro e w' ⟨rfl, rfl⟩)
          clear k2
          refine wp_region_lit ?_
          refine wl_ldA agg126 (.tmp 10) rfl rfl gx 0 rfl (partCells s k l pv) rfl (fun j v hj => by rw [Nat.zero_add]; exact R3.out.2.2.2.1.at j v hj) ?_
          simp only [Act.put, aS, aC, aZ]
          refine wpList_nil ?_
          go_upto_region 12 with fail
          refine wp_region_lit ?_
          refine wpList_alloc_store agg126 _ zero126 rfl rfl rfl rfl rfl (.tmp 51) rfl (partCells s k l pv) rfl rfl (partCells_one s k l pv HAC.out.2.2.1) (fun _ => rfl) (fun _ => rfl) ?_
          intro wb rb sb bb
          obtain ⟨gy, hgy⟩ : ∃ gy, gy = wa.heap.size := ⟨_, rfl⟩
          rw [← hgy] at rb sb ⊢
          have hgyB : B ≤ gy := by rw [hgy]; exact R3.out.2.2.2.2.2
          have R4 : Hid (BOwn wb B va (acc ++ pP (X (a + j))) ∧ Row wb gf 41 [.int .i64 f'] ∧ Row wb g8 104 (partCells s0 k0 l0 pv0) ∧ Row wb gy 104 (partCells s k l pv) ∧ OnlyG gf B W wb ∧ wb.heap.size = gy + 1 ∧ ∀ b, va.ownBlock = some b → b < gy) := ⟨R3.out.1.later bb, R3.out.2.1.later bb R3.out.2.1.lt, R3.out.2.2.1.later bb R3.out.2.2.1.lt, rb, R3.out.2.2.2.2.1.trans (OnlyG.of (bb.mono (by rw [← hgy]; exact hgyB))), sb, fun b hb => by rw [hgy]; exact (World.ownsRow.lt R3.out.1 b hb).2⟩
          have HG8' : Hid (g8 < gy) := by show _ < _; rw [hgy]; exact R3.out.2.2.1.lt
          clear rb sb bb hgy R3
          simp only [Act.put, aS, aC, aZ]
          refine wpList_nil ?_
          go_upto_region 6 with fail
          refine wp_region_lit ?_
          refine wl_mv (.tmp 0) rfl rfl (rdV gp gd gh gf) rfl ?_
          simp only [Act.put, aS, aC, aZ]
          refine wl_mv (.tmp 1) rfl rfl (.int .i64 (a : Nat)) rfl ?_
          simp only [Act.put, aS, aC, aZ]
          refine wl_mv (.tmp 7) rfl rfl (.int .i64 (n1 : Nat)) rfl ?_
          simp only [Act.put, aS, aC, aZ]
          refine wl_addN (.tmp 27) (.tmp 28) rfl rfl a n1 (by omega) (by omega) rfl rfl ?_
          simp only [Act.put, aS, aC, aZ]
          refine wpList_callV eN65 26 [ptr gp, ptr gd, ptr gh, ptr gf] [.tmp 29] _ rfl rfl rfl [.int .i64 ((a + n1 : Nat) : Int)] rfl ?_
          refine (HRD.out wb f' (a + n1) (by omega) R4.out.2.2.2.2.1 R4.out.2.1).mono ?_
          obtain ⟨ok2, hok2⟩ : ∃ ok2, ok2 = A (a + n1) := ⟨_, rfl⟩
          rw [← hok2]
          rintro e wc ⟨s', k', l', pv', rfl, hsl, hpp, hfc, oc⟩
          refine ⟨_, rfl, ?_⟩
          have R5 : Hid ((∃ p l c, pv' = .slice p l c) ∧ (ok2 = true → s' = pS (X (a + n1)) ∧ k' = pI (X (a + n1)) ∧ l' = pL (X (a + n1)) ∧ SliceIn wc pv' (pP (X (a + n1))) ∧ (pP (X (a + n1))).length = 44 ∧ ∀ b', pv'.ownBlock = some b' → wb.heap.size < b') ∧ Row wc gf 41 [.int .i64 (E f' (a + n1))] ∧ OnlyG gf wb.heap.size wb wc) := ⟨hsl, hpp, hfc, oc⟩
          have hgfB := HG8.out.2.2
          have HGY : Hid (Row wc gy 104 (partCells s k l pv)) := R5.out.2.2.2.row (by omega) (by have := R4.out.2.2.2.2.2.1; omega) R4.out.2.2.2.1
          clear hsl hpp hfc oc
          simp only [Act.put, aS, aC, aZ]
          refine wl_mv (.tmp 30) rfl rfl (.tuple #[.agg (partCells s' k' l' pv').toArray, .bool ok2]) rfl ?_
          simp only [Act.put, aS, aC, aZ]
          refine wl rfl (.agg (partCells s' k' l' pv').toArray) wc (by simp [execOp, Act.eval, Instr.extract]) ?_
          simp only [Act.put, aS, aC, aZ]
          refine wl rfl (.bool ok2) wc (by simp [execOp, Act.eval, Instr.extract]) ?_
          simp only [Act.put, aS, aC, aZ]
          refine wpList_store0 agg126 (.tmp 10) (.tmp 31) rfl rfl rfl gy 0 104 rfl (partCells s' k' l' pv') _ rfl rfl HGY.out (by simp [partCells]) (partCells_one s' k' l' pv' R5.out.1) ?_
          rw [splice_all (partCells s k l pv) (partCells s' k' l' pv') rfl]
          refine wl_as (.tmp 32) rfl rfl (.bool ok2) rfl ?_
          simp only [Act.put, aS, aC, aZ]
          refine wpList_nil ?_
          have H9 : Hid (RowSt RT gf B g8 W A X E a s0 k0 l0 pv0 n1 gy va (acc ++ pP (X (a + j))) (E f' (a + n1)) s' k' l' pv' (wc.setRow gy (partCells s' k' l' pv').toArray)) := by
            have hsz := R4.out.2.2.2.2.2.1
            have h8 := HG8'.out
            refine ⟨HT.out.1, HT.out.2, (R4.out.2.2.2.2.1.trans (R5.out.2.2.2.mono (by omega))).setRow gy (Or.inr hgyB) _, R5.out.2.2.1.setRow_other (by omega) _, (R5.out.2.2.2.row (by have := HG8.out.1; omega) (by omega) R4.out.2.2.1).setRow_other (by omega) _, HGY.out.setRow _, hgyB, HG8.out.1, R5.out.1, fun h => ?_, fun _ => by rw [← HOK.out]; exact HA.out, ?_, by rw [HAC.out.2.1, HN1.out], HAC.out.1⟩
            · have h2 := R5.out.2.1 (by rw [hok2]; exact h)
              exact ⟨h2.1, h2.2.1, h2.2.2.1, sliceK h2.2.2.2.1 fun b' hb' _ => Go.setRow_other _ _ _ _ (by have := h2.2.2.2.2.2 b' hb'; omega), h2.2.2.2.2.1⟩
            · refine ownK (ownK R4.out.1 fun b hb => R5.out.2.2.2.block b (by have := R4.out.2.2.2.2.2.2 b hb; omega) (fun e => ?_)) fun b hb => Go.setRow_other _ _ _ _ (by have := R4.out.2.2.2.2.2.2 b hb; omega)
              rw [e] at hb
              exact own_ne R4.out.1 R4.out.2.1 (by decide) hb
          generalize wc.setRow gy (partCells s' k' l' pv').toArray = wd at H9 ⊢
          have HOK2 : Hid (ok2 = A (a + n1)) := hok2
          clear hok2
          go_wp2_with fail
          refine ⟨⟨n1, gy, _, _, s', k', l', pv', ok2, rfl, rfl, rfl, HOK2.out, H9.out⟩, ?_⟩
          have h9 := HN1.out
          simp [intOf]; omega
end Go.Proofs.YtebalanfagglnaaDoor

namespace Go.Proofs.YtebalanfagglnaaDoor
open Go.RowKit Go.Maps

theorem info30 : (Tryd.prog.info? 28).map (fun i => (i.zero, i.size, i.bytes)) = some (some (.slice none 0 0), 1, 24) := by kernel_rfl
/-- a transaction that lies apart from tv's own block -/
def TxTo (W : World) (base : Nat) (tv u : Value) (tx : List (List Nat)) : Prop :=
  ∃ us : List Value, W.ownsRow base 50 1 u tx.length us ∧ (∀ b, u.ownBlock = some b → tv.ownBlock ≠ some b) ∧ ∀ i, i < tx.length → SliceIn W (us.getD i undef) (tx.getD i []) ∧ ∀ b, (us.getD i undef).ownBlock = some b → u.ownBlock ≠ some b ∧ tv.ownBlock ≠ some b ∧ b < W.heap.size ∧ base ≤ b
theorem TxTo.rows {W : World} {base : Nat} {tv u : Value} {tx : List (List Nat)} (h : TxTo W base tv u tx) : RowsTo W base u tx := by
  obtain ⟨us, h1, h2, h3⟩ := h
  exact ⟨us, h1, fun i hi => ⟨(h3 i hi).1, fun b hb => ⟨((h3 i hi).2 b hb).1, ((h3 i hi).2 b hb).2.2⟩⟩⟩
theorem RowsTo.tx {W : World} {base base' : Nat} {tv u : Value} {tx : List (List Nat)} (h : RowsTo W base' u tx) (hb : base ≤ base') (ht : ∀ b, tv.ownBlock = some b → b < base') : TxTo W base tv u tx := by
  obtain ⟨us, h1, h3⟩ := h
  refine ⟨us, ?_, fun b hb e => ?_, fun i hi => ⟨(h3 i hi).1, fun b hb' => ⟨((h3 i hi).2 b hb').1, fun e => ?_, ((h3 i hi).2 b hb').2.1, Nat.le_trans hb ((h3 i hi).2 b hb').2.2⟩⟩⟩
  · obtain ⟨h4, h5⟩ := h1
    refine ⟨h4, ?_⟩
    rcases h5 with h5 | ⟨g, cap, cur, e, h0, hg⟩
    · exact Or.inl h5
    · exact Or.inr ⟨g, cap, cur, e, Nat.le_trans hb h0, hg⟩
  · have h6 := (World.ownsRow.lt h1 b hb).1
    have h7 := ht b e
    omega
  · have h6 := ((h3 i hi).2 b hb').2.2
    have h7 := ht b e
    omega
/-- what turned nothing but tv's own block keeps it -/
theorem TxTo.kept {W W' : World} {base : Nat} {tv tv' u : Value} {tx : List (List Nat)} (h : TxTo W base tv u tx) (hz : W.heap.size ≤ W'.heap.size) (hk : ∀ b, b < W.heap.size → tv.ownBlock ≠ some b → W'.heap[b]? = W.heap[b]?) (hv : ∀ b, tv'.ownBlock = some b → tv.ownBlock = some b ∨ W.heap.size ≤ b) : TxTo W' base tv' u tx := by
  obtain ⟨us, h1, h2, h3⟩ := h
  refine ⟨us, ownK h1 fun b hb => hk b (World.ownsRow.lt h1 b hb).2 (h2 b hb), fun b hb e => ?_, fun i hi => ⟨sliceK (h3 i hi).1 fun b hb hlt => hk b hlt ((h3 i hi).2 b hb).2.1, fun b hb => ⟨((h3 i hi).2 b hb).1, fun e => ?_, Nat.lt_of_lt_of_le ((h3 i hi).2 b hb).2.2.1 hz, ((h3 i hi).2 b hb).2.2.2⟩⟩⟩
  · rcases hv b e with h | h
    · exact h2 b hb h
    · have := (World.ownsRow.lt h1 b hb).2; omega
  · rcases hv b e with h | h
    · exact ((h3 i hi).2 b hb).2.1 h
    · have := ((h3 i hi).2 b hb).2.2.1; omega
def TxsTo (W : World) (base : Nat) (tv : Value) (D : List (List (List Nat))) : Prop :=
  ∃ us : List Value, W.ownsRow base 28 1 tv D.length us ∧ ∀ i, i < D.length → TxTo W base tv (us.getD i undef) (D.getD i [])
theorem TxsTo.nil (W : World) (base : Nat) : TxsTo W base (.slice none 0 0) [] := ⟨[], World.ownsRow_nil _ _ _ _, fun _ hi => absurd hi (Nat.not_lt_zero _)⟩
/-- nothing of it lies in block g, so g may turn -/
theorem TxsTo.only {W W' : World} {base g B : Nat} {tv : Value} {D : List (List (List Nat))} (h : TxsTo W base tv D) (ho : OnlyG g B W W') (hB : W.heap.size ≤ B) (hg : g < base) : TxsTo W' base tv D := by
  obtain ⟨us, h1, h2⟩ := h
  refine ⟨us, ownK h1 fun b hb => ho.block b (by have := (World.ownsRow.lt h1 b hb).2; omega) (by have := (World.ownsRow.lt h1 b hb).1; omega), fun i hi => ?_⟩
  obtain ⟨us2, k1, k2, k3⟩ := h2 i hi
  refine ⟨us2, ownK k1 fun b hb => ho.block b (by have := (World.ownsRow.lt k1 b hb).2; omega) (by have := (World.ownsRow.lt k1 b hb).1; omega), k2, fun j hj => ⟨sliceK (k3 j hj).1 fun b hb hlt => ho.block b (by omega) (by have := ((k3 j hj).2 b hb).2.2.2; omega), fun b hb => ⟨((k3 j hj).2 b hb).1, ((k3 j hj).2 b hb).2.1, Nat.lt_of_lt_of_le ((k3 j hj).2 b hb).2.2.1 ho.size, ((k3 j hj).2 b hb).2.2.2⟩⟩⟩
theorem run_lit38 {w : World} {a : Act} {o : Oper} (x : Operand) (ho : o.op = .buildSlice 36 1 #[(0, x)]) (u : Value) (hu : ∃ p n c, u = .slice p n c) (hx : a.eval x = u) : (execOp a.eval o).run Tryd.prog w = .ok (.value (.slice (some ⟨w.heap.size, 0, none⟩) 1 1)) (w.alloc (.cells #[u] 28)) := by
  obtain ⟨p, n, c, rfl⟩ := hu
  have hr : (Instr.buildSlice 36 1 #[(0, .slice p n c)]).run Tryd.prog w = .ok (.slice (some ⟨w.heap.size, 0, none⟩) 1 1) (w.alloc (.cells #[.slice p n c] 28)) := by kernel_rfl
  simp only [execOp, ho, List.map_toArray, List.map_cons, List.map_nil, hx, hr, Sem.run_bind, Sem.run_pure, Result.andThen_ok]
/-- one more behind them: the literal, the append -/
theorem TxsTo.push {W : World} {base : Nat} {tv : Value} {D : List (List (List Nat))} (h : TxsTo W base tv D) (hbase : base ≤ W.heap.size) (hl : D.length ≤ 1000000) (u : Value) (r : List (List Nat)) (hu : TxTo W base tv u r) :
    ∃ v' W', (Builtin.append_ #[36, 36] 36 #[tv, .slice (some ⟨W.heap.size, 0, none⟩) 1 1]).run Tryd.prog (W.alloc (.cells #[u] 28)) = .ok v' W' ∧ TxsTo W' base v' (D ++ [r]) ∧ Below base W W' ∧ (∀ b, b < W.heap.size → tv.ownBlock ≠ some b → W'.heap[b]? = W.heap[b]?) := by
  obtain ⟨us, ho, hs⟩ := h
  have hul : us.length = D.length := by have := ho.1; omega
  have b1 : Below W.heap.size W (W.alloc (.cells #[u] 28)) := below_alloc W _
  have z1 : (W.alloc (.cells #[u] 28)).heap.size = W.heap.size + 1 := World.size_alloc _ _
  have hrow : Row (W.alloc (.cells #[u] 28)) W.heap.size 28 [u] := Row.new W 28 [u]
  have ho1 : (W.alloc (.cells #[u] 28)).ownsRow base 28 1 tv D.length us := ownK ho fun b hq => b1.block b (ho.lt b hq).2
  have ho0 : (W.alloc (.cells #[u] 28)).ownsRow 0 28 1 tv D.length us := by
    obtain ⟨h1, h2⟩ := ho1
    refine ⟨h1, ?_⟩
    rcases h2 with h2 | ⟨g, cap, cur, e, h0, hg⟩
    · exact Or.inl h2
    · exact Or.inr ⟨g, cap, cur, e, Nat.zero_le _, hg⟩
  obtain ⟨p, l, cc, hus⟩ : ∃ p l c, u = .slice p l c := by obtain ⟨_, k1, _⟩ := hu; exact own_isSlice k1
  obtain ⟨v', W', hrun, h2, h3, h5⟩ := app_one (w := W.alloc (.cells #[u] 28)) Tryd.underlying36 info30 38 tv D.length us ho0 W.heap.size u (by rw [hus]; rfl) hrow hl
  have hch : Ch (fun b => tv.ownBlock = some b) W W' := (Ch.of_below b1).grown h3 fun k hk => Or.inl hk
  have hz := h3.size
  have hvb : ∀ b, v'.ownBlock = some b → tv.ownBlock = some b ∨ W.heap.size + 1 ≤ b := fun b hb => by
    rcases h5 with e | e
    · exact Or.inl (by rw [← e]; exact hb)
    · rw [hb] at e; injection e with e; exact Or.inr (by omega)
  have keep : ∀ v cs, TxTo W base tv v cs → TxTo W' base v' v cs := fun v cs h1 => h1.kept (by omega) (fun b hb hne => hch.block b hb hne) (fun b hb => (hvb b hb).imp id (fun h => by omega))
  refine ⟨v', W', hrun, ⟨us ++ [u], ?_, fun i hi => ?_⟩, hch.below hbase fun i hi e => (by have := (ho.lt i e).1; omega), fun b hb hne => hch.block b hb hne⟩
  · rw [List.length_append, List.length_singleton]
    obtain ⟨h1', h2'⟩ := h2
    refine ⟨h1', ?_⟩
    rcases h2' with h2' | ⟨g, cap, cur, e, h0, hg⟩
    · exact Or.inl h2'
    · refine Or.inr ⟨g, cap, cur, e, ?_, hg⟩
      rcases hvb g (by rw [e]; rfl) with h' | h'
      · exact (ho.lt g h').1
      · omega
  · rw [List.length_append, List.length_singleton] at hi
    by_cases e : i = D.length
    · subst e
      have e1 : (us ++ [u]).getD D.length undef = u := by rw [List.getD_eq_getElem?_getD, List.getElem?_append_right (by omega), hul, Nat.sub_self]; rfl
      have e2 : (D ++ [r]).getD D.length [] = r := by rw [List.getD_eq_getElem?_getD, List.getElem?_append_right (by omega), Nat.sub_self]; rfl
      rw [e1, e2]
      exact keep u r hu
    · have e1 : (us ++ [u]).getD i undef = us.getD i undef := by rw [List.getD_eq_getElem?_getD, List.getElem?_append_left (by omega), ← List.getD_eq_getElem?_getD]
      have e2 : (D ++ [r]).getD i [] = D.getD i [] := by rw [List.getD_eq_getElem?_getD, List.getElem?_append_left (by omega), ← List.getD_eq_getElem?_getD]
      rw [e1, e2]
      exact keep _ _ (hs i (by omega))
/-- the log read -/
def txsGo (A : Nat → Bool) (X : Nat → List Nat) (E : Int → Nat → Int) : Nat → Nat → List (List (List Nat)) → Int → Option (List (List (List Nat)) × Nat) × Int
  | 0, _, _, f => (none, f)
  | n + 1, used, D, f =>
    if (rowRd A X E used f).2.1 = 0 then (some (D, used), (rowRd A X E used f).2.2)
    else match recordsOf (rowRd A X E used f).1 with
      | none => (none, (rowRd A X E used f).2.2)
      | some tx => if longTx tx then (none, (rowRd A X E used f).2.2) else txsGo A X E n (used + (rowRd A X E used f).2.1) (D ++ [tx]) (rowRd A X E used f).2.2
theorem rowGo_len (A : Nat → Bool) (X : Nat → List Nat) (E : Int → Nat → Int) (a : Nat) : ∀ (n j : Nat) (acc : List Nat) (f : Int), (rowGo A X E a n j acc f).2.1 ≠ 0 → A (a + (rowGo A X E a n j acc f).2.1 - 1) = true ∧ (rowGo A X E a n j acc f).1.length ≤ pL (X a) := by
  intro n
  induction n with
  | zero => intro j acc f h; exact absurd rfl h
  | succ n ih =>
    intro j acc f h
    by_cases h1 : (A (a + j) && decide (pS (X (a + j)) = pS (X a) ∧ pL (X (a + j)) = pL (X a) ∧ pI (X (a + j)) = j)) = true
    · by_cases h2 : j + 1 = secsOf (pL (X a))
      · rw [rowGo_end _ _ _ _ _ _ _ _ (Nat.succ_pos _) h1 h2]
        refine ⟨?_, by rw [List.length_take]; omega⟩
        show A (a + (j + 1) - 1) = true
        rw [show a + (j + 1) - 1 = a + j by omega]
        exact (Bool.and_eq_true _ _ ▸ h1).1
      · rw [rowGo_on _ _ _ _ _ _ _ _ (Nat.succ_pos _) h1 h2] at h ⊢
        exact ih _ _ _ h
    · rw [rowGo_no _ _ _ _ _ _ _ _ (by simpa using h1)] at h
      exact absurd rfl h
end Go.Proofs.YtebalanfagglnaaDoor

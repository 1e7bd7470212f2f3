/- Layer 9: bits, slots, places. Layer 9: bytes of a set. Regions that draw their order and end in one operation that waits for all looks: what the looks read is held until that operation. Layer 9: sets of pages: has, with, without. -/
import Derived.Test.YtkpnflgnhhfjoaaDoorZ15
namespace Go.Proofs.YtkpnflgnhhfjoaaDoor
open Go.RowKit Go.Maps

theorem pow_mod (p : Nat) : (2 ^ (p % 8) % 256 : Int) = 2 ^ (p % 8) := by
  have h : p % 8 < 8 := Nat.mod_lt _ (by decide)
  generalize p % 8 = k at h
  match k, h with
  | 0, _ => rfl
  | 1, _ => rfl
  | 2, _ => rfl
  | 3, _ => rfl
  | 4, _ => rfl
  | 5, _ => rfl
  | 6, _ => rfl
  | 7, _ => rfl
set_option maxHeartbeats 1000000 in
theorem bit_any (w : World) (p : Nat) (hp : p < 1000000) : Calls Tryd.prog 73 #[.int .i64 (p : Nat)] w fun e w' => e = .returned (.int .u8 ((2 ^ (p % 8) : Nat) : Int)) ∧ w = w' := by
  go_enter Tryd.func73, Tryd.ntmps73
  go_wp2_with fail
  go_ret
  exact ⟨by simp [pow_mod], rfl⟩
theorem first_any (w : World) (p : Nat) (hp : p < 1000000) : Calls Tryd.prog 70 #[.int .i64 (p : Nat)] w fun e w' => e = .returned (.int .i64 ((2 + 8 * p : Nat) : Int)) ∧ w = w' := by
  go_enter Tryd.func70, Tryd.ntmps70
  go_wp2_with fail
  go_ret
  exact ⟨by simp; omega, rfl⟩
theorem ag76 : AggT 76 48 := ⟨Or.inr ⟨_, _, Tryd.underlying76⟩, by kernel_rfl⟩
theorem ag78 : AggT 78 50 := ⟨Or.inl ⟨_, Tryd.underlying78⟩, by kernel_rfl⟩
theorem ag122 : AggT 122 64 := ⟨Or.inr ⟨_, _, Tryd.underlying122⟩, by kernel_rfl⟩
theorem ag91 : AggT 91 512 := ⟨Or.inr ⟨_, _, Tryd.underlying91⟩, by kernel_rfl⟩
theorem ag125 : AggT 125 128 := ⟨Or.inr ⟨_, _, Tryd.underlying125⟩, by kernel_rfl⟩
theorem arr76 : Tryd.prog.underlying 76 = some (.array 48 5) := Tryd.underlying76
theorem arr122 : Tryd.prog.underlying 122 = some (.array 64 5) := Tryd.underlying122
theorem arr91 : Tryd.prog.underlying 91 = some (.array 512 5) := Tryd.underlying91
theorem f78_0 : FieldAt 78 0 0 := fun w g off => by kernel_rfl
theorem f78_1 : FieldAt 78 1 1 := fun w g off => by kernel_rfl
theorem f78_2 : FieldAt 78 2 2 := fun w g off => by kernel_rfl
theorem f86_0 : FieldAt 86 0 0 := fun w g off => by kernel_rfl
theorem f86_1 : FieldAt 86 1 1 := fun w g off => by kernel_rfl
theorem f86_2 : FieldAt 86 2 2 := fun w g off => by kernel_rfl
theorem f86_3 : FieldAt 86 3 3 := fun w g off => by kernel_rfl
theorem f86_4 : FieldAt 86 4 53 := fun w g off => by kernel_rfl
theorem o74 : OneT 74 := fun w g o v h => by simp [loadVar, isAgg, run_underlying Tryd.underlying74, h]
theorem o24 : OneT 24 := fun w g o v h => by simp [loadVar, isAgg, run_underlying Tryd.underlying24, h]
theorem o3 : OneT 3 := fun w g o v h => by simp [loadVar, isAgg, run_underlying Tryd.underlying3, h]
theorem o5 : OneT 5 := fun w g o v h => by simp [loadVar, isAgg, run_underlying Tryd.underlying5, h]
theorem zero76 : (Tryd.prog.info? 76).map (·.zero) = some (some (.agg (zerosU8 48).toArray)) := by kernel_rfl
theorem zero122 : (Tryd.prog.info? 122).map (·.zero) = some (some (.agg (zerosU8 64).toArray)) := by kernel_rfl
theorem zero91 : (Tryd.prog.info? 91).map (·.zero) = some (some (.agg (zerosU8 512).toArray)) := by kernel_rfl
theorem zerosB (n : Nat) : zerosU8 n = bcells (List.replicate n 0) := by simp [zerosU8, bcells]
section
variable {w : World} {a : Act} {o : Oper}
theorem run_extZ (x : Operand) (i : Nat) (ho : o.op = .extract x i) (vs : Array Value) (hx : a.eval x = .tuple vs) (v : Value) (hv : vs[i]? = some v) : (execOp a.eval o).run Tryd.prog w = .ok (.value v) w := by simp [execOp, ho, hx, Instr.extract, hv]
theorem run_eqZ {t : Nat} (x y : Operand) (ho : o.op = .binOp .eql t x y t) (z z' : Int) (hx : a.eval x = .int .i64 z) (hy : a.eval y = .int .i64 z') (b : Bool) (hb : decide (z = z') = b) : (execOp a.eval o).run Tryd.prog w = .ok (.value (.bool b)) w := by
  subst hb
  simp only [execOp, ho, hx, hy]
  by_cases h : z = z'
  · subst h; simp [go_sem]
  · simp [go_sem, h]
theorem run_neZ {t : Nat} (x y : Operand) (ho : o.op = .binOp .neq t x y t) (z z' : Int) (hx : a.eval x = .int .i64 z) (hy : a.eval y = .int .i64 z') (b : Bool) (hb : (!decide (z = z')) = b) : (execOp a.eval o).run Tryd.prog w = .ok (.value (.bool b)) w := by
  subst hb
  simp only [execOp, ho, hx, hy]
  by_cases h : z = z'
  · subst h; simp [go_sem]
  · simp [go_sem, h]
theorem run_lenZ {t : TypeId} (hu : Tryd.prog.underlying t = some (.slice (Tryd.prog.elem t))) (x : Operand) (ho : o.op = .call { callee := .builtin .len, args := #[x], argTypes := #[t] }) (p : Option Addr) (n cap : Nat) (hx : a.eval x = .slice p n cap) : (execOp a.eval o).run Tryd.prog w = .ok (.value (.int .i64 (n : Nat))) w := by
  have hr := run_len_slice (P := Tryd.prog) w t o.type p n cap hu
  simp only [execOp, ho, resolve, invoke, builtin, Sem.run_bind, Sem.run_pure, Result.andThen_ok, List.map_toArray, List.map_cons, List.map_nil, hx, hr]
  rfl
theorem run_lssZ (x y : Operand) (ho : o.op = .binOp .lss 3 x y 3) (z z' : Int) (hx : a.eval x = .int .i64 z) (hy : a.eval y = .int .i64 z') (b : Bool) (hb : decide (z < z') = b) : (execOp a.eval o).run Tryd.prog w = .ok (.value (.bool b)) w := by
  subst hb
  simp only [execOp, ho, hx, hy]
  simp [go_sem]
theorem run_geqZ (x y : Operand) (ho : o.op = .binOp .geq 3 x y 3) (z z' : Int) (hx : a.eval x = .int .i64 z) (hy : a.eval y = .int .i64 z') (b : Bool) (hb : decide (z' ≤ z) = b) : (execOp a.eval o).run Tryd.prog w = .ok (.value (.bool b)) w := by
  subst hb
  simp only [execOp, ho, hx, hy]
  simp [go_sem]
theorem run_quo8 (x : Operand) (ho : o.op = .binOp .quo 3 x (.const (.int .i64 8)) 3) (p : Nat) (hp : p < 1000000) (hx : a.eval x = .int .i64 (p : Nat)) : (execOp a.eval o).run Tryd.prog w = .ok (.value (.int .i64 ((p / 8 : Nat) : Int))) w := by
  have e : (a.eval (.const (.int .i64 8))) = .int .i64 8 := rfl
  have hwr : IntKind.i64.wrap ((p : Int) / 8) = (p : Int) / 8 := by
    simp [IntKind.wrap, IntKind.signed, IntKind.bits]
    omega
  simp only [execOp, ho, hx, e]
  simp [go_sem, hwr]
/-- the place of a byte of an array -/
theorem run_ixA {T n : Nat} (hu : Tryd.prog.underlying T = some (.array n 5)) (x i : Operand) (ho : o.op = .indexAddr T x i) (g off j : Nat) (hx : a.eval x = .pointer (some ⟨g, off, none⟩)) (hi : a.eval i = .int .i64 (j : Nat)) (hj : j < n) : (execOp a.eval o).run Tryd.prog w = .ok (.value (.pointer (some ⟨g, off + j, none⟩))) w := by
  obtain ⟨i5, hi5, hsz⟩ := Option.map_eq_some_iff.1 info5
  simp [execOp, ho, hx, hi, Instr.indexAt, asIntOf, run_underlying hu, Instr.sureAddr, hj, sizeOf, typeInfo, hi5, hsz, add_none]
end
theorem eN73 : EntersF 73 := Go.Proofs.enters_of Tryd.func73 (by kernel_rfl) rfl
theorem eN45 : EntersF 45 := Go.Proofs.enters_of Tryd.func45 (by kernel_rfl) rfl
end Go.Proofs.YtkpnflgnhhfjoaaDoor

namespace Go.Proofs.YtkpnflgnhhfjoaaDoor
open Go.RowKit Go.Maps

theorem u8_and_pow : ∀ (a : Fin 256) (k : Fin 8), bits .and .u8 ((a.val : Nat) : Int) ((2 ^ k.val : Nat) : Int) = ((a.val &&& 2 ^ k.val : Nat) : Int) := by decide +kernel
theorem u8_or_pow : ∀ (a : Fin 256) (k : Fin 8), bits .or .u8 ((a.val : Nat) : Int) ((2 ^ k.val : Nat) : Int) = ((a.val ||| 2 ^ k.val : Nat) : Int) := by decide +kernel
theorem u8_less_pow : ∀ (a : Fin 256) (k : Fin 8), bits .andNot .u8 ((a.val : Nat) : Int) ((2 ^ k.val : Nat) : Int) = ((a.val &&& (255 ^^^ 2 ^ k.val) : Nat) : Int) := by decide +kernel
theorem and_pow_ne : ∀ (a : Fin 256) (k : Fin 8), decide ((a.val &&& 2 ^ k.val) = 0) = !a.val.testBit k.val := by decide +kernel
section
variable {w : World} {a : Act} {o : Oper}
theorem run_u8bit (op : BinOp) (r : Nat → Nat → Nat) (hr : ∀ (a : Fin 256) (k : Fin 8), bits op .u8 ((a.val : Nat) : Int) ((2 ^ k.val : Nat) : Int) = (r a.val (2 ^ k.val) : Nat)) (hb : ∀ x y w, (binOp op 5 (.int .u8 x) (.int .u8 y)).run Tryd.prog w = .ok (.int .u8 (bits op .u8 x y)) w) (hq : ∀ x y u v w, (eqGuard op 5 x y u v).run Tryd.prog w = .ok () w) (x y : Operand) (ho : o.op = .binOp op 5 x y 5) (c k : Nat) (hc : c < 256) (hk : k < 8) (hx : a.eval x = .int .u8 (c : Nat)) (hy : a.eval y = .int .u8 ((2 ^ k : Nat) : Int)) : (execOp a.eval o).run Tryd.prog w = .ok (.value (.int .u8 ((r c (2 ^ k) : Nat) : Int))) w := by
  have h := hr ⟨c, hc⟩ ⟨k, hk⟩
  simp only at h
  rw [← h]
  exact run_binOp' x y ho _ _ _ hx hy (hq _ _ _ _ _) (hb _ _ _)
theorem run_u8and (x y : Operand) (ho : o.op = .binOp .and 5 x y 5) (c k : Nat) (hc : c < 256) (hk : k < 8) (hx : a.eval x = .int .u8 (c : Nat)) (hy : a.eval y = .int .u8 ((2 ^ k : Nat) : Int)) : (execOp a.eval o).run Tryd.prog w = .ok (.value (.int .u8 ((c &&& 2 ^ k : Nat) : Int))) w :=
  run_u8bit .and (· &&& ·) u8_and_pow (fun x y w => by simp [go_sem]) (fun _ _ _ _ _ => rfl) x y ho c k hc hk hx hy
theorem run_u8or (x y : Operand) (ho : o.op = .binOp .or 5 x y 5) (c k : Nat) (hc : c < 256) (hk : k < 8) (hx : a.eval x = .int .u8 (c : Nat)) (hy : a.eval y = .int .u8 ((2 ^ k : Nat) : Int)) : (execOp a.eval o).run Tryd.prog w = .ok (.value (.int .u8 ((c ||| 2 ^ k : Nat) : Int))) w :=
  run_u8bit .or (· ||| ·) u8_or_pow (fun x y w => by simp [go_sem]) (fun _ _ _ _ _ => rfl) x y ho c k hc hk hx hy
theorem run_u8less (x y : Operand) (ho : o.op = .binOp .andNot 5 x y 5) (c k : Nat) (hc : c < 256) (hk : k < 8) (hx : a.eval x = .int .u8 (c : Nat)) (hy : a.eval y = .int .u8 ((2 ^ k : Nat) : Int)) : (execOp a.eval o).run Tryd.prog w = .ok (.value (.int .u8 ((c &&& (255 ^^^ 2 ^ k) : Nat) : Int))) w :=
  run_u8bit .andNot (fun c p => c &&& (255 ^^^ p)) u8_less_pow (fun x y w => by simp [go_sem]) (fun _ _ _ _ _ => rfl) x y ho c k hc hk hx hy
theorem run_u8ne0 (x : Operand) (ho : o.op = .binOp .neq 5 x (.const (.int .u8 0)) 5) (n : Nat) (hx : a.eval x = .int .u8 (n : Nat)) (b : Bool) (hb : (!decide (n = 0)) = b) : (execOp a.eval o).run Tryd.prog w = .ok (.value (.bool b)) w := by
  subst hb
  have e : (a.eval (.const (.int .u8 0))) = .int .u8 0 := rfl
  simp only [execOp, ho, hx, e]
  by_cases h : n = 0
  · subst h; simp [go_sem]
  · simp [go_sem, h]
theorem run_put1 {t : Nat} (hs : (Tryd.prog.info? t).map (·.size) = some 1) (x y : Operand) (ho : o.op = .store t x y) {w0 W : World} {l : List (Nat × TypeId × List Value)} (h : Loc w0 W l) (i : Nat) {g T : Nat} {cur : List Value} (e : l[i]? = some (g, T, cur)) (j : Nat) (hx : a.eval x = .pointer (some ⟨g, j, none⟩)) (v : Value) (hy : a.eval y = v) (hv : v.cells = #[v] ∧ v.oneCell' = true) (hj : j < cur.length) : (execOp a.eval o).run Tryd.prog W = .ok .skip (W.setCell ⟨g, j, none⟩ v) ∧ Loc w0 (W.setCell ⟨g, j, none⟩ v) (l.set i (g, T, cur.set j v)) :=
  ⟨run_putRow hs x y ho g j T cur hx v hy hv (h.at i e) hj, h.set i e (row_cell' (h.at i e) v) ((Ch.refl (· = g) W).setCell (Or.inl rfl) j v)⟩
end
theorem has_bit (c k : Nat) (hc : c < 256) (hk : k < 8) : (!decide ((c &&& 2 ^ k) = 0)) = c.testBit k := by
  have := and_pow_ne ⟨c, hc⟩ ⟨k, hk⟩
  simp only at this
  rw [this, Bool.not_not]
theorem bcells_set (u : List Nat) (j v : Nat) : (bcells u).set j (.int .u8 (v : Nat)) = bcells (u.set j v) := by simp [bcells, List.map_set]
theorem bat {u : List Nat} {j : Nat} (h : j < u.length) : (bcells u)[j]? = some (.int .u8 (u.getD j 0 : Nat)) := by simp [bcells, h]
theorem Loc.put {w W : World} {l : List (Nat × TypeId × List Value)} (h : Loc w W l) (i : Nat) {g T : Nat} {cur : List Value} (e : l[i]? = some (g, T, cur)) (j : Nat) (v : Value) : Loc w (W.setCell ⟨g, j, none⟩ v) (l.set i (g, T, cur.set j v)) := h.set i e (row_cell' (h.at i e) v) ((Ch.refl (· = g) W).setCell (Or.inl rfl) j v)
theorem Loc.lay {w W : World} {l : List (Nat × TypeId × List Value)} (h : Loc w W l) (i : Nat) {g T : Nat} {cur : List Value} (e : l[i]? = some (g, T, cur)) (off : Nat) (cs : List Value) : Loc w (W.setRow g (splice cur off cs).toArray) (l.set i (g, T, splice cur off cs)) := h.set i e ((h.at i e).setRow _) ((Ch.refl (· = g) W).setRow (Or.inl rfl) _)
end Go.Proofs.YtkpnflgnhhfjoaaDoor

namespace Go.Proofs.YtkpnflgnhhfjoaaDoor
open Go.RowKit
section
variable {P : Program} {ops : Array Oper} {Q : Exit → Act → World → Prop} {md : Region.Mode} {S : World → Prop} {z : Nat}

/-- whatever order is picked from here on; S holds behind every operation, as long as the last one has not come up -/
def wpAnyU (P : Program) (md : Region.Mode) (ops : Array Oper) (Q : Exit → Act → World → Prop) (S : World → Prop) (z : Nat) : Nat → Array Bool → Act → World → Prop
  | 0, listed, a, w => Region.ready md ops listed = [] ∧ Q .normal a w
  | fuel + 1, listed, a, w =>
    (Region.ready md ops listed = [] → Q .normal a w) ∧
    ∀ i ∈ Region.ready md ops listed, wpOp P ops Q i (fun a' w' => ((listed.setIfInBounds i true).getD z true = false → S w') ∧ wpAnyU P md ops Q S z fuel (listed.setIfInBounds i true) a' w') a w
theorem wpAny_of_until : ∀ (fuel : Nat) (listed : Array Bool) (a : Act) (w : World), wpAnyU P md ops Q S z fuel listed a w → wpAny P md ops Q fuel listed a w
  | 0, _, _, _, h => h
  | fuel + 1, _, _, _, h => ⟨h.1, fun i hi => wpOp_mono (fun a' w' h' => wpAny_of_until fuel _ a' w' h'.2) (h.2 i hi)⟩

theorem wp_region_until {id : Nat} {a : Act} {w : World} (z : Nat) (hm : P.follows .mixedOrders = true)
    (h : wpAnyU P .any ops Q S z ops.size (Array.replicate ops.size false) a { w with drawn := w.drawn + 1 }) : (Code.region id ops true).wp P Q a w :=
  wp_region_any hm (wpAny_of_until _ _ _ _ h)
theorem wpAnyU_done {listed : Array Bool} {a : Act} {w : World} (hr : Region.ready md ops listed = []) (h : Q .normal a w) :
    ∀ fuel, wpAnyU P md ops Q S z fuel listed a w
  | 0 => ⟨hr, h⟩
  | _ + 1 => ⟨fun _ => h, by rw [hr]; simp⟩
/-- the last waits for i -/
def waitsB (md : Region.Mode) (ops : Array Oper) (z i : Nat) : Bool := i != z && match ops[z]? with
  | some o => o.after.any fun e => Region.binds md e && e.on == i
  | none => false
end
/-- one waits for the next, none has come up -/
def chainB (md : Region.Mode) (ops : Array Oper) (listed : Array Bool) : List Nat → Bool
  | [] => true
  | [a] => !(listed.getD a true)
  | a :: b :: r => !(listed.getD a true) && (waitsB md ops b a && chainB md ops listed (b :: r))
section
variable {P : Program} {ops : Array Oper} {Q : Exit → Act → World → Prop} {md : Region.Mode} {S : World → Prop} {z : Nat}
theorem chain_head {listed : Array Bool} {a : Nat} {r : List Nat} (h : chainB md ops listed (a :: r) = true) : listed.getD a true = false := by
  cases r with
  | nil => simpa [chainB] using h
  | cons b r =>
    unfold chainB at h
    simp only [Bool.and_eq_true, Bool.not_eq_true'] at h
    exact h.1
theorem waits_not {listed : Array Bool} {a b : Nat} (hw : waitsB md ops b a = true) (ha : listed.getD a true = false) : b ∉ Region.ready md ops listed := by
  intro hb
  obtain ⟨_, ob, hob, hall⟩ := mem_ready.1 hb
  unfold waitsB at hw
  rw [Bool.and_eq_true, hob] at hw
  obtain ⟨_, h2⟩ := hw
  simp only [Array.any_eq_true] at h2
  obtain ⟨n, hn, hb'⟩ := h2
  simp only [Bool.and_eq_true, beq_iff_eq] at hb'
  have h1 := hall _ (Array.getElem_mem hn) hb'.1
  rw [hb'.2] at h1
  rcases Nat.lt_or_ge a listed.size with h' | h'
  · simp [h'] at ha h1; rw [ha] at h1; cases h1
  · simp [Array.getElem?_eq_none h'] at h1
theorem chain_not {listed : Array Bool} : ∀ (r : List Nat) (a j : Nat), chainB md ops listed (a :: r) = true → j ∈ Region.ready md ops listed → j ∉ r := by
  intro r
  induction r with
  | nil => intro a j _ _ h; cases h
  | cons b r ih =>
    intro a j h hj hm
    have ha := chain_head h
    unfold chainB at h
    simp only [Bool.and_eq_true] at h
    rcases List.mem_cons.1 hm with e | e
    · subst e; exact waits_not h.2.1 ha hj
    · exact ih b j h.2.2 hj e
theorem chain_set {listed : Array Bool} (j : Nat) : ∀ (l : List Nat), chainB md ops listed l = true → j ∉ l → chainB md ops (listed.setIfInBounds j true) l = true := by
  intro l
  induction l with
  | nil => intro _ _; rfl
  | cons a r ih =>
    intro h hj
    have hja : j ≠ a := fun e => hj (by rw [e]; simp)
    have ha := chain_head h
    have ha' : (listed.setIfInBounds j true).getD a true = false := by rw [getD_set_ne true hja]; exact ha
    cases r with
    | nil => simp only [chainB, ha', Bool.not_false]
    | cons b r =>
      unfold chainB at h ⊢
      simp only [Bool.and_eq_true] at h ⊢
      exact ⟨by rw [ha']; rfl, h.2.1, ih h.2.2 (fun e => hj (by simp [e]))⟩
theorem chain_mem {listed : Array Bool} : ∀ (l : List Nat) (j : Nat), chainB md ops listed l = true → j ∈ l → listed.getD j true = false := by
  intro l
  induction l with
  | nil => intro j _ h; cases h
  | cons a r ih =>
    intro j h hj
    rcases List.mem_cons.1 hj with e | e
    · rw [e]; exact chain_head h
    · cases r with
      | nil => cases e
      | cons b r =>
        unfold chainB at h
        simp only [Bool.and_eq_true] at h
        exact ih j h.2.2 e
theorem wpAnyU_chain {i : Nat} {oi : Oper} {v : Value} (l : List Nat) (hzm : z ∈ l) (hil : i ∉ l) (hi : ops[i]? = some oi) (hsel : ∀ (j : Nat) (o : Oper) cs b, ops[j]? = some o → o.op ≠ .select cs b)
    (hQ : ∀ c a w, Q (.panic c) (a.put oi.dst v) w → Q (.panic c) a w) :
    ∀ (fuel : Nat) (listed : Array Bool) (a : Act) (w : World),
      (∀ j oj, ops[j]? = some oj → j ≠ i → listed.getD j true = false → (∀ e ∈ oj.after, Region.binds md e = true → e.on ≠ i) → oi.apart ops oj = true) →
      i ∈ Region.ready md ops listed → chainB md ops listed (i :: l) = true → YieldsIf P ops S oi v a → S w →
      wpAnyU P md ops Q S z fuel (listed.setIfInBounds i true) (a.put oi.dst v) w → wpAnyU P md ops Q S z (fuel + 1) listed a w := by
  intro fuel
  induction fuel with
  | zero =>
    intro listed a w _ hr hzl hy hS H
    refine ⟨fun h => (by rw [h] at hr; cases hr), fun j hj => ?_⟩
    by_cases hji : j = i
    · subst hji; exact hy.wpOp hi hS ⟨fun _ => hS, H⟩
    · have := ready_mono hj hji
      rw [H.1] at this
      cases this
  | succ fuel ih =>
    intro listed a w hfree hr hcl hy hS H
    have hiz : i ≠ z := fun e => hil (by rw [e]; exact hzm)
    have hzl : listed.getD z true = false := chain_mem _ z hcl (by simp [hzm])
    refine ⟨fun h => (by rw [h] at hr; cases hr), fun j hj => ?_⟩
    by_cases hji : j = i
    · subst hji; exact hy.wpOp hi hS ⟨fun _ => hS, H⟩
    · have h1 := H.2 j (ready_mono hj hji)
      obtain ⟨hjun, oj, hoj, hall⟩ := mem_ready.1 hj
      have hnot : ∀ e ∈ oj.after, Region.binds md e = true → e.on ≠ i := fun e he hb heq => by
        have h1 := hall e he hb
        have h0 := (mem_ready.1 hr).1
        rw [heq] at h1
        rcases Nat.lt_or_ge i listed.size with h' | h'
        · simp [h'] at h0 h1; rw [h0] at h1; cases h1
        · simp [Array.getElem?_eq_none h'] at h1
      have hjl : j ∉ l := chain_not l i j hcl hj
      have hjz : j ≠ z := fun e => hjl (by rw [e]; exact hzm)
      have hlij : ((listed.setIfInBounds i true).setIfInBounds j true).getD z true = false := by rw [getD_set_ne true hjz, getD_set_ne true hiz]; exact hzl
      have h2 := wpOp_putIf hoj (hfree j oj hoj hji hjun hnot) (fun cs b => hsel i oi cs b hi) (fun cs b => hsel j oj cs b hoj) hQ hy h1
      have hfree' : ∀ k ok, ops[k]? = some ok → k ≠ i → (listed.setIfInBounds j true).getD k true = false →
          (∀ e ∈ ok.after, Region.binds md e = true → e.on ≠ i) → oi.apart ops ok = true := fun k ok hk hki hun hno => by
        refine hfree k ok hk hki ?_ hno
        by_cases hjk : j = k
        · subst hjk; exact hjun
        · rw [getD_set_ne true hjk] at hun; exact hun
      refine wpOp_mono (fun a' w' h3 => ?_) h2
      have hSw := h3.2.1 hlij
      refine ⟨fun _ => hSw, ih (listed.setIfInBounds j true) a' w' hfree' (ready_mono hr (Ne.symm hji)) (chain_set j _ hcl (fun e => by rcases List.mem_cons.1 e with e | e; exact hji e; exact hjl e)) h3.1 hSw ?_⟩
      rw [Array.setIfInBounds_comm _ _ hji]
      exact h3.2.2
end
section
variable {ops : Array Oper} {Q : Exit → Act → World → Prop} {a : Act} {w : World} {listed : Array Bool} {fuel : Nat} {S : World → Prop} {z : Nat}
theorem takeV {i : Nat} (l : List Nat) (d : Option Tmp) {oi : Oper} {v : Value} (hi : ops[i]? = some oi) (hd : oi.dst = d)
    (hs : Region.noSelect ops = true) (hf : Region.free .any ops listed i = true) (hr : (Region.ready .any ops listed).contains i = true) (hz : (chainB .any ops listed (i :: l) && (l.contains z && !l.contains i)) = true)
    (hQ : ∀ c a w, Q (.panic c) (a.put d v) w → Q (.panic c) a w) (hy : YieldsIf Tryd.prog ops S oi v a) (hS : S w)
    (h : wpAnyU Tryd.prog .any ops Q S z fuel (listed.setIfInBounds i true) (a.put d v) w) : wpAnyU Tryd.prog .any ops Q S z (fuel + 1) listed a w := by
  subst hd
  simp only [Bool.and_eq_true, Bool.not_eq_true'] at hz
  exact wpAnyU_chain l (by simpa using hz.2.1) (by simpa using hz.2.2) hi (Region.noSelect_spec hs) hQ fuel listed a w (Region.free_spec hi hf) (by simpa using hr) hz.1 hy hS h
end
section
variable {ops : Array Oper} {Q : Exit → Act → World → Prop} {a : Act} {w : World} {listed : Array Bool} {fuel : Nat} {S : World → Prop} {z : Nat}
theorem oneU {i : Nat} (hr : Region.ready .any ops listed = [i]) (h : wpOp Tryd.prog ops Q i (fun a' w' => ((listed.setIfInBounds i true).getD z true = false → S w') ∧ wpAnyU Tryd.prog .any ops Q S z fuel (listed.setIfInBounds i true) a' w') a w) : wpAnyU Tryd.prog .any ops Q S z (fuel + 1) listed a w :=
  ⟨fun h0 => (by rw [hr] at h0; cases h0), fun j hj => (by rw [hr] at hj; obtain rfl := List.mem_singleton.1 hj; exact h)⟩
end
end Go.Proofs.YtkpnflgnhhfjoaaDoor

namespace Go.Proofs.YtkpnflgnhhfjoaaDoor
open Go.RowKit Go.Maps

theorem eN44 : EntersF 44 := Go.Proofs.enters_of Tryd.func44 (by kernel_rfl) rfl
theorem eN46 : EntersF 46 := Go.Proofs.enters_of Tryd.func46 (by kernel_rfl) rfl
theorem rows_at {w W : World} {l : List (Nat × TypeId × List Value)} (h : Loc w W l) (i : Nat) {g : Nat} {T : TypeId} {cs : List Value} (e : l[i]? = some (g, T, cs)) (j : Nat) (v : Value) (hv : cs[j]? = some v) : W.cell? ⟨g, j, none⟩ = some v := (h.at i e).at j v hv
theorem rows_all {w W : World} {l : List (Nat × TypeId × List Value)} (h : Loc w W l) (i : Nat) {g : Nat} {T : TypeId} {cs : List Value} (e : l[i]? = some (g, T, cs)) : ∀ j v, cs[j]? = some v → W.cell? ⟨g, 0 + j, none⟩ = some v := fun j v hv => by rw [Nat.zero_add]; exact (h.at i e).at j v hv
set_option maxHeartbeats 4000000 in
set_option maxRecDepth 100000 in
theorem has_any (w : World) (u : List Nat) (hu : USet u) (p : Int) : Calls Tryd.prog 45 #[.agg (bcells u).toArray, .int .i64 p] w fun e w' => e = .returned (.bool (hasP u p)) ∧ Below w.heap.size w w' := by
  obtain ⟨r, hr⟩ : ∃ r, r = hasP u p := ⟨_, rfl⟩
  have HR : Hid (r = hasP u p) := hr
  have HU : Hid (USet u) := hu
  rw [← hr]
  clear hr hu
  go_enter Tryd.func45, Tryd.ntmps45
  go_upto_region 0 with fail
  refine wp_region_lit ?_
  refine wpList_box (.tmp 0) rfl rfl (bcells u) rfl ?_
  intro w1 r1 _ b1
  obtain ⟨q, hq⟩ : ∃ q, q = w.heap.size := ⟨_, rfl⟩
  have R1 : Hid (Loc w w1 [(q, 76, bcells u)]) := by rw [hq]; exact (Loc.nil (Below.refl _ w)).add r1 (Nat.le_refl _) b1
  rw [← hq]
  clear r1 b1 hq
  simp only [Act.put, aS, aC, aZ]
  refine wl_as (.const (.bool false)) rfl rfl (.bool false) rfl ?_
  simp only [Act.put, aS, aC, aZ]
  refine wpList_nil ?_
  by_cases h0 : 0 ≤ p
  · by_cases h1 : p < 384
    · obtain ⟨k, rfl⟩ : ∃ k : Nat, p = (k : Int) := ⟨p.toNat, by omega⟩
      have hge : decide ((0 : Int) ≤ (k : Int)) = true := decide_eq_true h0
      have hls : decide ((k : Int) < 384) = true := decide_eq_true h1
      obtain ⟨c, hcd⟩ : ∃ c, c = u.getD (k / 8) 0 := ⟨_, rfl⟩
      have hc : c < 256 := by rw [hcd]; exact uget_lt HU.out _
      have hcc : (bcells u)[k / 8]? = some (.int .u8 (c : Nat)) := by rw [hcd]; exact bat (by have := HU.out.1; omega)
      obtain ⟨b, hbd⟩ : ∃ b, b = r := ⟨_, rfl⟩
      have hb : (!decide ((c &&& 2 ^ (k % 8)) = 0)) = b := by
        rw [has_bit c (k % 8) hc (by omega), hbd, HR.out, hasP_nat u k (by omega), hcd]
        rfl
      clear hcd
      go_upto_region 1 with fail
      refine wp_region_held (S := fun X => Loc w X [(q, 76, bcells u)]) (by kernel_rfl) ?_
      show wpAnyH _ _ _ _ _ 17 (Array.replicate 17 false) _ _
      obtain ⟨X, hX⟩ : ∃ X : World, X = { w1 with drawn := w1.drawn + 1 } := ⟨_, rfl⟩
      rw [← hX]
      have hS : Loc w X [(q, 76, bcells u)] := by rw [hX]; exact R1.out.drew
      clear R1
      clear hX
      refine takeH (i := 0) (some 5) rfl rfl (by kernel_rfl) (by kernel_rfl) (by kernel_rfl) (fun _ _ _ h => h) (gRun rfl (.int .i64 (k : Int)) fun _ h => run_mvZ (.tmp 1) rfl (.int .i64 (k : Int)) rfl) hS ?_
      simp only [Act.put, aS, aC, aZ]
      refine takeH (i := 1) (some 6) rfl rfl (by kernel_rfl) (by kernel_rfl) (by kernel_rfl) (fun _ _ _ h => h) (gRun rfl (.bool true) fun _ h => run_geqZ (.tmp 5) (.const (.int .i64 0)) rfl (k : Int) 0 rfl rfl true hge) hS ?_
      simp only [Act.put, aS, aC, aZ]
      refine takeH (i := 2) (some 7) rfl rfl (by kernel_rfl) (by kernel_rfl) (by kernel_rfl) (fun _ _ _ h => h) (gRun rfl (.bool true) fun _ h => run_mvZ (.tmp 6) rfl (.bool true) rfl) hS ?_
      simp only [Act.put, aS, aC, aZ]
      refine takeH (i := 3) (some 8) rfl rfl (by kernel_rfl) (by kernel_rfl) (by kernel_rfl) (fun _ _ _ h => h) (gRun (by kernel_rfl) (.int .i64 (k : Int)) fun _ h => run_mvZ (.tmp 1) rfl (.int .i64 (k : Int)) rfl) hS ?_
      simp only [Act.put, aS, aC, aZ]
      refine takeH (i := 4) (some 9) rfl rfl (by kernel_rfl) (by kernel_rfl) (by kernel_rfl) (fun _ _ _ h => h) (gRun (by kernel_rfl) (.bool true) fun _ h => run_lssZ (.tmp 8) (.const (.int .i64 384)) rfl (k : Int) 384 rfl rfl true hls) hS ?_
      simp only [Act.put, aS, aC, aZ]
      refine takeH (i := 5) (some 10) rfl rfl (by kernel_rfl) (by kernel_rfl) (by kernel_rfl) (fun _ _ _ h => h) (gRun rfl (.bool true) fun _ h => run_pickZ (.tmp 7) (.tmp 9) (.const (.bool false)) rfl true (.bool true) rfl rfl) hS ?_
      simp only [Act.put, aS, aC, aZ]
      refine takeH (i := 6) (some 11) rfl rfl (by kernel_rfl) (by kernel_rfl) (by kernel_rfl) (fun _ _ _ h => h) (gRun rfl (.bool true) fun _ h => run_mvZ (.tmp 10) rfl (.bool true) rfl) hS ?_
      simp only [Act.put, aS, aC, aZ]
      refine takeH (i := 7) (some 12) rfl rfl (by kernel_rfl) (by kernel_rfl) (by kernel_rfl) (fun _ _ _ h => h) (gRun (by kernel_rfl) (.int .i64 (k : Int)) fun _ h => run_mvZ (.tmp 1) rfl (.int .i64 (k : Int)) rfl) hS ?_
      simp only [Act.put, aS, aC, aZ]
      refine takeH (i := 8) (some 13) rfl rfl (by kernel_rfl) (by kernel_rfl) (by kernel_rfl) (fun _ _ _ h => h) (gRun (by kernel_rfl) (.int .i64 ((k / 8 : Nat) : Int)) fun _ h => run_quo8 (.tmp 12) rfl k (by omega) rfl) hS ?_
      simp only [Act.put, aS, aC, aZ]
      refine takeH (i := 9) (some 14) rfl rfl (by kernel_rfl) (by kernel_rfl) (by kernel_rfl) (fun _ _ _ h => h) (gRun (by kernel_rfl) (.pointer (some ⟨q, 0 + k / 8, none⟩)) fun _ h => run_ixA arr76 (.tmp 2) (.tmp 13) rfl q 0 (k / 8) rfl rfl (by omega)) hS ?_
      simp only [Act.put, aS, aC, aZ]
      refine takeH (i := 10) (some 15) rfl rfl (by kernel_rfl) (by kernel_rfl) (by kernel_rfl) (fun _ _ _ h => h) (gRun (by kernel_rfl) (.int .u8 (c : Nat)) fun _ h => run_load1 o5 (.tmp 14) rfl q (0 + k / 8) rfl (.int .u8 (c : Nat)) (by rw [Nat.zero_add]; exact rows_at h 0 rfl (k / 8) _ hcc)) hS ?_
      simp only [Act.put, aS, aC, aZ]
      refine takeH (i := 11) (some 16) rfl rfl (by kernel_rfl) (by kernel_rfl) (by kernel_rfl) (fun _ _ _ h => h) (gRun (by kernel_rfl) (.int .i64 (k : Int)) fun _ h => run_mvZ (.tmp 1) rfl (.int .i64 (k : Int)) rfl) hS ?_
      simp only [Act.put, aS, aC, aZ]
      refine oneH (i := 12) (by kernel_rfl) ?_
      refine opCallG (some 17) rfl rfl (by kernel_rfl) 73 _ (run_call eN73 [.tmp 16] _ rfl [(.int .i64 (k : Int))] rfl) ?_
      refine (bit_any _ k (by omega)).mono ?_
      rintro e w2 ⟨rfl, e2⟩
      refine ⟨_, rfl, ?_⟩
      subst e2
      refine ⟨hS, ?_⟩
      simp only [Act.put, aS, aC, aZ]
      refine takeH (i := 13) (some 18) rfl rfl (by kernel_rfl) (by kernel_rfl) (by kernel_rfl) (fun _ _ _ h => h) (gRun (by kernel_rfl) (.int .u8 ((c &&& 2 ^ (k % 8) : Nat) : Int)) fun _ h => run_u8and (.tmp 15) (.tmp 17) rfl c (k % 8) hc (by omega) rfl rfl) hS ?_
      simp only [Act.put, aS, aC, aZ]
      refine takeH (i := 14) (some 19) rfl rfl (by kernel_rfl) (by kernel_rfl) (by kernel_rfl) (fun _ _ _ h => h) (gRun (by kernel_rfl) (.bool b) fun _ h => run_u8ne0 (.tmp 18) rfl (c &&& 2 ^ (k % 8)) rfl b hb) hS ?_
      simp only [Act.put, aS, aC, aZ]
      refine takeH (i := 15) (some 20) rfl rfl (by kernel_rfl) (by kernel_rfl) (by kernel_rfl) (fun _ _ _ h => h) (gRun rfl (.bool b) fun _ h => run_pickZ (.tmp 11) (.tmp 19) (.const (.bool false)) rfl true (.bool b) rfl rfl) hS ?_
      simp only [Act.put, aS, aC, aZ]
      refine takeH (i := 16) (some 4) rfl rfl (by kernel_rfl) (by kernel_rfl) (by kernel_rfl) (fun _ _ _ h => h) (gRun rfl (.bool b) fun _ h => run_asZ (.tmp 20) rfl (.bool b) rfl) hS ?_
      simp only [Act.put, aS, aC, aZ]
      refine wpAnyH_done (by kernel_rfl) ?_ _
      rw [hbd]
      go_wp2_with fail
      go_ret
      exact ⟨rfl, hS.below⟩
    · have hge : decide ((0 : Int) ≤ p) = true := decide_eq_true h0
      have hls : decide (p < 384) = false := decide_eq_false h1
      have er : r = false := by rw [HR.out]; unfold hasP; rw [hls]; simp
      subst er
      go_upto_region 1 with fail
      refine wp_region_held (S := fun X => Loc w X [(q, 76, bcells u)]) (by kernel_rfl) ?_
      show wpAnyH _ _ _ _ _ 17 (Array.replicate 17 false) _ _
      obtain ⟨X, hX⟩ : ∃ X : World, X = { w1 with drawn := w1.drawn + 1 } := ⟨_, rfl⟩
      rw [← hX]
      have hS : Loc w X [(q, 76, bcells u)] := by rw [hX]; exact R1.out.drew
      clear R1
      clear hX
      refine takeH (i := 0) (some 5) rfl rfl (by kernel_rfl) (by kernel_rfl) (by kernel_rfl) (fun _ _ _ h => h) (gRun rfl (.int .i64 p) fun _ h => run_mvZ (.tmp 1) rfl (.int .i64 p) rfl) hS ?_
      simp only [Act.put, aS, aC, aZ]
      refine takeH (i := 1) (some 6) rfl rfl (by kernel_rfl) (by kernel_rfl) (by kernel_rfl) (fun _ _ _ h => h) (gRun rfl (.bool true) fun _ h => run_geqZ (.tmp 5) (.const (.int .i64 0)) rfl p 0 rfl rfl true hge) hS ?_
      simp only [Act.put, aS, aC, aZ]
      refine takeH (i := 2) (some 7) rfl rfl (by kernel_rfl) (by kernel_rfl) (by kernel_rfl) (fun _ _ _ h => h) (gRun rfl (.bool true) fun _ h => run_mvZ (.tmp 6) rfl (.bool true) rfl) hS ?_
      simp only [Act.put, aS, aC, aZ]
      refine takeH (i := 3) (some 8) rfl rfl (by kernel_rfl) (by kernel_rfl) (by kernel_rfl) (fun _ _ _ h => h) (gRun (by kernel_rfl) (.int .i64 p) fun _ h => run_mvZ (.tmp 1) rfl (.int .i64 p) rfl) hS ?_
      simp only [Act.put, aS, aC, aZ]
      refine takeH (i := 4) (some 9) rfl rfl (by kernel_rfl) (by kernel_rfl) (by kernel_rfl) (fun _ _ _ h => h) (gRun (by kernel_rfl) (.bool false) fun _ h => run_lssZ (.tmp 8) (.const (.int .i64 384)) rfl p 384 rfl rfl false hls) hS ?_
      simp only [Act.put, aS, aC, aZ]
      refine takeH (i := 5) (some 10) rfl rfl (by kernel_rfl) (by kernel_rfl) (by kernel_rfl) (fun _ _ _ h => h) (gRun rfl (.bool false) fun _ h => run_pickZ (.tmp 7) (.tmp 9) (.const (.bool false)) rfl true (.bool false) rfl rfl) hS ?_
      simp only [Act.put, aS, aC, aZ]
      refine takeH (i := 6) (some 11) rfl rfl (by kernel_rfl) (by kernel_rfl) (by kernel_rfl) (fun _ _ _ h => h) (gRun rfl (.bool false) fun _ h => run_mvZ (.tmp 10) rfl (.bool false) rfl) hS ?_
      simp only [Act.put, aS, aC, aZ]
      refine takeH (i := 7) (some 12) rfl rfl (by kernel_rfl) (by kernel_rfl) (by kernel_rfl) (fun _ _ _ h => h) (Or.inr ⟨by kernel_rfl, rfl⟩) hS ?_
      simp only [Act.put, aS, aC, aZ]
      refine takeH (i := 8) (some 13) rfl rfl (by kernel_rfl) (by kernel_rfl) (by kernel_rfl) (fun _ _ _ h => h) (Or.inr ⟨by kernel_rfl, rfl⟩) hS ?_
      simp only [Act.put, aS, aC, aZ]
      refine takeH (i := 9) (some 14) rfl rfl (by kernel_rfl) (by kernel_rfl) (by kernel_rfl) (fun _ _ _ h => h) (Or.inr ⟨by kernel_rfl, rfl⟩) hS ?_
      simp only [Act.put, aS, aC, aZ]
      refine takeH (i := 10) (some 15) rfl rfl (by kernel_rfl) (by kernel_rfl) (by kernel_rfl) (fun _ _ _ h => h) (Or.inr ⟨by kernel_rfl, rfl⟩) hS ?_
      simp only [Act.put, aS, aC, aZ]
      refine takeH (i := 11) (some 16) rfl rfl (by kernel_rfl) (by kernel_rfl) (by kernel_rfl) (fun _ _ _ h => h) (Or.inr ⟨by kernel_rfl, rfl⟩) hS ?_
      simp only [Act.put, aS, aC, aZ]
      refine takeH (i := 12) (some 17) rfl rfl (by kernel_rfl) (by kernel_rfl) (by kernel_rfl) (fun _ _ _ h => h) (Or.inr ⟨by kernel_rfl, rfl⟩) hS ?_
      simp only [Act.put, aS, aC, aZ]
      refine takeH (i := 13) (some 18) rfl rfl (by kernel_rfl) (by kernel_rfl) (by kernel_rfl) (fun _ _ _ h => h) (Or.inr ⟨by kernel_rfl, rfl⟩) hS ?_
      simp only [Act.put, aS, aC, aZ]
      refine takeH (i := 14) (some 19) rfl rfl (by kernel_rfl) (by kernel_rfl) (by kernel_rfl) (fun _ _ _ h => h) (Or.inr ⟨by kernel_rfl, rfl⟩) hS ?_
      simp only [Act.put, aS, aC, aZ]
      refine takeH (i := 15) (some 20) rfl rfl (by kernel_rfl) (by kernel_rfl) (by kernel_rfl) (fun _ _ _ h => h) (gRun rfl (.bool false) fun _ h => run_pickZ (.tmp 11) (.tmp 19) (.const (.bool false)) rfl false (.bool false) rfl rfl) hS ?_
      simp only [Act.put, aS, aC, aZ]
      refine takeH (i := 16) (some 4) rfl rfl (by kernel_rfl) (by kernel_rfl) (by kernel_rfl) (fun _ _ _ h => h) (gRun rfl (.bool false) fun _ h => run_asZ (.tmp 20) rfl (.bool false) rfl) hS ?_
      simp only [Act.put, aS, aC, aZ]
      refine wpAnyH_done (by kernel_rfl) ?_ _
      go_wp2_with fail
      go_ret
      exact ⟨rfl, hS.below⟩
  · have hge : decide ((0 : Int) ≤ p) = false := decide_eq_false h0
    have er : r = false := by rw [HR.out]; unfold hasP; rw [hge]; simp
    subst er
    go_upto_region 1 with fail
    refine wp_region_held (S := fun X => Loc w X [(q, 76, bcells u)]) (by kernel_rfl) ?_
    show wpAnyH _ _ _ _ _ 17 (Array.replicate 17 false) _ _
    obtain ⟨X, hX⟩ : ∃ X : World, X = { w1 with drawn := w1.drawn + 1 } := ⟨_, rfl⟩
    rw [← hX]
    have hS : Loc w X [(q, 76, bcells u)] := by rw [hX]; exact R1.out.drew
    clear R1
    clear hX
    refine takeH (i := 0) (some 5) rfl rfl (by kernel_rfl) (by kernel_rfl) (by kernel_rfl) (fun _ _ _ h => h) (gRun rfl (.int .i64 p) fun _ h => run_mvZ (.tmp 1) rfl (.int .i64 p) rfl) hS ?_
    simp only [Act.put, aS, aC, aZ]
    refine takeH (i := 1) (some 6) rfl rfl (by kernel_rfl) (by kernel_rfl) (by kernel_rfl) (fun _ _ _ h => h) (gRun rfl (.bool false) fun _ h => run_geqZ (.tmp 5) (.const (.int .i64 0)) rfl p 0 rfl rfl false hge) hS ?_
    simp only [Act.put, aS, aC, aZ]
    refine takeH (i := 2) (some 7) rfl rfl (by kernel_rfl) (by kernel_rfl) (by kernel_rfl) (fun _ _ _ h => h) (gRun rfl (.bool false) fun _ h => run_mvZ (.tmp 6) rfl (.bool false) rfl) hS ?_
    simp only [Act.put, aS, aC, aZ]
    refine takeH (i := 3) (some 8) rfl rfl (by kernel_rfl) (by kernel_rfl) (by kernel_rfl) (fun _ _ _ h => h) (Or.inr ⟨by kernel_rfl, rfl⟩) hS ?_
    simp only [Act.put, aS, aC, aZ]
    refine takeH (i := 4) (some 9) rfl rfl (by kernel_rfl) (by kernel_rfl) (by kernel_rfl) (fun _ _ _ h => h) (Or.inr ⟨by kernel_rfl, rfl⟩) hS ?_
    simp only [Act.put, aS, aC, aZ]
    refine takeH (i := 5) (some 10) rfl rfl (by kernel_rfl) (by kernel_rfl) (by kernel_rfl) (fun _ _ _ h => h) (gRun rfl (.bool false) fun _ h => run_pickZ (.tmp 7) (.tmp 9) (.const (.bool false)) rfl false (.bool false) rfl rfl) hS ?_
    simp only [Act.put, aS, aC, aZ]
    refine takeH (i := 6) (some 11) rfl rfl (by kernel_rfl) (by kernel_rfl) (by kernel_rfl) (fun _ _ _ h => h) (gRun rfl (.bool false) fun _ h => run_mvZ (.tmp 10) rfl (.bool false) rfl) hS ?_
    simp only [Act.put, aS, aC, aZ]
    refine takeH (i := 7) (some 12) rfl rfl (by kernel_rfl) (by kernel_rfl) (by kernel_rfl) (fun _ _ _ h => h) (Or.inr ⟨by kernel_rfl, rfl⟩) hS ?_
    simp only [Act.put, aS, aC, aZ]
    refine takeH (i := 8) (some 13) rfl rfl (by kernel_rfl) (by kernel_rfl) (by kernel_rfl) (fun _ _ _ h => h) (Or.inr ⟨by kernel_rfl, rfl⟩) hS ?_
    simp only [Act.put, aS, aC, aZ]
    refine takeH (i := 9) (some 14) rfl rfl (by kernel_rfl) (by kernel_rfl) (by kernel_rfl) (fun _ _ _ h => h) (Or.inr ⟨by kernel_rfl, rfl⟩) hS ?_
    simp only [Act.put, aS, aC, aZ]
    refine takeH (i := 10) (some 15) rfl rfl (by kernel_rfl) (by kernel_rfl) (by kernel_rfl) (fun _ _ _ h => h) (Or.inr ⟨by kernel_rfl, rfl⟩) hS ?_
    simp only [Act.put, aS, aC, aZ]
    refine takeH (i := 11) (some 16) rfl rfl (by kernel_rfl) (by kernel_rfl) (by kernel_rfl) (fun _ _ _ h => h) (Or.inr ⟨by kernel_rfl, rfl⟩) hS ?_
    simp only [Act.put, aS, aC, aZ]
    refine takeH (i := 12) (some 17) rfl rfl (by kernel_rfl) (by kernel_rfl) (by kernel_rfl) (fun _ _ _ h => h) (Or.inr ⟨by kernel_rfl, rfl⟩) hS ?_
    simp only [Act.put, aS, aC, aZ]
    refine takeH (i := 13) (some 18) rfl rfl (by kernel_rfl) (by kernel_rfl) (by kernel_rfl) (fun _ _ _ h => h) (Or.inr ⟨by kernel_rfl, rfl⟩) hS ?_
    simp only [Act.put, aS, aC, aZ]
    refine takeH (i := 14) (some 19) rfl rfl (by kernel_rfl) (by kernel_rfl) (by kernel_rfl) (fun _ _ _ h => h) (Or.inr ⟨by kernel_rfl, rfl⟩) hS ?_
    simp only [Act.put, aS, aC, aZ]
    refine takeH (i := 15) (some 20) rfl rfl (by kernel_rfl) (by kernel_rfl) (by kernel_rfl) (fun _ _ _ h => h) (gRun rfl (.bool false) fun _ h => run_pickZ (.tmp 11) (.tmp 19) (.const (.bool false)) rfl false (.bool false) rfl rfl) hS ?_
    simp only [Act.put, aS, aC, aZ]
    refine takeH (i := 16) (some 4) rfl rfl (by kernel_rfl) (by kernel_rfl) (by kernel_rfl) (fun _ _ _ h => h) (gRun rfl (.bool false) fun _ h => run_asZ (.tmp 20) rfl (.bool false) rfl) hS ?_
    simp only [Act.put, aS, aC, aZ]
    refine wpAnyH_done (by kernel_rfl) ?_ _
    go_wp2_with fail
    go_ret
    exact ⟨rfl, hS.below⟩
set_option maxHeartbeats 4000000 in
set_option maxRecDepth 100000 in
theorem with_any (w : World) (u : List Nat) (hu : USet u) (k : Nat) (hk : k < 384) : Calls Tryd.prog 44 #[.agg (bcells u).toArray, .int .i64 (k : Nat)] w fun e w' => e = .returned (.agg (bcells (withP u k)).toArray) ∧ Below w.heap.size w w' := by
  have HU : Hid (USet u) := hu
  obtain ⟨z, hz⟩ : ∃ z, z = withP u k := ⟨_, rfl⟩
  have HZ : Hid (z = withP u k) := hz
  rw [← hz]
  clear hz hu
  go_enter Tryd.func44, Tryd.ntmps44
  go_upto_region 0 with fail
  refine wp_region_lit ?_
  refine wpList_box (.tmp 0) rfl rfl (bcells u) rfl ?_
  intro w1 r1 _ b1
  obtain ⟨q, hq⟩ : ∃ q, q = w.heap.size := ⟨_, rfl⟩
  have R1 : Hid (Loc w w1 [(q, 76, bcells u)]) := by rw [hq]; exact (Loc.nil (Below.refl _ w)).add r1 (Nat.le_refl _) b1
  rw [← hq]
  clear r1 b1 hq
  simp only [Act.put, aS, aC, aZ]
  refine wpList_alloc' (zerosU8 48) zero76 rfl rfl ?_
  intro w2 r2 _ b2
  obtain ⟨q2, hq2⟩ : ∃ q2, q2 = w1.heap.size := ⟨_, rfl⟩
  have R2 : Hid (Loc w w2 [(q, 76, bcells u), (q2, 76, zerosU8 48)]) := by rw [hq2]; exact R1.out.add r2 (Nat.le_refl _) b2
  rw [← hq2]
  clear r2 b2 hq2 R1
  simp only [Act.put, aS, aC, aZ]
  refine wpList_nil ?_
  obtain ⟨c, hcd⟩ : ∃ c, c = u.getD (k / 8) 0 := ⟨_, rfl⟩
  have hc : c < 256 := by rw [hcd]; exact uget_lt HU.out _
  have hl48 : k / 8 < u.length := by have := HU.out.1; omega
  have hcc : (bcells u)[k / 8]? = some (.int .u8 (c : Nat)) := by rw [hcd]; exact bat hl48
  go_upto_region 1 with fail
  refine wp_region_until (S := fun X => Loc w X [(q, 76, bcells u), (q2, 76, zerosU8 48)]) 8 (by kernel_rfl) ?_
  show wpAnyU _ _ _ _ _ _ 9 (Array.replicate 9 false) _ _
  obtain ⟨X, hX⟩ : ∃ X : World, X = { w2 with drawn := w2.drawn + 1 } := ⟨_, rfl⟩
  rw [← hX]
  have hS : Loc w X [(q, 76, bcells u), (q2, 76, zerosU8 48)] := by rw [hX]; exact R2.out.drew
  clear R2
  clear hX
  refine takeV (i := 0) [8] (some 5) rfl rfl (by kernel_rfl) (by kernel_rfl) (by kernel_rfl) (by kernel_rfl) (fun _ _ _ h => h) (gRun rfl (.int .i64 (k : Nat)) fun _ h => run_mvZ (.tmp 1) rfl (.int .i64 (k : Nat)) rfl) hS ?_
  simp only [Act.put, aS, aC, aZ]
  refine takeV (i := 1) [8] (some 6) rfl rfl (by kernel_rfl) (by kernel_rfl) (by kernel_rfl) (by kernel_rfl) (fun _ _ _ h => h) (gRun rfl (.int .i64 ((k / 8 : Nat) : Int)) fun _ h => run_quo8 (.tmp 5) rfl k (by omega) rfl) hS ?_
  simp only [Act.put, aS, aC, aZ]
  refine takeV (i := 2) [8] (some 7) rfl rfl (by kernel_rfl) (by kernel_rfl) (by kernel_rfl) (by kernel_rfl) (fun _ _ _ h => h) (gRun rfl (.pointer (some ⟨q, 0 + k / 8, none⟩)) fun _ h => run_ixA arr76 (.tmp 2) (.tmp 6) rfl q 0 (k / 8) rfl rfl (by omega)) hS ?_
  simp only [Act.put, aS, aC, aZ]
  refine takeV (i := 3) [8] (some 8) rfl rfl (by kernel_rfl) (by kernel_rfl) (by kernel_rfl) (by kernel_rfl) (fun _ _ _ h => h) (gRun rfl (.int .u8 (c : Nat)) fun _ h => run_load1 o5 (.tmp 7) rfl q (0 + k / 8) rfl (.int .u8 (c : Nat)) (by rw [Nat.zero_add]; exact rows_at h 0 rfl (k / 8) _ hcc)) hS ?_
  simp only [Act.put, aS, aC, aZ]
  refine takeV (i := 4) [8] (some 9) rfl rfl (by kernel_rfl) (by kernel_rfl) (by kernel_rfl) (by kernel_rfl) (fun _ _ _ h => h) (gRun rfl (.int .i64 (k : Nat)) fun _ h => run_mvZ (.tmp 1) rfl (.int .i64 (k : Nat)) rfl) hS ?_
  simp only [Act.put, aS, aC, aZ]
  refine oneU (i := 5) (by kernel_rfl) ?_
  refine opCallG (some 10) rfl rfl rfl 73 _ (run_call eN73 [.tmp 9] _ rfl [(.int .i64 (k : Nat))] rfl) ?_
  refine (bit_any _ k (by omega)).mono ?_
  rintro e w3 ⟨rfl, e3⟩
  refine ⟨_, rfl, ?_⟩
  subst e3
  refine ⟨fun _ => hS, ?_⟩
  simp only [Act.put, aS, aC, aZ]
  refine takeV (i := 6) [8] (some 11) rfl rfl (by kernel_rfl) (by kernel_rfl) (by kernel_rfl) (by kernel_rfl) (fun _ _ _ h => h) (gRun rfl (.int .u8 ((c ||| 2 ^ (k % 8) : Nat) : Int)) fun _ h => run_u8or (.tmp 8) (.tmp 10) rfl c (k % 8) hc (by omega) rfl rfl) hS ?_
  simp only [Act.put, aS, aC, aZ]
  refine takeV (i := 7) [8] (some 12) rfl rfl (by kernel_rfl) (by kernel_rfl) (by kernel_rfl) (by kernel_rfl) (fun _ _ _ h => h) (gRun rfl (.pointer (some ⟨q, 0 + k / 8, none⟩)) fun _ h => run_ixA arr76 (.tmp 2) (.tmp 6) rfl q 0 (k / 8) rfl rfl (by omega)) hS ?_
  simp only [Act.put, aS, aC, aZ]
  refine oneU (i := 8) (by kernel_rfl) ?_
  refine opSkipZ rfl rfl rfl _ (run_put1 size5' (.tmp 12) (.tmp 11) rfl hS 0 rfl (0 + k / 8) rfl (.int .u8 ((c ||| 2 ^ (k % 8) : Nat) : Int)) rfl ⟨rfl, rfl⟩ (by rw [bcells_length]; omega)).1 ?_
  refine ⟨fun h => absurd (show true = false from h) (by decide), ?_⟩
  refine wpAnyU_done (by kernel_rfl) ?_ _
  have k2 := hS.put 0 rfl (0 + k / 8) (.int .u8 ((c ||| 2 ^ (k % 8) : Nat) : Int))
  rw [bcells_set, Nat.zero_add] at k2
  have ez : u.set (k / 8) (c ||| 2 ^ (k % 8)) = z := by rw [HZ.out, hcd]; rfl
  rw [ez] at k2
  obtain ⟨w4, hw4⟩ : ∃ w4, w4 = X.setCell ⟨q, 0 + k / 8, none⟩ (.int .u8 ((c ||| 2 ^ (k % 8) : Nat) : Int)) := ⟨_, rfl⟩
  rw [Nat.zero_add] at hw4
  try rw [Nat.zero_add]
  rw [← hw4] at k2 ⊢
  have R4 : Hid (Loc w w4 [(q, 76, bcells z), (q2, 76, zerosU8 48)]) := k2
  have hzl : z.length = 48 := by rw [HZ.out]; exact (uset_with HU.out k).1
  clear k2 hw4 ez hS hcc hcd
  go_upto_region 2 with fail
  refine wp_region_lit ?_
  refine wl_ldA ag76 (.tmp 2) rfl rfl q 0 rfl (bcells z) (by rw [bcells_length]; exact hzl) (rows_all R4.out 0 rfl) ?_
  simp only [Act.put, aS, aC, aZ]
  refine wlS rfl rfl _ (run_storeL ag76 (.tmp 4) (.tmp 13) rfl R4.out 1 rfl 0 rfl (bcells z) rfl (by rw [bcells_length]; exact hzl) (by rw [bcells_length]; simp [zerosU8, hzl]) (bcells_one z)).1 ?_
  have k2 := R4.out.lay 1 rfl 0 (bcells z)
  rw [splice_all _ _ (by rw [bcells_length]; simp [zerosU8, hzl])] at k2 ⊢
  refine wpList_nil ?_
  have R5 : Hid (Loc w _ [(q, 76, bcells z), (q2, 76, bcells z)]) := k2
  clear k2 R4
  go_wp2_with fail
  exact bodyPost_ret (results_cell ag76 Tryd.results44 _ _ q2 76 rfl (bcells z) (by rw [bcells_length]; exact hzl) (R5.out.at 1 rfl)) rfl ⟨rfl, R5.out.below⟩
set_option maxHeartbeats 4000000 in
set_option maxRecDepth 100000 in
theorem without_any (w : World) (u : List Nat) (hu : USet u) (k : Nat) (hk : k < 384) : Calls Tryd.prog 46 #[.agg (bcells u).toArray, .int .i64 (k : Nat)] w fun e w' => e = .returned (.agg (bcells (lessP u k)).toArray) ∧ Below w.heap.size w w' := by
  have HU : Hid (USet u) := hu
  obtain ⟨z, hz⟩ : ∃ z, z = lessP u k := ⟨_, rfl⟩
  have HZ : Hid (z = lessP u k) := hz
  rw [← hz]
  clear hz hu
  go_enter Tryd.func46, Tryd.ntmps46
  go_upto_region 0 with fail
  refine wp_region_lit ?_
  refine wpList_box (.tmp 0) rfl rfl (bcells u) rfl ?_
  intro w1 r1 _ b1
  obtain ⟨q, hq⟩ : ∃ q, q = w.heap.size := ⟨_, rfl⟩
  have R1 : Hid (Loc w w1 [(q, 76, bcells u)]) := by rw [hq]; exact (Loc.nil (Below.refl _ w)).add r1 (Nat.le_refl _) b1
  rw [← hq]
  clear r1 b1 hq
  simp only [Act.put, aS, aC, aZ]
  refine wpList_alloc' (zerosU8 48) zero76 rfl rfl ?_
  intro w2 r2 _ b2
  obtain ⟨q2, hq2⟩ : ∃ q2, q2 = w1.heap.size := ⟨_, rfl⟩
  have R2 : Hid (Loc w w2 [(q, 76, bcells u), (q2, 76, zerosU8 48)]) := by rw [hq2]; exact R1.out.add r2 (Nat.le_refl _) b2
  rw [← hq2]
  clear r2 b2 hq2 R1
  simp only [Act.put, aS, aC, aZ]
  refine wpList_nil ?_
  obtain ⟨c, hcd⟩ : ∃ c, c = u.getD (k / 8) 0 := ⟨_, rfl⟩
  have hc : c < 256 := by rw [hcd]; exact uget_lt HU.out _
  have hl48 : k / 8 < u.length := by have := HU.out.1; omega
  have hcc : (bcells u)[k / 8]? = some (.int .u8 (c : Nat)) := by rw [hcd]; exact bat hl48
  go_upto_region 1 with fail
  refine wp_region_until (S := fun X => Loc w X [(q, 76, bcells u), (q2, 76, zerosU8 48)]) 8 (by kernel_rfl) ?_
  show wpAnyU _ _ _ _ _ _ 9 (Array.replicate 9 false) _ _
  obtain ⟨X, hX⟩ : ∃ X : World, X = { w2 with drawn := w2.drawn + 1 } := ⟨_, rfl⟩
  rw [← hX]
  have hS : Loc w X [(q, 76, bcells u), (q2, 76, zerosU8 48)] := by rw [hX]; exact R2.out.drew
  clear R2
  clear hX
  refine takeV (i := 0) [8] (some 5) rfl rfl (by kernel_rfl) (by kernel_rfl) (by kernel_rfl) (by kernel_rfl) (fun _ _ _ h => h) (gRun rfl (.int .i64 (k : Nat)) fun _ h => run_mvZ (.tmp 1) rfl (.int .i64 (k : Nat)) rfl) hS ?_
  simp only [Act.put, aS, aC, aZ]
  refine takeV (i := 1) [8] (some 6) rfl rfl (by kernel_rfl) (by kernel_rfl) (by kernel_rfl) (by kernel_rfl) (fun _ _ _ h => h) (gRun rfl (.int .i64 ((k / 8 : Nat) : Int)) fun _ h => run_quo8 (.tmp 5) rfl k (by omega) rfl) hS ?_
  simp only [Act.put, aS, aC, aZ]
  refine takeV (i := 2) [8] (some 7) rfl rfl (by kernel_rfl) (by kernel_rfl) (by kernel_rfl) (by kernel_rfl) (fun _ _ _ h => h) (gRun rfl (.pointer (some ⟨q, 0 + k / 8, none⟩)) fun _ h => run_ixA arr76 (.tmp 2) (.tmp 6) rfl q 0 (k / 8) rfl rfl (by omega)) hS ?_
  simp only [Act.put, aS, aC, aZ]
  refine takeV (i := 3) [8] (some 8) rfl rfl (by kernel_rfl) (by kernel_rfl) (by kernel_rfl) (by kernel_rfl) (fun _ _ _ h => h) (gRun rfl (.int .u8 (c : Nat)) fun _ h => run_load1 o5 (.tmp 7) rfl q (0 + k / 8) rfl (.int .u8 (c : Nat)) (by rw [Nat.zero_add]; exact rows_at h 0 rfl (k / 8) _ hcc)) hS ?_
  simp only [Act.put, aS, aC, aZ]
  refine takeV (i := 4) [8] (some 9) rfl rfl (by kernel_rfl) (by kernel_rfl) (by kernel_rfl) (by kernel_rfl) (fun _ _ _ h => h) (gRun rfl (.int .i64 (k : Nat)) fun _ h => run_mvZ (.tmp 1) rfl (.int .i64 (k : Nat)) rfl) hS ?_
  simp only [Act.put, aS, aC, aZ]
  refine oneU (i := 5) (by kernel_rfl) ?_
  refine opCallG (some 10) rfl rfl rfl 73 _ (run_call eN73 [.tmp 9] _ rfl [(.int .i64 (k : Nat))] rfl) ?_
  refine (bit_any _ k (by omega)).mono ?_
  rintro e w3 ⟨rfl, e3⟩
  refine ⟨_, rfl, ?_⟩
  subst e3
  refine ⟨fun _ => hS, ?_⟩
  simp only [Act.put, aS, aC, aZ]
  refine takeV (i := 6) [8] (some 11) rfl rfl (by kernel_rfl) (by kernel_rfl) (by kernel_rfl) (by kernel_rfl) (fun _ _ _ h => h) (gRun rfl (.int .u8 ((c &&& (255 ^^^ 2 ^ (k % 8)) : Nat) : Int)) fun _ h => run_u8less (.tmp 8) (.tmp 10) rfl c (k % 8) hc (by omega) rfl rfl) hS ?_
  simp only [Act.put, aS, aC, aZ]
  refine takeV (i := 7) [8] (some 12) rfl rfl (by kernel_rfl) (by kernel_rfl) (by kernel_rfl) (by kernel_rfl) (fun _ _ _ h => h) (gRun rfl (.pointer (some ⟨q, 0 + k / 8, none⟩)) fun _ h => run_ixA arr76 (.tmp 2) (.tmp 6) rfl q 0 (k / 8) rfl rfl (by omega)) hS ?_
  simp only [Act.put, aS, aC, aZ]
  refine oneU (i := 8) (by kernel_rfl) ?_
  refine opSkipZ rfl rfl rfl _ (run_put1 size5' (.tmp 12) (.tmp 11) rfl hS 0 rfl (0 + k / 8) rfl (.int .u8 ((c &&& (255 ^^^ 2 ^ (k % 8)) : Nat) : Int)) rfl ⟨rfl, rfl⟩ (by rw [bcells_length]; omega)).1 ?_
  refine ⟨fun h => absurd (show true = false from h) (by decide), ?_⟩
  refine wpAnyU_done (by kernel_rfl) ?_ _
  have k2 := hS.put 0 rfl (0 + k / 8) (.int .u8 ((c &&& (255 ^^^ 2 ^ (k % 8)) : Nat) : Int))
  rw [bcells_set, Nat.zero_add] at k2
  have ez : u.set (k / 8) (c &&& (255 ^^^ 2 ^ (k % 8))) = z := by rw [HZ.out, hcd]; rfl
  rw [ez] at k2
  obtain ⟨w4, hw4⟩ : ∃ w4, w4 = X.setCell ⟨q, 0 + k / 8, none⟩ (.int .u8 ((c &&& (255 ^^^ 2 ^ (k % 8)) : Nat) : Int)) := ⟨_, rfl⟩
  rw [Nat.zero_add] at hw4
  try rw [Nat.zero_add]
  rw [← hw4] at k2 ⊢
  have R4 : Hid (Loc w w4 [(q, 76, bcells z), (q2, 76, zerosU8 48)]) := k2
  have hzl : z.length = 48 := by rw [HZ.out]; exact (uset_less HU.out k).1
  clear k2 hw4 ez hS hcc hcd
  go_upto_region 2 with fail
  refine wp_region_lit ?_
  refine wl_ldA ag76 (.tmp 2) rfl rfl q 0 rfl (bcells z) (by rw [bcells_length]; exact hzl) (rows_all R4.out 0 rfl) ?_
  simp only [Act.put, aS, aC, aZ]
  refine wlS rfl rfl _ (run_storeL ag76 (.tmp 4) (.tmp 13) rfl R4.out 1 rfl 0 rfl (bcells z) rfl (by rw [bcells_length]; exact hzl) (by rw [bcells_length]; simp [zerosU8, hzl]) (bcells_one z)).1 ?_
  have k2 := R4.out.lay 1 rfl 0 (bcells z)
  rw [splice_all _ _ (by rw [bcells_length]; simp [zerosU8, hzl])] at k2 ⊢
  refine wpList_nil ?_
  have R5 : Hid (Loc w _ [(q, 76, bcells z), (q2, 76, bcells z)]) := k2
  clear k2 R4
  go_wp2_with fail
  exact bodyPost_ret (results_cell ag76 Tryd.results46 _ _ q2 76 rfl (bcells z) (by rw [bcells_length]; exact hzl) (R5.out.at 1 rfl)) rfl ⟨rfl, R5.out.below⟩
end Go.Proofs.YtkpnflgnhhfjoaaDoor

/- Maps from places to a kind of elements, as functions: a map[int]sector, a map[int]int. -/
import Derived.Test.YtgkmegcejekbcaaMem
import Derived.Maps.OwnSet
import Derived.Maps.Range
namespace Go.Proofs.Ytgkmegcejekbcaa
open Go.RowKit Go.Maps Go.MapKept

/-- bytes as cells -/
def bcells (cs : List Nat) : List Value := cs.map fun c => Value.int .u8 (c : Nat)
theorem bcells_length (cs : List Nat) : (bcells cs).length = cs.length := by simp [bcells]
theorem bcells_append (a b : List Nat) : bcells (a ++ b) = bcells a ++ bcells b := by simp [bcells]
theorem bcells_one (cs : List Nat) : ∀ v ∈ bcells cs, v.oneCell' = true := by
  intro v hv
  obtain ⟨c, _, rfl⟩ := List.mem_map.1 hv
  rfl
theorem bcells_at (cs : List Nat) (i : Nat) (h : i < cs.length) : (bcells cs)[i]? = some (.int .u8 (cs.getD i 0 : Nat)) := by simp [bcells, h]
theorem bcells_inj {a b : List Nat} (h : bcells a = bcells b) : a = b := by
  have : Function.Injective (fun c : Nat => Value.int .u8 (c : Int)) := by
    intro x y hxy
    simp only [Value.int.injEq, true_and] at hxy
    omega
  exact List.map_inj_right (f := fun c : Nat => Value.int .u8 (c : Int)) (fun x y hxy => this hxy) |>.1 h

/-- a kind of elements -/
structure Elem (α : Type) where
  R : Value → Option (DataW Unit × List MemPlace)
  enc : α → Value
  dat : α → DataW Unit
  ok : α → Prop
  read : ∀ a, ok a → R (enc a) = some (dat a, [])
  inv : ∀ v d ps, R v = some (d, ps) → ∃ a, ok a ∧ v = enc a ∧ d = dat a
  inj : ∀ a b, ok a → ok b → dat a = dat b → a = b

/-- a sector's bytes -/
def Sec (s : List Nat) : Prop := s.length = 64 ∧ ∀ c ∈ s, c < 256
def secV (s : List Nat) : Value := .agg (bcells s).toArray
def secD (s : List Nat) : DataW Unit := .agg (s.map fun c : Nat => .lit (.int .u8 (c : Int)))
theorem secV_inj {a b : List Nat} (h : secV a = secV b) : a = b := by
  unfold secV at h
  simp only [Value.agg.injEq] at h
  exact bcells_inj (by simpa using h)
theorem secD_inj {a b : List Nat} (h : secD a = secD b) : a = b := by
  unfold secD at h
  simp only [DataW.agg.injEq] at h
  exact (List.map_inj_right (f := fun c : Nat => DataW.lit (H := Unit) (.int .u8 (c : Int))) (fun x y hxy => by simp at hxy; omega)).1 h
open Classical in
noncomputable def secR (v : Value) : Option (DataW Unit × List MemPlace) := if h : ∃ s, Sec s ∧ v = secV s then some (secD h.choose, []) else none
theorem secR_of {s : List Nat} (h : Sec s) : secR (secV s) = some (secD s, []) := by
  have hx : ∃ s', Sec s' ∧ secV s = secV s' := ⟨s, h, rfl⟩
  unfold secR
  rw [dif_pos hx, ← secV_inj hx.choose_spec.2]
noncomputable def secs : Elem (List Nat) where
  R := secR
  enc := secV
  dat := secD
  ok := Sec
  read := fun _ h => secR_of h
  inv := fun v d ps h => by
    unfold secR at h
    split at h
    · rename_i hx
      simp only [Option.some.injEq, Prod.mk.injEq] at h
      exact ⟨hx.choose, hx.choose_spec.1, hx.choose_spec.2, h.1.symm⟩
    · cases h
  inj := fun _ _ _ _ h => secD_inj h
noncomputable def ints : Elem Int where
  R := plainElem Try.prog 3
  enc := fun a => .int .i64 a
  dat := fun a => .lit (.int .i64 a)
  ok := fun a => (Lit.int .i64 a).wf = true
  read := fun _ h => plainElem_int Try.underlying3 h
  inv := fun v d ps h => by
    obtain ⟨a, rfl, hz, hw⟩ := plainElem_int_inv Try.underlying3 h
    simp only [Prod.mk.injEq] at hz
    exact ⟨a, hw, rfl, hz.1⟩
  inj := fun a b _ _ h => by simpa using h

def key (p : Nat) : Lit := .int .i64 (p : Int)
theorem key_inj {p q : Nat} (h : key p = key q) : p = q := by
  unfold key at h
  simp only [Lit.int.injEq, true_and] at h
  omega
theorem key_ne {p q : Nat} (h : p ≠ q) : key p ≠ key q := fun e => h (key_inj e)
theorem wf_nat (p : Nat) (h : p < 4611686018427387904) : (Lit.int .i64 (p : Int)).wf = true := WalkArith.wf_i64 (by omega)
theorem law3 : Keyed Try.prog 3 := int_keyed Try.underlying3
theorem keyOf_key (p : Nat) (h : p < 4611686018427387904) : keyOf Try.prog 3 (.int .i64 (p : Int)) = some (key p) := keyOf_int_mk Try.underlying3 (wf_nat p h)
theorem isKey_key (p : Nat) : WideAt.IsKeyLit (key p) := trivial

/-- block b is a map of n entries, at each place what f says -/
def MapAt {α : Type} (E : Elem α) (w : World) (b n : Nat) (f : Nat → Option α) : Prop :=
  ∃ D, w.ownsMap Try.prog 3 E.R b n D ∧ Maps.size D = n ∧ (∀ p, Maps.has D (key p) = (f p).isSome) ∧ (∀ p a, f p = some a → E.ok a ∧ ∀ z, D.atKey (key p) z = E.dat a) ∧ (∀ k, Maps.has D k = true → ∃ p, p < 4096 ∧ k = key p)

theorem keys_le (N : Nat) : ∀ l : List Lit, l.Nodup → (∀ k ∈ l, ∃ p, p < N ∧ k = key p) → l.length ≤ N := by
  classical
  induction N with
  | zero =>
    intro l _ h
    cases l with
    | nil => simp
    | cons a l => obtain ⟨p, hp, _⟩ := h a (by simp); omega
  | succ N ih =>
    intro l hn h
    by_cases hm : key N ∈ l
    · have := ih (l.erase (key N)) (hn.erase _) (fun k hk => by
        obtain ⟨hne, hk⟩ := (List.Nodup.mem_erase_iff hn).1 hk
        obtain ⟨p, hp, rfl⟩ := h k hk
        exact ⟨p, by have : p ≠ N := fun e => hne (by rw [e]); omega, rfl⟩)
      rw [List.length_erase_of_mem hm] at this
      omega
    · have := ih l hn (fun k hk => by
        obtain ⟨p, hp, rfl⟩ := h k hk
        exact ⟨p, by have : p ≠ N := fun e => hm (e ▸ hk); omega, rfl⟩)
      omega

section
variable {α : Type} {E : Elem α} {w : World} {b n : Nat} {f : Nat → Option α}
theorem MapAt.lt (h : MapAt E w b n f) : b < w.heap.size := by
  obtain ⟨D, hown, _⟩ := h
  exact hown.lt
theorem MapAt.kept (h : MapAt E w b n f) {w' : World} (hb : w'.heap[b]? = w.heap[b]?) : MapAt E w' b n f := by
  obtain ⟨D, ⟨es, clock, h1, h2⟩, h⟩ := h
  exact ⟨D, ⟨es, clock, hb.trans h1, h2⟩, h⟩
theorem MapAt.bound (h : MapAt E w b n f) : n ≤ 4096 := by
  obtain ⟨D, hown, rfl, _, _, hk⟩ := h
  obtain ⟨es, rfl, hp, hl⟩ := World.ownsMap.entries hown law3
  have := keys_le 4096 (es.map (·.1)) (by
    unfold List.Nodup
    rw [List.pairwise_map]
    exact hp) (fun k hk' => by
    obtain ⟨x, hx, rfl⟩ := List.mem_map.1 hk'
    exact hk _ (List.any_eq_true.2 ⟨x, hx, WideAt.sameKey_self (hl x hx)⟩))
  simpa [Maps.size] using this
theorem MapAt.made (E : Elem α) (w : World) : MapAt E (w.alloc (.map #[] 0)) w.heap.size 0 (fun _ => none) :=
  ⟨.map [], World.ownsMap_made w _ _ _, rfl, fun _ => rfl, fun _ a (h : none = some a) => (nomatch h), fun _ (h : false = true) => (nomatch h)⟩
theorem MapAt.mapTurned_other (h : MapAt E w b n f) {w' : World} {k : Nat} (ht : w.mapTurned w' k) (hne : b ≠ k) : MapAt E w' b n f :=
  h.kept (ht.grown.block b h.lt (by simpa using hne))
theorem MapAt.look (h : MapAt E w b n f) {t e : TypeId} (ht : Try.prog.underlying t = some (.map 3 e)) (z : α) (hz : (zeroValue e).run Try.prog w = .ok (E.enc z) w) (hzo : E.ok z) (p : Nat) (hp : p < 4611686018427387904) :
    (Instr.lookup t (.map (some b)) (.int .i64 (p : Int)) false).run Try.prog w = .ok (E.enc ((f p).getD z)) w ∧
    (Instr.lookup t (.map (some b)) (.int .i64 (p : Int)) true).run Try.prog w = .ok (.tuple #[E.enc ((f p).getD z), .bool (f p).isSome]) w := by
  obtain ⟨D, hown, _, hh, ha, _⟩ := h
  have hat : D.atKey (key p) (E.dat z) = E.dat ((f p).getD z) ∧ E.ok ((f p).getD z) := by
    cases hf : f p with
    | none => exact ⟨atKey_of_not_has (by rw [hh p, hf]; rfl) _, hzo⟩
    | some a => exact ⟨(ha p a hf).2 _, (ha p a hf).1⟩
  constructor
  · obtain ⟨v, ps, hrun, hv⟩ := hown.lookup law3 ht hz (E.read z hzo) (keyOf_key p hp)
    obtain ⟨a, hao, rfl, hd⟩ := E.inv _ _ _ hv
    rw [hat.1] at hd
    rw [hrun, E.inj _ _ hat.2 hao hd]
  · obtain ⟨v, ps, hrun, hv⟩ := hown.look_ok law3 ht hz (E.read z hzo) (keyOf_key p hp)
    obtain ⟨a, hao, rfl, hd⟩ := E.inv _ _ _ hv
    rw [hat.1] at hd
    rw [hrun, E.inj _ _ hat.2 hao hd, hh p]
theorem MapAt.len (h : MapAt E w b n f) {t e : TypeId} (ht : Try.prog.underlying t = some (.map 3 e)) (ty : TypeId) : (Builtin.len_ #[t] ty #[.map (some b)]).run Try.prog w = .ok (.int .i64 (n : Nat)) w := by
  obtain ⟨D, hown, hs, _⟩ := h
  have := hown.len ht ty
  rw [hs] at this
  exact this
theorem MapAt.store (h : MapAt E w b n f) {t e : TypeId} (ht : Try.prog.underlying t = some (.map 3 e)) (p : Nat) (hp : p < 4096) (a : α) (hao : E.ok a) :
    ∃ w', (Instr.mapUpdate t (.map (some b)) (.int .i64 (p : Int)) (E.enc a)).run Try.prog w = .ok () w' ∧ MapAt E w' b (if (f p).isSome then n else n + 1) (fun q => if q = p then some a else f q) ∧ w.mapTurned w' b := by
  have hb := h.bound
  obtain ⟨D, hown, hs, hh, ha, hk⟩ := h
  obtain ⟨w', hrun, hown', ht'⟩ := hown.store law3 ht (by unfold maxLen; omega) (keyOf_key p (by omega)) (E.read a hao)
  refine ⟨w', hrun, ⟨D.put (key p) (E.dat a), ?_, ?_, ?_, ?_, ?_⟩, ht'⟩
  · obtain ⟨es, clock, h1, h2, h3, h4⟩ := hown'
    refine ⟨es, clock, h1, h2, ?_, h4⟩
    have e1 : es.size = Maps.size (D.put (key p) (E.dat a)) := by rw [h4]; simp [Maps.size, length_sorted]
    rw [e1, size_put (hown.tidy law3), hh p, hs]
    exact Nat.le_refl _
  · rw [size_put (hown.tidy law3), hh p, hs]
  · intro q
    dsimp only
    by_cases hq : q = p
    · subst hq
      rw [if_pos rfl, has_put_same hown.isMap (isKey_key q)]
      rfl
    · rw [if_neg hq, has_put_other (key_ne hq)]
      exact hh q
  · intro q c hq
    dsimp only at hq
    by_cases hqp : q = p
    · subst hqp
      rw [if_pos rfl] at hq
      cases hq
      exact ⟨hao, fun z => atKey_put_same hown.isMap (isKey_key q) _ _⟩
    · rw [if_neg hqp] at hq
      exact ⟨(ha q c hq).1, fun z => by rw [atKey_put_other (key_ne hqp)]; exact (ha q c hq).2 z⟩
  · intro k hk'
    by_cases hkp : k = key p
    · exact ⟨p, hp, hkp⟩
    · rw [has_put_other hkp] at hk'
      exact hk k hk'
theorem MapAt.alloc (h : MapAt E w b n f) (o : Obj) : MapAt E (w.alloc o) b n f := h.kept (Below.heap_alloc _ _ _ h.lt)
theorem MapAt.setCell (h : MapAt E w b n f) {g i : Nat} (hne : b ≠ g) (v : Value) : MapAt E (w.setCell ⟨g, i, none⟩ v) b n f := h.kept (Below.heap_setCell w _ v b hne)
theorem MapAt.setRow (h : MapAt E w b n f) {g : Nat} (hne : b ≠ g) (xs : Array Value) : MapAt E (w.setRow g xs) b n f := h.kept (Go.setRow_other w g b xs hne)
theorem MapAt.drewN (h : MapAt E w b n f) (m : Nat) : MapAt E (w.drewN m) b n f := h
/-- a map is no row of cells -/
theorem MapAt.ne_row (h : MapAt E w b n f) {g : Nat} {t : TypeId} {cs : List Value} (hr : Row w g t cs) : b ≠ g := by
  rintro rfl
  obtain ⟨D, ⟨es, clock, h1, _⟩, _⟩ := h
  unfold Row at hr
  rw [hr] at h1
  cases h1
end

section
variable {α : Type} {E : Elem α} {w : World} {b n : Nat} {f : Nat → Option α} {ops : Array Oper} {rest : List Oper} {o : Oper} {a : Act} {Q : Exit → Act → World → Prop}
theorem wpList_lookMap (h : MapAt E w b n f) (m x : Operand) (t e : TypeId) (hgd : o.guard = none) (ho : o.op = .lookup t m x false) (ht : Try.prog.underlying t = some (.map 3 e)) (z : α) (hz : (zeroValue e).run Try.prog w = .ok (E.enc z) w) (hzo : E.ok z)
    (p : Nat) (hp : p < 4611686018427387904) (hm : a.eval m = .map (some b)) (hx : a.eval x = .int .i64 (p : Int)) (hK : wpList Try.prog ops Q rest (a.put o.dst (E.enc ((f p).getD z))) w) : wpList Try.prog ops Q (o :: rest) a w :=
  wpList_value hgd _ w (by simp [execOp, ho, hm, hx, (h.look ht z hz hzo p hp).1]) hK
theorem wpList_lookMapOk (h : MapAt E w b n f) (m x : Operand) (t e : TypeId) (hgd : o.guard = none) (ho : o.op = .lookup t m x true) (ht : Try.prog.underlying t = some (.map 3 e)) (z : α) (hz : (zeroValue e).run Try.prog w = .ok (E.enc z) w) (hzo : E.ok z)
    (p : Nat) (hp : p < 4611686018427387904) (hm : a.eval m = .map (some b)) (hx : a.eval x = .int .i64 (p : Int)) (hK : wpList Try.prog ops Q rest (a.put o.dst (.tuple #[E.enc ((f p).getD z), .bool (f p).isSome])) w) : wpList Try.prog ops Q (o :: rest) a w :=
  wpList_value hgd _ w (by simp [execOp, ho, hm, hx, (h.look ht z hz hzo p hp).2]) hK
theorem wpList_putMap (h : MapAt E w b n f) (m x y : Operand) (t e : TypeId) (hgd : o.guard = none) (ho : o.op = .mapUpdate t m x y) (ht : Try.prog.underlying t = some (.map 3 e)) (p : Nat) (hp : p < 4096) (c : α) (hc : E.ok c)
    (hm : a.eval m = .map (some b)) (hx : a.eval x = .int .i64 (p : Int)) (hy : a.eval y = E.enc c)
    (hK : ∀ w', MapAt E w' b (if (f p).isSome then n else n + 1) (fun q => if q = p then some c else f q) → w.mapTurned w' b → wpList Try.prog ops Q rest (a.put o.dst undef) w') : wpList Try.prog ops Q (o :: rest) a w := by
  obtain ⟨w', hrun, h1, h2⟩ := h.store ht p hp c hc
  exact wpList_skip' hgd w' (by simp [execOp, ho, hm, hx, hy, hrun]) (hK w' h1 h2)
theorem wpList_lenMap (h : MapAt E w b n f) (m : Operand) (t e : TypeId) (hgd : o.guard = none) (ho : o.op = .call { callee := .builtin .len, args := #[m], argTypes := #[t] }) (ht : Try.prog.underlying t = some (.map 3 e)) (hm : a.eval m = .map (some b))
    (hK : wpList Try.prog ops Q rest (a.put o.dst (.int .i64 (n : Nat))) w) : wpList Try.prog ops Q (o :: rest) a w :=
  wpList_value hgd _ w (by
    have hl := h.len ht o.type
    simp only [execOp, ho, resolve, invoke, builtin, Sem.run_bind, Sem.run_pure, Result.andThen_ok, List.map_toArray, List.map_cons, List.map_nil, hm, hl]) hK
end
theorem mapTurned_size {w w' : World} {b : Nat} (h : w.mapTurned w' b) : w'.heap.size = w.heap.size := by
  obtain ⟨es, clock, es', clock', _, rfl⟩ := h
  simp [ChangeMaps.setBlock]
theorem wpList_putMap0 {α : Type} {E : Elem α} {w : World} {b n : Nat} {f : Nat → Option α} {ops : Array Oper} {rest : List Oper} {o : Oper} {a : Act} {Q : Exit → Act → World → Prop} (h : MapAt E w b n f) (m x y : Operand) (t e : TypeId) (hgd : o.guard = none) (hdst : o.dst = none) (ho : o.op = .mapUpdate t m x y) (ht : Try.prog.underlying t = some (.map 3 e)) (p : Nat) (hp : p < 4096) (c : α) (hc : E.ok c)
    (hm : a.eval m = .map (some b)) (hx : a.eval x = .int .i64 (p : Int)) (hy : a.eval y = E.enc c)
    (hK : ∀ w', MapAt E w' b (if (f p).isSome then n else n + 1) (fun q => if q = p then some c else f q) → w.mapTurned w' b → wpList Try.prog ops Q rest a w') : wpList Try.prog ops Q (o :: rest) a w :=
  wpList_putMap h m x y t e hgd ho ht p hp c hc hm hx hy (fun w' h1 h2 => by rw [hdst]; exact hK w' h1 h2)
theorem zeroSec (w : World) : (zeroValue 84).run Try.prog w = .ok (secV (List.replicate 64 0)) w := by kernel_rfl
theorem zeroInt (w : World) : (zeroValue 3).run Try.prog w = .ok (.int .i64 0) w := by kernel_rfl
theorem sec_zero : Sec (List.replicate 64 0) := ⟨by decide, by decide⟩
end Go.Proofs.Ytgkmegcejekbcaa

/- Layer 15: rows of arrays of bytes: pieces and blocks. Layer 15: an object's tags, hash and pieces. -/
import Derived.Test.YtpkkkkomdblpoaaDoorY19
namespace Go.Proofs.YtpkkkkomdblpoaaDoor
open Go.RowKit Go.Maps

/-- a slice of arrays of n bytes -/
structure ElT (S E n : Nat) : Prop where
 sl : Tryd.prog.underlying S = some (.slice E)
 el : Tryd.prog.elem S = E
 info : (Tryd.prog.info? E).map (fun i => (i.zero, i.size, i.bytes)) = some (some (.agg (bcells (Zs n)).toArray), n, n)
 ag : AggT E n
 pos : 0 < n
 few : n ≤ 64
theorem el134 : ElT 134 129 56 := ⟨Tryd.underlying134, by kernel_rfl, by kernel_rfl, ag129, by decide, by decide⟩
theorem el93 : ElT 93 133 64 := ⟨Tryd.underlying93, by kernel_rfl, by kernel_rfl, ag133, by decide, by decide⟩
theorem el107 : ElT 107 52 32 := ⟨Tryd.underlying107, by kernel_rfl, by kernel_rfl, ag52, by decide, by decide⟩
theorem ElT.sl' {S E n : Nat} (h : ElT S E n) : Tryd.prog.underlying S = some (.slice (Tryd.prog.elem S)) := by rw [h.el]; exact h.sl
def AllN (n : Nat) (L : List (List Nat)) : Prop := ∀ b ∈ L, b.length = n ∧ ∀ c ∈ b, c < 256
theorem AllN.nil (n : Nat) : AllN n [] := fun b hb => by cases hb
theorem AllN.one {n : Nat} {b : List Nat} (h : b.length = n) (h2 : ∀ c ∈ b, c < 256) : AllN n [b] := fun x hx => by rw [List.mem_singleton.1 hx]; exact ⟨h, h2⟩
theorem AllN.append {n : Nat} {L M : List (List Nat)} (h : AllN n L) (k : AllN n M) : AllN n (L ++ M) := fun b hb => (List.mem_append.1 hb).elim (h b) (k b)
theorem AllN.at {n : Nat} {L : List (List Nat)} (h : AllN n L) (k : Nat) (hk : k < L.length) : (L.getD k []).length = n ∧ ∀ c ∈ L.getD k [], c < 256 := by
 rw [List.getD_eq_getElem?_getD, List.getElem?_eq_getElem hk]
 exact h _ (List.getElem_mem hk)
theorem AllN.set {n : Nat} {L : List (List Nat)} (h : AllN n L) (k : Nat) {b : List Nat} (hb : b.length = n ∧ ∀ c ∈ b, c < 256) : AllN n (L.set k b) := fun x hx => (List.mem_or_eq_of_mem_set hx).elim (h x) (fun e => e ▸ hb)
theorem flatN {n : Nat} {L : List (List Nat)} (h : AllN n L) : L.flatten.length = L.length * n := by
 induction L with
 | nil => simp
 | cons x xs ih =>
  rw [List.flatten_cons, List.length_append, ih (fun y hy => h y (List.mem_cons_of_mem _ hy)), (h x (List.mem_cons_self ..)).1, List.length_cons, Nat.add_mul]
  omega
theorem flatN_take {n : Nat} {L : List (List Nat)} (h : AllN n L) (k : Nat) : (L.take k).flatten = L.flatten.take (k * n) := by
 induction L generalizing k with
 | nil => simp
 | cons x xs ih =>
  cases k with
  | zero => simp
  | succ k =>
   have hx := (h x (List.mem_cons_self ..)).1
   have e : (k + 1) * n = x.length + k * n := by rw [Nat.add_mul, hx]; omega
   rw [List.take_succ_cons, List.flatten_cons, List.flatten_cons, ih (fun y hy => h y (List.mem_cons_of_mem _ hy)), e, List.take_length_add_append]
theorem flatN_drop {n : Nat} {L : List (List Nat)} (h : AllN n L) (k : Nat) : (L.drop k).flatten = L.flatten.drop (k * n) := by
 induction L generalizing k with
 | nil => simp
 | cons x xs ih =>
  cases k with
  | zero => simp
  | succ k =>
   have hx := (h x (List.mem_cons_self ..)).1
   have e : (k + 1) * n = x.length + k * n := by rw [Nat.add_mul, hx]; omega
   rw [List.drop_succ_cons, List.flatten_cons, ih (fun y hy => h y (List.mem_cons_of_mem _ hy)), e, List.drop_length_add_append]
theorem bcells_take (cs : List Nat) (k : Nat) : bcells (cs.take k) = (bcells cs).take k := by simp [bcells]
theorem bcells_drop (cs : List Nat) (k : Nat) : bcells (cs.drop k) = (bcells cs).drop k := by simp [bcells]
theorem flatN_at {n : Nat} {L : List (List Nat)} (h : AllN n L) (k j : Nat) (hk : k < L.length) (hj : j < n) : (bcells L.flatten)[k * n + j]? = (bcells (L.getD k []))[j]? := by
 have e : L = L.take k ++ (L.getD k [] :: L.drop (k + 1)) := by
  rw [List.getD_eq_getElem?_getD, List.getElem?_eq_getElem hk, Option.getD_some, ← List.drop_eq_getElem_cons hk, List.take_append_drop]
 have h1 := (h.at k hk).1
 have hl : (L.take k).flatten.length = k * n := by rw [flatN_take h, List.length_take, flatN h, Nat.min_eq_left (Nat.mul_le_mul_right n (by omega))]
 conv => lhs; rw [e]
 rw [List.flatten_append, List.flatten_cons, bcells_append, List.getElem?_append_right (by rw [bcells_length, hl]; omega), bcells_length, hl, Nat.add_sub_cancel_left, bcells_append, List.getElem?_append_left (by rw [bcells_length, h1]; exact hj)]
theorem flatN_set {n : Nat} {L : List (List Nat)} (h : AllN n L) (k : Nat) (hk : k < L.length) (b : List Nat) (hb : b.length = n) : splice (bcells L.flatten) (k * n) (bcells b) = bcells (L.set k b).flatten := by
 rw [List.set_eq_take_append_cons_drop, if_pos hk, List.flatten_append, List.flatten_cons, bcells_append, bcells_append, flatN_take h, flatN_drop h, bcells_take, bcells_drop]
 unfold splice
 rw [bcells_length, hb, show (k + 1) * n = k * n + n by rw [Nat.add_mul]; omega]
/-- arrays that the call has made -/
def AOwn (E n : Nat) (W : World) (base : Nat) (v : Value) (L : List (List Nat)) : Prop := AllN n L ∧ W.ownsRow base E n v L.length (bcells L.flatten)
theorem AOwn.nil (E n : Nat) (W : World) (base : Nat) : AOwn E n W base (.slice none 0 0) [] := ⟨AllN.nil n, by simp [bcells], Or.inl ⟨rfl, rfl⟩⟩
theorem AOwn.later {E n : Nat} {W W' : World} {base : Nat} {v : Value} {L : List (List Nat)} (h : AOwn E n W base v L) (hb : Below W.heap.size W W') : AOwn E n W' base v L := ⟨h.1, own_later h.2 hb⟩
theorem AOwn.weaken {E n : Nat} {W : World} {base base' : Nat} {v : Value} {L : List (List Nat)} (h : AOwn E n W base v L) (hb : base' ≤ base) : AOwn E n W base' v L := by
 refine ⟨h.1, h.2.1, ?_⟩
 rcases h.2.2 with h2 | ⟨g, cap, cur, h2, h3, h4⟩
 ·exact Or.inl h2
 ·exact Or.inr ⟨g, cap, cur, h2, Nat.le_trans hb h3, h4⟩
theorem AOwn.keep {E n : Nat} {W W' : World} {base : Nat} {v : Value} {L : List (List Nat)} (h : AOwn E n W base v L) {S : Nat → Prop} (hc : Ch S W W') (hS : ∀ b, v.ownBlock = some b → ¬ S b) : AOwn E n W' base v L :=
 ⟨h.1, ownK h.2 fun b hb => hc.block b (h.2.lt b hb).2 (hS b hb)⟩
theorem AOwn.belowG {E n : Nat} {w w' : World} {base : Nat} {v : Value} {L : List (List Nat)} (h : AOwn E n w base v L) (hg : w.grownBy w' v.ownBlock) (hb : base ≤ w.heap.size) : Below base w w' :=
 (Below.refl base w).grown hg hb fun k hk => (h.2.lt k hk).1
/-- a literal of one array -/
theorem run_lit1 {S E n : Nat} (he : ElT S E n) (b : List Nat) (hb : b.length = n) (w : World) : (Instr.buildSlice S 1 #[(0, av b)]).run Tryd.prog w = .ok (.slice (some ⟨w.heap.size, 0, none⟩) 1 1) (w.alloc (.cells (bcells b).toArray E)) := by
 obtain ⟨i, hi, hz0, hz1, hz2⟩ := info_parts he.info
 have := he.pos
 have := he.few
 refine run_buildSlice w S E 1 _ _ i _ he.sl hi hz0 (by rw [hz1]; omega) (by rw [hz1]; omega) ?_
 rw [hz1]
 have h1 : ∀ v ∈ [av b], v.cells.size = n := by
  intro v hv'
  rw [List.mem_singleton.1 hv']
  simp [av, Value.cells, bcells_length, hb]
 show Instr.fill _ _ (([av b].zipIdx 0).map fun x => (x.2, x.1)) = _
 rw [Great.fill_whole he.pos [av b] _ h1 (by simp)]
 simp [av, Value.cells]
theorem run_litOp {S E n : Nat} (he : ElT S E n) {w : World} {a : Act} {o : Oper} (x : Operand) (ho : o.op = .buildSlice S 1 #[(0, x)]) (b : List Nat) (hb : b.length = n) (hx : a.eval x = av b) : (execOp a.eval o).run Tryd.prog w = .ok (.value (.slice (some ⟨w.heap.size, 0, none⟩) 1 1)) (w.alloc (.cells (bcells b).toArray E)) := by
 have := run_lit1 he b hb w
 simp [execOp, ho, hx, this]
theorem lit_own {S E n : Nat} (he : ElT S E n) (w : World) (base : Nat) (hb : base ≤ w.heap.size) (b : List Nat) (h : b.length = n ∧ ∀ c ∈ b, c < 256) : AOwn E n (w.alloc (.cells (bcells b).toArray E)) base (.slice (some ⟨w.heap.size, 0, none⟩) 1 1) [b] := by
 have hp := he.pos
 refine ⟨AllN.one h.1 h.2, by simp [bcells_length, h.1], Or.inr ⟨w.heap.size, 1, (bcells b).toArray, rfl, hb, ?_, Nat.le_refl _, by unfold maxLen; omega, by simp [bcells_length, h.1], ?_⟩⟩
 ·show (w.heap.push _)[w.heap.size]? = _
  simp
 ·rw [List.take_of_length_le (by simp [bcells_length, h.1])]
  simp
/-- one more behind -/
theorem run_app1 {S E n : Nat} (he : ElT S E n) {w : World} (base : Nat) (v : Value) (L : List (List Nat)) (b : List Nat) (hown : AOwn E n w base v L) (hb : b.length = n ∧ ∀ c ∈ b, c < 256) (g : Nat) (hg : ∀ j u, (bcells b)[j]? = some u → w.cell? ⟨g, j, none⟩ = some u) (hsz : L.length ≤ 1000000) (hbase : base ≤ w.heap.size) :
  ∃ v' w', (∀ ty, (Builtin.append_ #[S, S] ty #[v, .slice (some ⟨g, 0, none⟩) 1 1]).run Tryd.prog w = .ok v' w') ∧ AOwn E n w' base v' (L ++ [b]) ∧ w.grownBy w' v.ownBlock ∧ (v'.ownBlock = v.ownBlock ∨ v'.ownBlock = some w.heap.size) := by
 obtain ⟨i, hi, hz0, hz1, hz2⟩ := info_parts he.info
 have h1 := he.few
 have h2 : (L.length + 1) * n ≤ (L.length + 1) * 64 := Nat.mul_le_mul_left _ h1
 obtain ⟨v', w', hr, ho', hgr, _, h5⟩ := run_append_own_at (P := Tryd.prog) w base S 0 E i (.agg (bcells (Zs n)).toArray) n n he.sl hi hz0 hz1 hz2 (by simp [Value.cells, bz]) he.pos v L.length (bcells L.flatten) hown.2
  ⟨g, 0, none⟩ 1 1 (bcells b) (by rw [bcells_length, hb.1]; simp) (fun j u hu => by rw [add_none, Nat.zero_add]; exact hg j u hu) (bcells_one _) (by unfold maxLen; omega) (by omega) hbase
 refine ⟨v', w', fun ty => hr, ⟨hown.1.append (AllN.one hb.1 hb.2), ?_⟩, hgr, h5⟩
 rw [List.flatten_append, bcells_append, List.length_append]
 simpa using ho'
theorem run_appOp {S : Nat} {w w' : World} {a : Act} {o : Oper} (s x : Operand) (ho : o.op = .call { callee := .builtin .append, args := #[s, x], argTypes := #[S, S] }) (v vx v' : Value) (hs : a.eval s = v) (hx : a.eval x = vx) (hr : ∀ ty, (Builtin.append_ #[S, S] ty #[v, vx]).run Tryd.prog w = .ok v' w') : (execOp a.eval o).run Tryd.prog w = .ok (.value v') w' := by
 simp only [execOp, ho, resolve, invoke, builtin, Sem.run_bind, Sem.run_pure, Result.andThen_ok, List.map_toArray, List.map_cons, List.map_nil, hs, hx, hr]
theorem run_lenA {S E n : Nat} (he : ElT S E n) {w w0 : World} {a : Act} {o : Oper} {base : Nat} {v : Value} {L : List (List Nat)} (h : AOwn E n w0 base v L) (x : Operand) (ho : o.op = .call { callee := .builtin .len, args := #[x], argTypes := #[S] }) (hx : a.eval x = v) : (execOp a.eval o).run Tryd.prog w = .ok (.value (.int .i64 (L.length : Nat))) w := by
 rcases h.2.2 with ⟨rfl, h0⟩ | ⟨g, cap, cur, rfl, _⟩
 ·have := run_lenZ (w := w) he.sl' x ho none 0 0 hx
  rw [h0]
  exact this
 ·exact run_lenZ he.sl' x ho _ _ _ hx
/-- the place of one of them -/
theorem AOwn.ix {S E n : Nat} (he : ElT S E n) {W : World} {base : Nat} {v : Value} {L : List (List Nat)} (h : AOwn E n W base v L) (k : Nat) (hk : k < L.length) : ∃ g, v.ownBlock = some g ∧ base ≤ g ∧ (∀ w', (Instr.indexAt S v (.int .i64 (k : Nat))).run Tryd.prog w' = .ok (.pointer (some ⟨g, k * n, none⟩)) w') ∧ ∀ W' : World, AOwn E n W' base v L → ∀ j u, (bcells (L.getD k []))[j]? = some u → W'.cell? ⟨g, k * n + j, none⟩ = some u := by
 have key : ∀ W' : World, AOwn E n W' base v L → ∃ g cap cur, v = .slice (some ⟨g, 0, none⟩) L.length cap ∧ base ≤ g ∧ ∀ j u, (bcells (L.getD k []))[j]? = some u → W'.cell? ⟨g, k * n + j, none⟩ = some u := fun W' h' => by
  rcases h'.2.2 with ⟨rfl, h0⟩ | ⟨g, cap, cur, rfl, h3, h4, h5⟩
  ·have := h0; omega
  ·refine ⟨g, cap, 0, rfl, h3, fun j u hu => ?_⟩
   have hj : j < n := by
    have := (List.getElem?_eq_some_iff.1 hu).1
    rwa [bcells_length, (h.1.at k hk).1] at this
   have e := h'.2.cells (g := g) rfl (k * n + j) u (by rw [flatN_at h.1 k j hk hj]; exact hu)
   rw [add_none, Nat.zero_add] at e
   exact e
 obtain ⟨g, cap, _, rfl, h3, _⟩ := key W h
 obtain ⟨i, hi, hz0, hz1, hz2⟩ := info_parts he.info
 refine ⟨g, rfl, h3, fun w' => by simp [Instr.indexAt, asIntOf, run_underlying he.sl, hk, sizeOf, typeInfo, hi, hz1, add_none], fun W' h' j u hu => ?_⟩
 obtain ⟨g', cap', _, e, _, h4⟩ := key W' h'
 have e1 : g = g' := Option.some.inj (congrArg Value.ownBlock e)
 subst e1
 exact h4 j u hu
/-- a whole block of arrays -/
def ALine (E n : Nat) (W : World) (g : Nat) (L : List (List Nat)) : Prop := AllN n L ∧ Row W g E (bcells L.flatten)
set_option maxRecDepth 100000 in
theorem ALine.own {E n : Nat} {W : World} {g base : Nat} {L : List (List Nat)} (h : ALine E n W g L) (hb : base ≤ g) (hl : L.length ≤ 1000000) : AOwn E n W base (whole g L.length) L :=
 ⟨h.1, by rw [bcells_length, flatN h.1], Or.inr ⟨g, L.length, (bcells L.flatten).toArray, rfl, hb, h.2, Nat.le_refl _, by unfold maxLen; omega, by simp [bcells_length, flatN h.1], by rw [List.take_of_length_le (by simp [bcells_length, flatN h.1])]⟩⟩
theorem ALine.later {E n : Nat} {W W' : World} {g : Nat} {L : List (List Nat)} (h : ALine E n W g L) (hb : Below W.heap.size W W') : ALine E n W' g L := ⟨h.1, h.2.later hb h.2.lt⟩
theorem allZ (n k : Nat) : AllN n (List.replicate k (Zs n)) := fun b hb => by
 rw [(List.mem_replicate.1 hb).2]
 exact ⟨Zs_length n, fun c hc => by rw [(List.mem_replicate.1 hc).2]; decide⟩
theorem madeN (n k : Nat) (hn : 0 < n) : (madeCells (Value.agg (bcells (Zs n)).toArray).cells (k * n)).toList = bcells (List.replicate k (Zs n)).flatten := by
 have e : (List.replicate k (Zs n)).flatten = Zs (k * n) := by
  unfold Zs
  rw [List.flatten_replicate_replicate]
 rw [e]
 have e2 : ∀ j : Nat, j < n → (bcells (Zs n)).getD j default = .int .u8 0 := by
  intro j hj
  unfold Zs bcells
  rw [List.map_replicate, List.getD_eq_getElem?_getD, List.getElem?_replicate, if_pos hj]
  rfl
 show (madeCells (bcells (Zs n)).toArray (k * n)).toList = _
 have e3 : (bcells (Zs n)).length = n := bz n
 have e4 : bcells (Zs (k * n)) = List.replicate (k * n) (.int .u8 0) := by unfold Zs bcells; rw [List.map_replicate]; rfl
 rw [e4]
 generalize bcells (Zs n) = z at e2 e3
 apply List.ext_getElem
 ·simp [madeCells]
 ·intro j h1 h2
  have := e2 (j % n) (Nat.mod_lt _ hn)
  simp [madeCells, e3]
  simpa using this
theorem ALine.put {S E n : Nat} (he : ElT S E n) {W : World} {g : Nat} {L : List (List Nat)} (h : ALine E n W g L) (k : Nat) (hk : k < L.length) (b : List Nat) (hb : b.length = n ∧ ∀ c ∈ b, c < 256) :
  ∃ W', (∀ (a : Act) (o : Oper) (x y : Operand), o.op = .store E x y → a.eval x = .pointer (some ⟨g, k * n, none⟩) → a.eval y = av b → (execOp a.eval o).run Tryd.prog W = .ok .skip W') ∧ ALine E n W' g (L.set k b) ∧ Ch (· = g) W W' ∧ W'.heap.size = W.heap.size := by
 have hl : (bcells b).length = n := by rw [bcells_length]; exact hb.1
 have h2 : (k + 1) * n ≤ L.length * n := Nat.mul_le_mul_right n hk
 have hfl : (bcells L.flatten).length = L.length * n := by rw [bcells_length, flatN h.1]
 have hst := run_storeVar he.ag W g (k * n) E (bcells L.flatten) (bcells b) hl h.2 (by rw [hl, hfl]; rw [Nat.add_mul] at h2; omega) (bcells_one _)
 rw [flatN_set h.1 k hk b hb.1] at hst
 refine ⟨W.setRow g (bcells (L.set k b).flatten).toArray, fun a o x y ho hx hy => ?_, ⟨h.1.set k hb, h.2.setRow _⟩, (Ch.refl (· = g) W).setRow (Or.inl rfl) _, by simp [World.setRow]⟩
 have : (storeVar E ⟨g, k * n, none⟩ (av b)).run Tryd.prog W = _ := hst
 simp [execOp, ho, hx, hy, Instr.storeAt, Instr.sureAddr, this]
end Go.Proofs.YtpkkkkomdblpoaaDoor

namespace Go.Proofs.YtpkkkkomdblpoaaDoor
open Go.RowKit Go.Maps

open Cold
theorem own_ne {W : World} {base e sz n : Nat} {v : Value} {xs : List Value} (h : W.ownsRow base e sz v n xs) {b T : Nat} {cs : List Value} (hb : v.ownBlock = some b) (hr : Row W b T cs) (hT : T ≠ e) : False := by
 rcases h.2 with ⟨rfl, _⟩ | ⟨g, cap, cur, rfl, _, hg, _⟩
 ·cases hb
 ·have e1 : g = b := Option.some.inj hb
  subst e1
  unfold Row at hr
  rw [hg] at hr
  injection hr with hr
  injection hr with _ h2 _
  exact hT h2.symm
theorem Row.grown {w w' : World} {g T : Nat} {cs : List Value} {ob : Option Nat} (h : Row w g T cs) (hg : w.grownBy w' ob) (hne : ob ≠ some g) : Row w' g T cs := by
 have hl := h.lt
 unfold Row at *
 rw [hg.block g hl (fun e => hne e.symm)]
 exact h
def sliceLenN : Value → Nat
 | .slice _ n _ => n
 | _ => 0
theorem slN {w : World} {v : Value} {cs : List Nat} (h : SliceIn w v cs) : sliceLenN v = cs.length := by
 obtain ⟨p, cap, rfl, _⟩ := h
 rfl
/-- an object's cells -/
def obC (d a ln : Int) (bd : Bool) (id : List Nat) (vb : Value) : List Value := [.int .i64 d, .int .i64 a, .int .i64 ln, .bool bd, str id, vb]
theorem hsh_ok (id bs : List Nat) : (hsh id bs).length = 32 ∧ ∀ c ∈ hsh id bs, c < 256 := Sh.node_isH _ _
theorem hd_ok (id bs : List Nat) (hb : ∀ c ∈ id, c < 256) : (hd id bs).length = 56 ∧ ∀ c ∈ hd id bs, c < 256 := ⟨pc_length _, pc_lt (Fr.Frame.pack_lt 111 _ (by decide) (lb_lt _ hb))⟩
theorem run_minZ {w : World} {a : Act} {o : Oper} (x : Operand) (n k : Nat) (ho : o.op = .call { callee := .builtin .min, args := #[x, .const (.int .i64 (k : Nat))], argTypes := #[3, 3] }) (hx : a.eval x = .int .i64 (n : Nat)) : (execOp a.eval o).run Tryd.prog w = .ok (.value (.int .i64 ((min n k : Nat) : Int))) w := by
 have hr : ∀ ty, (Builtin.min_ #[3, 3] ty #[.int .i64 (n : Nat), .int .i64 (k : Nat)]).run Tryd.prog w = .ok (.int .i64 ((min n k : Nat) : Int)) w := fun ty => by
  rw [run_min_int2]
  congr 2
  split <;> omega
 simp only [execOp, ho, resolve, invoke, builtin, Sem.run_bind, Sem.run_pure, Result.andThen_ok, List.map_toArray, List.map_cons, List.map_nil, hx]
 have := hr o.type
 simp [Act.eval, this]
set_option maxHeartbeats 4000000 in
set_option maxRecDepth 100000 in
theorem tag_any (d a i : Nat) (ln : Int) (bd : Bool) (id : List Nat) (vb : Value) (w : World) : Calls Tryd.prog 61 #[.agg (obC (d : Nat) (a : Nat) ln bd id vb).toArray, .int .i64 (i : Nat)] w fun e w' => e = .returned (av (tg 111 d a i)) ∧ Below w.heap.size w w' := by
 have H0 : Hid (Loc w w []) := Loc.nil (Below.refl _ _)
 obtain ⟨PQ, HPQ⟩ := exPQ fun (e : Ending) (w' : World) => e = .returned (av (tg 111 d a i)) ∧ Below w.heap.size w w'
 rw [← HPQ.out]
 go_enter Tryd.func61, Tryd.ntmps61
 go_upto_region 0 with fail
 refine wp_region_lit ?_
 refine wl rfl (ptr w.heap.size) _ (run_boxA (.tmp 0) rfl ((obC (d : Nat) (a : Nat) ln bd id vb)) rfl) ?_
 have k_ := H0.out.box 91 ((obC (d : Nat) (a : Nat) ln bd id vb))
 obtain ⟨w1, hW_⟩ : ∃ W, W = w.alloc (.cells ((obC (d : Nat) (a : Nat) ln bd id vb)).toArray 91) := ⟨_, rfl⟩
 obtain ⟨q1, hq_⟩ : ∃ q, q = w.heap.size := ⟨_, rfl⟩
 rw [← hW_, ← hq_] at k_
 rw [← hW_, ← hq_]
 clear hq_
 have Rw1 : Hid (Loc w w1 [(q1, 91, (obC (d : Nat) (a : Nat) ln bd id vb))]) := k_
 clear k_ hW_ H0
 simp only [Act.put, aS, aC, aZ]
 refine wl rfl (ptr w1.heap.size) _ (run_allocA (bcells (Zs 8)) zero131 rfl) ?_
 have k_ := Rw1.out.box 131 (bcells (Zs 8))
 obtain ⟨w2, hW_⟩ : ∃ W, W = w1.alloc (.cells (bcells (Zs 8)).toArray 131) := ⟨_, rfl⟩
 obtain ⟨q2, hq_⟩ : ∃ q, q = w1.heap.size := ⟨_, rfl⟩
 rw [← hW_, ← hq_] at k_
 rw [← hW_, ← hq_]
 clear hq_
 have Rw2 : Hid (Loc w w2 [(q1, 91, (obC (d : Nat) (a : Nat) ln bd id vb)), (q2, 131, bcells (Zs 8))]) := k_
 clear k_ hW_ Rw1
 simp only [Act.put, aS, aC, aZ]
 refine wpList_nil ?_
 go_upto_region 1 with fail
 refine wp_region_lit ?_
 refine wl rfl (.pointer (some ⟨q1, 0 + 0, none⟩)) _ (run_fieldOp' f91_0 (.tmp 2) rfl q1 (0) rfl) ?_
 refine wl rfl (.pointer (some ⟨q1, 0 + 0 + 0, none⟩)) _ (run_fieldOp' f40_0 (.tmp 5) rfl q1 (0 + 0) rfl) ?_
 refine wl rfl (.int .i64 (d : Nat)) _ (run_load1 o3 (.tmp 6) rfl q1 (0 + 0 + 0) rfl (.int .i64 (d : Nat)) ((Rw2.out.at 0 rfl).at 0 _ rfl)) ?_
 simp only [Act.put, aS, aC, aZ]
 refine wl rfl (.pointer (some ⟨q1, 0 + 0, none⟩)) _ (run_fieldOp' f91_0 (.tmp 2) rfl q1 (0) rfl) ?_
 refine wl rfl (.pointer (some ⟨q1, 0 + 0 + 1, none⟩)) _ (run_fieldOp' f40_1 (.tmp 8) rfl q1 (0 + 0) rfl) ?_
 refine wl rfl (.int .i64 (a : Nat)) _ (run_load1 o3 (.tmp 9) rfl q1 (0 + 0 + 1) rfl (.int .i64 (a : Nat)) ((Rw2.out.at 0 rfl).at 1 _ rfl)) ?_
 simp only [Act.put, aS, aC, aZ]
 refine wl rfl (.int .i64 (i : Nat)) _ (run_mvZ (.tmp 1) rfl (.int .i64 (i : Nat)) rfl) ?_
 simp only [Act.put, aS, aC, aZ]
 refine wpList_callW eN70 [.const (.int .u8 111), .tmp 7, .tmp 10, .tmp 11] _ rfl rfl [.int .u8 111, (.int .i64 (d : Nat)), (.int .i64 (a : Nat)), (.int .i64 (i : Nat))] rfl ?_
 refine (tagOf_any 111 d a i (by decide) w2).mono ?_
 rintro e w3 ⟨rfl, hb_⟩
 refine ⟨_, rfl, ?_⟩
 have Rw3 : Hid (Loc w w3 [(q1, 91, (obC (d : Nat) (a : Nat) ln bd id vb)), (q2, 131, bcells (Zs 8))]) := Rw2.out.later hb_
 clear hb_ Rw2
 simp only [Act.put, aS, aC, aZ]
 refine wlS rfl rfl _ (run_storeL ag131 (.tmp 4) (.tmp 12) rfl Rw3.out 1 rfl (0) rfl (bcells (tg 111 d a i)) rfl (by rw [bcells_length]; rfl) (by rw [bcells_length, bz, tg_length]; decide) (bcells_one _)).1 ?_
 have k_ := Rw3.out.lay 1 rfl (0) (bcells (tg 111 d a i))
 rw [splice_zs (n := 8) _ (tg_length 111 d a i)] at k_ ⊢
 obtain ⟨w4, hW_⟩ : ∃ W, W = w3.setRow q2 (bcells (tg 111 d a i)).toArray := ⟨_, rfl⟩
 rw [← hW_] at k_ ⊢
 have Rw4 : Hid (Loc w w4 [(q1, 91, (obC (d : Nat) (a : Nat) ln bd id vb)), (q2, 131, bcells (tg 111 d a i))]) := k_
 clear k_ hW_ Rw3
 refine wpList_nil ?_
 go_wp2_with fail
 rw [HPQ.out]
 exact bodyPost_ret (results_cell1 ag131 Tryd.results61 _ _ q2 131 rfl _ (by rw [bcells_length]; rfl) (Rw4.out.at 1 rfl)) rfl ⟨rfl, Rw4.out.below⟩
set_option maxHeartbeats 4000000 in
set_option maxRecDepth 100000 in
theorem hash_any (d a : Nat) (ln : Int) (bd : Bool) (id bs : List Nat) (vb : Value) (w : World) (hid : ∀ c ∈ id, c < 256) (hil : id.length ≤ 1000) (hl : bs.length ≤ 512) (hin : SliceIn w vb bs) (he : Env w) : Calls Tryd.prog 76 #[.agg (obC (d : Nat) (a : Nat) ln bd id vb).toArray] w fun e w' => e = .returned (av (hsh id bs)) ∧ Below w.heap.size w w' := by
 have HM : Hid (SliceIn w vb bs ∧ Env w ∧ (∀ c ∈ id, c < 256) ∧ id.length ≤ 1000) := ⟨hin, he, hid, hil⟩
 obtain ⟨L1, hL1⟩ : ∃ x, x = lb bs.length id := ⟨_, rfl⟩
 obtain ⟨h1, hh1⟩ : ∃ x, x = Sh.Tree.leaf L1 := ⟨_, rfl⟩
 obtain ⟨h2, hh2⟩ : ∃ x, x = Sh.Cut.root bs := ⟨_, rfl⟩
 obtain ⟨h3, hh3⟩ : ∃ x, x = hsh id bs := ⟨_, rfl⟩
 have HH : Hid (L1 = lb bs.length id ∧ h1 = Sh.Tree.leaf L1 ∧ h2 = Sh.Cut.root bs ∧ h3 = Sh.Tree.node h1 h2) := ⟨hL1, hh1, hh2, (by rw [hh3, hh1, hh2, hL1]; rfl)⟩
 have HLN : Hid (L1.length ≤ 1002 ∧ (∀ c ∈ L1, c < 256) ∧ Sh.IsH h1 ∧ Sh.IsH h2 ∧ Sh.IsH h3) := ⟨by rw [hL1, lb_length]; omega, by rw [hL1]; exact lb_lt _ hid, by rw [hh1]; exact Sh.leaf_isH _, by rw [hh2]; exact (Sh.leaves_allH bs).root, by rw [hh3]; exact Sh.node_isH _ _⟩
 have H0 : Hid (Loc w w []) := Loc.nil (Below.refl _ _)
 rw [← hh3]
 clear hid hil hin he hL1 hh1 hh2 hh3
 obtain ⟨PQ, HPQ⟩ := exPQ fun (e : Ending) (w' : World) => e = .returned (av (h3)) ∧ Below w.heap.size w w'
 rw [← HPQ.out]
 go_enter Tryd.func76, Tryd.ntmps76
 go_upto_region 0 with fail
 refine wp_region_lit ?_
 refine wl rfl (ptr w.heap.size) _ (run_boxA (.tmp 0) rfl ((obC (d : Nat) (a : Nat) ln bd id vb)) rfl) ?_
 have k_ := H0.out.box 91 ((obC (d : Nat) (a : Nat) ln bd id vb))
 obtain ⟨w1, hW_⟩ : ∃ W, W = w.alloc (.cells ((obC (d : Nat) (a : Nat) ln bd id vb)).toArray 91) := ⟨_, rfl⟩
 obtain ⟨q1, hq_⟩ : ∃ q, q = w.heap.size := ⟨_, rfl⟩
 rw [← hW_, ← hq_] at k_
 rw [← hW_, ← hq_]
 clear hq_
 have Rw1 : Hid (Loc w w1 [(q1, 91, (obC (d : Nat) (a : Nat) ln bd id vb))]) := k_
 clear k_ hW_ H0
 simp only [Act.put, aS, aC, aZ]
 refine wl rfl (ptr w1.heap.size) _ (run_allocA (bcells (Zs 32)) zero52 rfl) ?_
 have k_ := Rw1.out.box 52 (bcells (Zs 32))
 obtain ⟨w2, hW_⟩ : ∃ W, W = w1.alloc (.cells (bcells (Zs 32)).toArray 52) := ⟨_, rfl⟩
 obtain ⟨q2, hq_⟩ : ∃ q, q = w1.heap.size := ⟨_, rfl⟩
 rw [← hW_, ← hq_] at k_
 rw [← hW_, ← hq_]
 clear hq_
 have Rw2 : Hid (Loc w w2 [(q1, 91, (obC (d : Nat) (a : Nat) ln bd id vb)), (q2, 52, bcells (Zs 32))]) := k_
 clear k_ hW_ Rw1
 simp only [Act.put, aS, aC, aZ]
 refine wpList_nil ?_
 go_upto_region 1 with fail
 refine wp_region_until (S := fun X => Loc w X [(q1, 91, (obC (d : Nat) (a : Nat) ln bd id vb)), (q2, 52, bcells (Zs 32))]) 11 (by kernel_rfl) ?_
 show wpAnyU _ _ _ _ _ _ 12 (Array.replicate 12 false) _ _
 obtain ⟨X, hX⟩ : ∃ X : World, X = { w2 with drawn := w2.drawn + 1 } := ⟨_, rfl⟩
 rw [← hX]
 have HS_ : Loc w X [(q1, 91, (obC (d : Nat) (a : Nat) ln bd id vb)), (q2, 52, bcells (Zs 32))] := (by rw [hX]; exact Rw2.out.drew)
 clear hX
 refine tV 0 [11] 3 rfl rfl (gRun rfl (.pointer (some ⟨q1, 0 + 5, none⟩)) fun _ h => run_fieldOp' f91_2 (.tmp 1) rfl q1 (0) rfl) HS_ ?_
 refine tV 1 [11] 4 rfl rfl (gRun rfl vb fun _ h => run_load1 o38 (.tmp 3) rfl q1 (0 + 5) rfl vb ((h.at 0 rfl).at 5 _ rfl)) HS_ ?_
 refine tV 2 [11] 5 rfl rfl (gRun rfl (.int .i64 (bs.length : Nat)) fun _ h => run_lenS HM.out.1 (.tmp 4) rfl rfl) HS_ ?_
 simp only [Act.put, aS, aC, aZ]
 refine tV 3 [11] 6 rfl rfl (gRun rfl (.pointer (some ⟨q1, 0 + 4, none⟩)) fun _ h => run_fieldOp' f91_1 (.tmp 1) rfl q1 (0) rfl) HS_ ?_
 refine tV 4 [11] 7 rfl rfl (gRun rfl (str id) fun _ h => run_load1 o9 (.tmp 6) rfl q1 (0 + 4) rfl (str id) ((h.at 0 rfl).at 4 _ rfl)) HS_ ?_
 refine tV 7 [11] 10 rfl rfl (gRun rfl (.pointer (some ⟨q1, 0 + 5, none⟩)) fun _ h => run_fieldOp' f91_2 (.tmp 1) rfl q1 (0) rfl) HS_ ?_
 simp only [Act.put, aS, aC, aZ]
 refine tV 8 [11] 11 rfl rfl (gRun rfl vb fun _ h => run_load1 o38 (.tmp 10) rfl q1 (0 + 5) rfl vb ((h.at 0 rfl).at 5 _ rfl)) HS_ ?_
 simp only [Act.put, aS, aC, aZ]
 refine oneU (i := 5) (by kernel_rfl) ?_
 refine opCallG (some 8) rfl rfl rfl 77 _ (run_call eN77 [.tmp 5, .tmp 7] _ rfl [(.int .i64 (bs.length : Nat)), (str id)] rfl) ?_
 refine (labelN_any bs.length id HM.out.2.2.1 HM.out.2.2.2 (by omega) X).mono ?_
 rintro e Y1 ⟨v1, rfl, o1, hb_⟩
 rw [← HH.out.1] at o1
 have G1 : Hid (SliceIn Y1 v1 L1) := BOwn.slice o1 HLN.out.2.1 (by have := HLN.out.1; omega)
 refine ⟨_, rfl, ?_⟩
 replace HS_ : Loc w Y1 [(q1, 91, (obC (d : Nat) (a : Nat) ln bd id vb)), (q2, 52, bcells (Zs 32))] := HS_.later hb_
 clear hb_ o1
 refine ⟨fun _ => HS_, ?_⟩
 simp only [Act.put, aS, aC, aZ]
 refine oneU (i := 6) (by kernel_rfl) ?_
 refine opCallG (some 9) rfl rfl rfl 67 _ (run_call eN67 [.tmp 8] _ rfl [v1] rfl) ?_
 refine (Sh.leaf_any v1 L1 Y1 G1.out (HM.out.2.1.later HS_.below).2.1 (HM.out.2.1.later HS_.below).2.2 (by have := HLN.out.1; omega)).mono ?_
 rintro e Y2 ⟨rfl, hb_⟩
 rw [← HH.out.2.1]
 refine ⟨_, rfl, ?_⟩
 replace HS_ : Loc w Y2 [(q1, 91, (obC (d : Nat) (a : Nat) ln bd id vb)), (q2, 52, bcells (Zs 32))] := HS_.later hb_
 clear hb_
 refine ⟨fun _ => HS_, ?_⟩
 simp only [Act.put, aS, aC, aZ]
 refine oneU (i := 9) (by kernel_rfl) ?_
 refine opCallG (some 12) rfl rfl rfl 92 _ (run_call eN92 [.tmp 11] _ rfl [vb] rfl) ?_
 refine (Sh.croot_any vb bs Y2 (HM.out.1.later HS_.below) (HM.out.2.1.later HS_.below).2.1 (HM.out.2.1.later HS_.below).2.2 (by omega)).mono ?_
 rintro e Y3 ⟨rfl, hb_⟩
 rw [← HH.out.2.2.1]
 refine ⟨_, rfl, ?_⟩
 replace HS_ : Loc w Y3 [(q1, 91, (obC (d : Nat) (a : Nat) ln bd id vb)), (q2, 52, bcells (Zs 32))] := HS_.later hb_
 clear hb_
 refine ⟨fun _ => HS_, ?_⟩
 simp only [Act.put, aS, aC, aZ]
 refine oneU (i := 10) (by kernel_rfl) ?_
 refine opCallG (some 13) rfl rfl rfl 86 _ (run_call eN86 [.tmp 9, .tmp 12] _ rfl [(Sh.hv h1), (Sh.hv h2)] rfl) ?_
 refine (Sh.node_any h1 h2 HLN.out.2.2.1 HLN.out.2.2.2.1 Y3 (HM.out.2.1.later HS_.below).2.1 (HM.out.2.1.later HS_.below).2.2).mono ?_
 rintro e Y4 ⟨rfl, hb_⟩
 rw [← HH.out.2.2.2]
 refine ⟨_, rfl, ?_⟩
 replace HS_ : Loc w Y4 [(q1, 91, (obC (d : Nat) (a : Nat) ln bd id vb)), (q2, 52, bcells (Zs 32))] := HS_.later hb_
 clear hb_
 refine ⟨fun _ => HS_, ?_⟩
 simp only [Act.put, aS, aC, aZ]
 refine oneU (i := 11) (by kernel_rfl) ?_
 have HK : Hid (Loc w Y4 [(q1, 91, (obC (d : Nat) (a : Nat) ln bd id vb)), (q2, 52, bcells (Zs 32))]) := HS_
 refine opSkipZ rfl rfl rfl _ (run_storeL ag52 (.tmp 2) (.tmp 13) rfl HK.out 1 rfl 0 rfl (bcells h3) rfl (by rw [bcells_length]; exact HLN.out.2.2.2.2.1) (by rw [bcells_length, bz, HLN.out.2.2.2.2.1]; decide) (bcells_one _)).1 ?_
 have k_ := HK.out.lay 1 rfl 0 (bcells h3)
 rw [splice_zs (n := 32) _ HLN.out.2.2.2.2.1] at k_ ⊢
 obtain ⟨w5, hW_⟩ : ∃ U_ : World, U_ = Y4.setRow q2 (bcells h3).toArray := ⟨_, rfl⟩
 rw [← hW_] at k_ ⊢
 have R5 : Hid (Loc w w5 [(q1, 91, (obC (d : Nat) (a : Nat) ln bd id vb)), (q2, 52, bcells h3)]) := k_
 clear k_ hW_ HK HS_
 refine ⟨fun h => absurd (show true = false from h) (by decide), ?_⟩
 refine wpAnyU_done (by kernel_rfl) ?_ _
 go_wp2_with fail
 rw [HPQ.out]
 exact bodyPost_ret (results_cell1 ag52 Tryd.results76 _ _ q2 52 rfl _ (by rw [bcells_length]; exact HLN.out.2.2.2.2.1) (R5.out.at 1 rfl)) rfl ⟨rfl, R5.out.below⟩
set_option maxHeartbeats 4000000 in
set_option maxRecDepth 100000 in
theorem pieces_any (d a : Nat) (ln : Int) (bd : Bool) (id bs : List Nat) (vb : Value) (w : World) (hid : ∀ c ∈ id, c < 256) (hil : id.length ≤ 1000) (hl : bs.length ≤ 512) (hin : SliceIn w vb bs) (he : Env w) : Calls Tryd.prog 60 #[.agg (obC (d : Nat) (a : Nat) ln bd id vb).toArray] w fun e w' => ∃ v, e = .returned v ∧ AOwn 129 56 w' w.heap.size v (pcs id bs) ∧ Below w.heap.size w w' := by
 have HM : Hid (SliceIn w vb bs ∧ Env w ∧ (∀ c ∈ id, c < 256) ∧ id.length ≤ 1000 ∧ bs.length ≤ 512) := ⟨hin, he, hid, hil, hl⟩
 obtain ⟨h3, hh3⟩ : ∃ x, x = hsh id bs := ⟨_, rfl⟩
 obtain ⟨p0, hp0⟩ : ∃ x, x = hd id bs := ⟨_, rfl⟩
 obtain ⟨L1, hL1⟩ : ∃ x, x = lb bs.length id := ⟨_, rfl⟩
 have HH : Hid (h3 = hsh id bs ∧ p0 = hd id bs ∧ L1 = lb bs.length id) := ⟨hh3, hp0, hL1⟩
 have HO : Hid ((h3.length = 32 ∧ ∀ c ∈ h3, c < 256) ∧ (p0.length = 56 ∧ ∀ c ∈ p0, c < 256) ∧ L1.length ≤ 1002 ∧ ∀ c ∈ L1, c < 256) := ⟨hh3 ▸ hsh_ok id bs, hp0 ▸ hd_ok id bs hid, by rw [hL1, lb_length]; omega, by rw [hL1]; exact lb_lt _ hid⟩
 have H0 : Hid (Loc w w []) := Loc.nil (Below.refl _ _)
 clear hid hil hin he hh3 hp0 hL1
 obtain ⟨PQ, HPQ⟩ := exPQ fun (e : Ending) (w' : World) => ∃ v, e = .returned v ∧ AOwn 129 56 w' w.heap.size v (pcs id bs) ∧ Below w.heap.size w w'
 rw [← HPQ.out]
 go_enter Tryd.func60, Tryd.ntmps60
 go_upto_region 0 with fail
 refine wp_region_lit ?_
 refine wl rfl (ptr w.heap.size) _ (run_boxA (.tmp 0) rfl ((obC (d : Nat) (a : Nat) ln bd id vb)) rfl) ?_
 have k_ := H0.out.box 91 ((obC (d : Nat) (a : Nat) ln bd id vb))
 obtain ⟨w1, hW_⟩ : ∃ W, W = w.alloc (.cells ((obC (d : Nat) (a : Nat) ln bd id vb)).toArray 91) := ⟨_, rfl⟩
 obtain ⟨q1, hq_⟩ : ∃ q, q = w.heap.size := ⟨_, rfl⟩
 rw [← hW_, ← hq_] at k_
 rw [← hW_, ← hq_]
 clear hq_
 have Rw1 : Hid (Loc w w1 [(q1, 91, (obC (d : Nat) (a : Nat) ln bd id vb))]) := k_
 clear k_ hW_ H0
 simp only [Act.put, aS, aC, aZ]
 refine wl rfl (.slice none 0 0) _ (run_asZ (.const (.slice none 0 0)) rfl (.slice none 0 0) rfl) ?_
 simp only [Act.put, aS, aC, aZ]
 refine wpList_nil ?_
 go_upto_region 1 with fail
 refine wp_region_lit ?_
 refine wl rfl (.agg ((obC (d : Nat) (a : Nat) ln bd id vb)).toArray) _ (run_loadA ag91 (.tmp 1) rfl q1 (0) rfl ((obC (d : Nat) (a : Nat) ln bd id vb)) rfl (rows_all Rw1.out 0 rfl)) ?_
 simp only [Act.put, aS, aC, aZ]
 refine wpList_callW eN76 [.tmp 6] _ rfl rfl [(.agg ((obC (d : Nat) (a : Nat) ln bd id vb)).toArray)] rfl ?_
 refine (hash_any d a ln bd id bs vb w1 HM.out.2.2.1 HM.out.2.2.2.1 HM.out.2.2.2.2 (HM.out.1.later Rw1.out.below) (HM.out.2.1.later Rw1.out.below)).mono ?_
 rintro e w2 ⟨rfl, hb_⟩
 refine ⟨_, rfl, ?_⟩
 rw [← HH.out.1]
 have Rw2 : Hid (Loc w w2 [(q1, 91, (obC (d : Nat) (a : Nat) ln bd id vb))]) := Rw1.out.later hb_
 clear hb_ Rw1
 simp only [Act.put, aS, aC, aZ]
 refine wl rfl (ptr w2.heap.size) _ (run_allocA (bcells (Zs 32)) zero52 rfl) ?_
 have k_ := Rw2.out.box 52 (bcells (Zs 32))
 obtain ⟨w3, hW_⟩ : ∃ W, W = w2.alloc (.cells (bcells (Zs 32)).toArray 52) := ⟨_, rfl⟩
 obtain ⟨q2, hq_⟩ : ∃ q, q = w2.heap.size := ⟨_, rfl⟩
 rw [← hW_, ← hq_] at k_
 rw [← hW_, ← hq_]
 clear hq_
 have Rw3 : Hid (Loc w w3 [(q1, 91, (obC (d : Nat) (a : Nat) ln bd id vb)), (q2, 52, bcells (Zs 32))]) := k_
 clear k_ hW_ Rw2
 simp only [Act.put, aS, aC, aZ]
 refine wlS rfl rfl _ (run_storeL ag52 (.tmp 3) (.tmp 7) rfl Rw3.out 1 rfl (0) rfl (bcells h3) rfl (by rw [bcells_length]; exact HO.out.1.1) (by rw [bcells_length, bz, HO.out.1.1]; decide) (bcells_one _)).1 ?_
 have k_ := Rw3.out.lay 1 rfl (0) (bcells h3)
 rw [splice_zs (n := 32) _ HO.out.1.1] at k_ ⊢
 obtain ⟨w4, hW_⟩ : ∃ W, W = w3.setRow q2 (bcells h3).toArray := ⟨_, rfl⟩
 rw [← hW_] at k_ ⊢
 have Rw4 : Hid (Loc w w4 [(q1, 91, (obC (d : Nat) (a : Nat) ln bd id vb)), (q2, 52, bcells h3)]) := k_
 clear k_ hW_ Rw3
 refine wpList_nil ?_
 go_upto_region 2 with fail
 refine wp_region_lit ?_
 refine wl rfl (.pointer (some ⟨q1, 0 + 5, none⟩)) _ (run_fieldOp' f91_2 (.tmp 1) rfl q1 (0) rfl) ?_
 refine wl rfl vb _ (run_load1 o38 (.tmp 8) rfl q1 (0 + 5) rfl vb ((Rw4.out.at 0 rfl).at 5 _ rfl)) ?_
 refine wl rfl (.int .i64 (bs.length : Nat)) _ (run_lenS HM.out.1 (.tmp 9) rfl rfl) ?_
 simp only [Act.put, aS, aC, aZ]
 refine wl rfl (.pointer (some ⟨q1, 0 + 4, none⟩)) _ (run_fieldOp' f91_1 (.tmp 1) rfl q1 (0) rfl) ?_
 refine wl rfl (str id) _ (run_load1 o9 (.tmp 11) rfl q1 (0 + 4) rfl (str id) ((Rw4.out.at 0 rfl).at 4 _ rfl)) ?_
 simp only [Act.put, aS, aC, aZ]
 refine wpList_callW eN77 [.tmp 10, .tmp 12] _ rfl rfl [(.int .i64 (bs.length : Nat)), (str id)] rfl ?_
 refine (labelN_any bs.length id HM.out.2.2.1 HM.out.2.2.2.1 (by have := HM.out.2.2.2.2; omega) w4).mono ?_
 rintro e w5 ⟨v1, rfl, o1, hb_⟩
 refine ⟨_, rfl, ?_⟩
 rw [← HH.out.2.2] at o1
 have Rw5 : Hid (Loc w w5 [(q1, 91, (obC (d : Nat) (a : Nat) ln bd id vb)), (q2, 52, bcells h3)] ∧ SliceIn w5 v1 L1) := ⟨Rw4.out.later hb_, BOwn.slice o1 HO.out.2.2.2 (by have := HO.out.2.2.1; omega)⟩
 clear hb_ o1 Rw4
 simp only [Act.put, aS, aC, aZ]
 refine wpList_callW eN69 [.const (.int .u8 111), .tmp 13] _ rfl rfl [.int .u8 111, v1] rfl ?_
 refine (Fr.pack_any 111 (by decide) v1 L1 w5 (sliceT Rw5.out.2) (HM.out.2.1.later Rw5.out.1.below).1 (by have := HO.out.2.2.1; omega)).mono ?_
 rintro e w6 ⟨v2, rfl, o1, hb_⟩
 refine ⟨_, rfl, ?_⟩
 have Rw6 : Hid (Loc w w6 [(q1, 91, (obC (d : Nat) (a : Nat) ln bd id vb)), (q2, 52, bcells h3)] ∧ SliceIn w6 v2 (Fr.Frame.pack 111 L1)) := ⟨Rw5.out.1.later hb_, BOwn.slice (ownF o1) (Fr.Frame.pack_lt 111 L1 (by decide) HO.out.2.2.2) (by rw [Fr.Frame.pack_length]; have := HO.out.2.2.1; omega)⟩
 clear hb_ o1 Rw5
 simp only [Act.put, aS, aC, aZ]
 refine wpList_callW eN63 [.tmp 14] _ rfl rfl [v2] rfl ?_
 refine (pieceWith_any v2 (Fr.Frame.pack 111 L1) w6 Rw6.out.2).mono ?_
 rintro e w7 ⟨rfl, hb_⟩
 refine ⟨_, rfl, ?_⟩
 have ep_ : pc (Fr.Frame.pack 111 L1) = p0 := (by rw [HH.out.2.1, HH.out.2.2]; rfl)
 rw [ep_]
 have Rw7 : Hid (Loc w w7 [(q1, 91, (obC (d : Nat) (a : Nat) ln bd id vb)), (q2, 52, bcells h3)]) := Rw6.out.1.later hb_
 clear hb_ ep_ Rw6
 simp only [Act.put, aS, aC, aZ]
 have ho_ := lit_own el134 w7 w.heap.size Rw7.out.below.size p0 HO.out.2.1
 have hb_ := below_alloc w7 (.cells (bcells p0).toArray 129)
 have hc_ : ∀ j u, (bcells p0)[j]? = some u → (w7.alloc (.cells (bcells p0).toArray 129)).cell? ⟨w7.heap.size, j, none⟩ = some u := fun j u hu => (Row.new w7 129 (bcells p0)).at j u hu
 refine wl rfl (.slice (some ⟨w7.heap.size, 0, none⟩) 1 1) _ (run_litOp el134 (.tmp 15) rfl p0 HO.out.2.1.1 rfl) ?_
 obtain ⟨w8, hW_⟩ : ∃ U_ : World, U_ = w7.alloc (.cells (bcells p0).toArray 129) := ⟨_, rfl⟩
 obtain ⟨q3, hq_⟩ : ∃ q, q = w7.heap.size := ⟨_, rfl⟩
 rw [← hW_] at hb_ hc_ ho_ ⊢
 rw [← hq_] at ho_ hc_ ⊢
 have Rw8 : Hid (Loc w w8 [(q1, 91, (obC (d : Nat) (a : Nat) ln bd id vb)), (q2, 52, bcells h3)] ∧ AOwn 129 56 w8 w.heap.size (.slice (some ⟨q3, 0, none⟩) 1 1) [p0]) := ⟨Rw7.out.later hb_, ho_⟩
 clear ho_ hb_ hc_ hW_ hq_ Rw7
 simp only [Act.put, aS, aC, aZ]
 refine wl rfl (.slice (some ⟨q3, 0, none⟩) 1 1) _ (run_asZ (.tmp 16) rfl (.slice (some ⟨q3, 0, none⟩) 1 1) rfl) ?_
 simp only [Act.put, aS, aC, aZ]
 refine wpList_nil ?_
 go_upto_region 3 with fail
 refine wp_region_lit ?_
 refine wl rfl (.pointer (some ⟨q1, 0 + 5, none⟩)) _ (run_fieldOp' f91_2 (.tmp 1) rfl q1 (0) rfl) ?_
 refine wl rfl vb _ (run_load1 o38 (.tmp 17) rfl q1 (0 + 5) rfl vb ((Rw8.out.1.at 0 rfl).at 5 _ rfl)) ?_
 refine wl rfl vb _ (run_asZ (.tmp 18) rfl vb rfl) ?_
 simp only [Act.put, aS, aC, aZ]
 refine wpList_nil ?_
 go_wp2_with fail
 go_loopw [4, 5] (fun vr vk W => ∃ k : Nat, k ≤ np bs.length ∧ Hid (SliceIn w vk (bs.drop (56 * k))) ∧ Hid (AOwn 129 56 W w.heap.size vr (p0 :: cutTo bs k) ∧ Loc w W [(q1, 91, (obC (d : Nat) (a : Nat) ln bd id vb)), (q2, 52, bcells h3)])) (fun _ vk _ => sliceLenN vk)
 case atStart => exact ⟨0, Nat.zero_le _, HM.out.1, Rw8.out.2, Rw8.out.1⟩
 case round =>
  obtain ⟨k, hk, HK, HI⟩ := hrel
  have HKL : Hid ((bs.drop (56 * k)).length = bs.length - 56 * k) := List.length_drop ..
  obtain ⟨rl, hrl⟩ : ∃ n, n = bs.length - 56 * k := ⟨_, rfl⟩
  have HRL : Hid (rl = bs.length - 56 * k) := hrl
  clear hrl
  by_cases hlt : 0 < rl
  ·go_upto_region 4 with fail
   refine wp_region_lit ?_
   refine wl rfl u5 _ (run_mvZ (.tmp 5) rfl u5 rfl) ?_
   refine wl rfl (.int .i64 (rl : Nat)) _ ((by rw [HRL.out, ← HKL.out]; exact run_lenS HK.out (.tmp 19) rfl rfl)) ?_
   refine wl rfl (.bool true) _ (run_gtrZ (.tmp 20) (.const (.int .i64 0)) rfl (rl : Nat) 0 rfl rfl true (decide_eq_true (by omega))) ?_
   simp only [Act.put, aS, aC, aZ]
   refine wpList_nil ?_
   obtain ⟨pk, hpk⟩ : ∃ x, x = pc (bs.drop (56 * k)) := ⟨_, rfl⟩
   have HP : Hid (pk = pc (bs.drop (56 * k)) ∧ (pk.length = 56 ∧ ∀ c ∈ pk, c < 256)) := ⟨hpk, by rw [hpk]; exact ⟨pc_length _, pc_lt HK.out.lt256⟩⟩
   clear hpk
   go_upto_region 6 with fail
   refine wp_region_lit ?_
   refine wl rfl u4 _ (run_mvZ (.tmp 4) rfl u4 rfl) ?_
   refine wl rfl u5 _ (run_mvZ (.tmp 5) rfl u5 rfl) ?_
   simp only [Act.put, aS, aC, aZ]
   refine wpList_callW eN63 [.tmp 28] _ rfl rfl [u5] rfl ?_
   refine (pieceWith_any u5 (bs.drop (56 * k)) wr (HK.out.later HI.out.2.below)).mono ?_
   rintro e x1 ⟨rfl, hb_⟩
   refine ⟨_, rfl, ?_⟩
   rw [← HP.out.1]
   have Q1 : Hid (Loc w x1 [(q1, 91, (obC (d : Nat) (a : Nat) ln bd id vb)), (q2, 52, bcells h3)] ∧ AOwn 129 56 x1 w.heap.size u4 (p0 :: cutTo bs k)) := ⟨HI.out.2.later hb_, HI.out.1.later hb_⟩
   clear hb_
   simp only [Act.put, aS, aC, aZ]
   have ho_ := lit_own el134 x1 w.heap.size Q1.out.1.below.size pk HP.out.2
   have hb_ := below_alloc x1 (.cells (bcells pk).toArray 129)
   have hc_ : ∀ j u, (bcells pk)[j]? = some u → (x1.alloc (.cells (bcells pk).toArray 129)).cell? ⟨x1.heap.size, j, none⟩ = some u := fun j u hu => (Row.new x1 129 (bcells pk)).at j u hu
   refine wl rfl (.slice (some ⟨x1.heap.size, 0, none⟩) 1 1) _ (run_litOp el134 (.tmp 29) rfl pk HP.out.2.1 rfl) ?_
   obtain ⟨x2, hW_⟩ : ∃ U_ : World, U_ = x1.alloc (.cells (bcells pk).toArray 129) := ⟨_, rfl⟩
   obtain ⟨q4, hq_⟩ : ∃ q, q = x1.heap.size := ⟨_, rfl⟩
   rw [← hW_] at hb_ hc_ ho_ ⊢
   rw [← hq_] at ho_ hc_ ⊢
   have Q2 : Hid (Loc w x2 [(q1, 91, (obC (d : Nat) (a : Nat) ln bd id vb)), (q2, 52, bcells h3)] ∧ AOwn 129 56 x2 w.heap.size u4 (p0 :: cutTo bs k) ∧ (∀ j u, (bcells pk)[j]? = some u → x2.cell? ⟨q4, j, none⟩ = some u)) := ⟨Q1.out.1.later hb_, Q1.out.2.later hb_, hc_⟩
   clear ho_ hb_ hc_ hW_ hq_ Q1
   simp only [Act.put, aS, aC, aZ]
   obtain ⟨v9, x3, hr_, ho_, hg_, _⟩ := run_app1 el134 w.heap.size u4 (p0 :: cutTo bs k) pk Q2.out.2.1 HP.out.2 q4 Q2.out.2.2 (by simp [cutTo_length]; unfold np at *; have := HM.out.2.2.2.2; omega) Q2.out.1.below.size
   refine wl rfl v9 x3 (run_appOp (.tmp 27) (.tmp 30) rfl _ _ _ rfl rfl hr_) ?_
   have Q3 : Hid (Loc w x3 [(q1, 91, (obC (d : Nat) (a : Nat) ln bd id vb)), (q2, 52, bcells h3)] ∧ AOwn 129 56 x3 w.heap.size v9 ((p0 :: cutTo bs k) ++ [pk])) := ⟨⟨Q2.out.1.below.trans (Q2.out.2.1.belowG hg_ Q2.out.1.below.size), fun i g T cs e => ⟨(Q2.out.1.at i e).grown hg_ (fun e' => own_ne Q2.out.2.1.2 e' (Q2.out.1.at i e) (by rcases i with _ | _ | i <;> simp at e <;> (try (obtain ⟨_, rfl, _⟩ := e; decide)))), Q2.out.1.ge i e⟩, Q2.out.1.ne⟩, ho_⟩
   clear hr_ ho_ hg_
   simp only [Act.put, aS, aC, aZ]
   refine wl rfl v9 _ (run_asZ (.tmp 31) rfl v9 rfl) ?_
   simp only [Act.put, aS, aC, aZ]
   refine wpList_nil ?_
   go_upto_region 5 with fail
   refine wp_region_lit ?_
   refine wl rfl u5 _ (run_mvZ (.tmp 5) rfl u5 rfl) ?_
   refine wl rfl u5 _ (run_mvZ (.tmp 5) rfl u5 rfl) ?_
   refine wl rfl (.int .i64 (rl : Nat)) _ ((by rw [HRL.out, ← HKL.out]; exact run_lenS HK.out (.tmp 23) rfl rfl)) ?_
   simp only [Act.put, aS, aC, aZ]
   refine wl rfl (.int .i64 ((min rl 56 : Nat) : Int)) _ (run_minZ (.tmp 24) rl 56 rfl rfl) ?_
   simp only [Act.put, aS, aC, aZ]
   obtain ⟨v8, hr_, hs_⟩ := run_bsub HK.out (lo := some (.int .i64 ((min rl 56 : Nat) : Int))) (hi := none) (mx := none) (l := min rl 56) (h := (bs.drop (56 * k)).length) ⟨Or.inr ⟨_, rfl, rfl⟩, Or.inl ⟨rfl, rfl, rfl⟩, (by rw [HKL.out, ← HRL.out]; omega), Nat.le_refl _⟩
   have Q4 : Hid (SliceIn w v8 (bs.drop (56 * (k + 1)))) := (by
    rw [List.take_of_length_le (Nat.le_refl _), List.drop_drop] at hs_
    rcases Nat.lt_or_ge rl 56 with q | q
    ·have e1 : bs.drop (56 * (k + 1)) = bs.drop (56 * k + min rl 56) := (by have := HRL.out; rw [List.drop_eq_nil_of_le (by omega), List.drop_eq_nil_of_le (by omega)])
     exact e1 ▸ hs_
    ·have e1 : 56 * (k + 1) = 56 * k + min rl 56 := (by omega)
     exact e1 ▸ hs_)
   refine wl rfl v8 _ (run_subB (.tmp 22) (some (.tmp 25)) none none rfl u5 v8 rfl hr_) ?_
   clear hr_ hs_
   simp only [Act.put, aS, aC, aZ]
   refine wl rfl v8 _ (run_asZ (.tmp 26) rfl v8 rfl) ?_
   simp only [Act.put, aS, aC, aZ]
   refine wpList_nil ?_
   have HF : Hid (k + 1 ≤ np bs.length ∧ sliceLenN v8 < sliceLenN u5) := ⟨by have := HRL.out; unfold np; omega, (by rw [slN Q4.out, slN HK.out, HKL.out, List.length_drop]; have := HRL.out; omega)⟩
   clear hk
   go_wp2_with fail
   refine ⟨⟨k + 1, HF.out.1, Q4.out, ?_⟩, HF.out.2⟩
   have q3_ := Q3.out
   rw [HP.out.1, List.cons_append, ← cutTo_succ] at q3_
   exact ⟨q3_.2, q3_.1⟩
  ·go_upto_region 4 with fail
   refine wp_region_lit ?_
   refine wl rfl u5 _ (run_mvZ (.tmp 5) rfl u5 rfl) ?_
   refine wl rfl (.int .i64 (rl : Nat)) _ ((by rw [HRL.out, ← HKL.out]; exact run_lenS HK.out (.tmp 19) rfl rfl)) ?_
   refine wl rfl (.bool false) _ (run_gtrZ (.tmp 20) (.const (.int .i64 0)) rfl (rl : Nat) 0 rfl rfl false (decide_eq_false (by omega))) ?_
   simp only [Act.put, aS, aC, aZ]
   refine wpList_nil ?_
   have HE : Hid (k = np bs.length) := (by show _ = _; have := HRL.out; unfold np at *; omega)
   clear hk
   obtain ⟨pk, hpk⟩ : ∃ x, x = pc h3 := ⟨_, rfl⟩
   have HP : Hid (pk = pc h3 ∧ (pk.length = 56 ∧ ∀ c ∈ pk, c < 256)) := ⟨hpk, by rw [hpk]; exact ⟨pc_length _, pc_lt HO.out.1.2⟩⟩
   clear hpk
   have HSH : Hid (SliceIn wr (.slice (some ⟨q2, 0 + 0, none⟩) 32 32) h3) := ⟨_, 32, by rw [HO.out.1.1], ⟨by rw [HO.out.1.1]; decide, by rw [HO.out.1.1]; decide⟩, Or.inr ⟨q2, 0, rfl, fun j hj => by rw [Nat.zero_add]; exact (HI.out.2.at 1 rfl).at j _ (bcells_at h3 j hj), lt256 h3 HO.out.1.2⟩⟩
   have hkk : k ≤ 10 := (by have := HE.out; have := HM.out.2.2.2.2; unfold np at *; omega)
   go_upto_region 7 with fail
   refine wp_region_lit ?_
   refine wl rfl u4 _ (run_mvZ (.tmp 4) rfl u4 rfl) ?_
   refine wl rfl (.slice (some ⟨q2, 0 + 0, none⟩) 32 32) _ (run_slA arr52 (.tmp 3) none none rfl q2 0 0 32 rfl ⟨Or.inl ⟨rfl, rfl⟩, Or.inl ⟨rfl, rfl⟩, by omega, by omega, by omega⟩) ?_
   simp only [Act.put, aS, aC, aZ]
   refine wpList_callW eN63 [.tmp 33] _ rfl rfl [(.slice (some ⟨q2, 0 + 0, none⟩) 32 32)] rfl ?_
   refine (pieceWith_any _ h3 wr HSH.out).mono ?_
   rintro e x1 ⟨rfl, hb_⟩
   refine ⟨_, rfl, ?_⟩
   rw [← HP.out.1]
   have Q1 : Hid (Loc w x1 [(q1, 91, (obC (d : Nat) (a : Nat) ln bd id vb)), (q2, 52, bcells h3)] ∧ AOwn 129 56 x1 w.heap.size u4 (p0 :: cutTo bs k)) := ⟨HI.out.2.later hb_, HI.out.1.later hb_⟩
   clear hb_
   simp only [Act.put, aS, aC, aZ]
   have ho_ := lit_own el134 x1 w.heap.size Q1.out.1.below.size pk HP.out.2
   have hb_ := below_alloc x1 (.cells (bcells pk).toArray 129)
   have hc_ : ∀ j u, (bcells pk)[j]? = some u → (x1.alloc (.cells (bcells pk).toArray 129)).cell? ⟨x1.heap.size, j, none⟩ = some u := fun j u hu => (Row.new x1 129 (bcells pk)).at j u hu
   refine wl rfl (.slice (some ⟨x1.heap.size, 0, none⟩) 1 1) _ (run_litOp el134 (.tmp 34) rfl pk HP.out.2.1 rfl) ?_
   obtain ⟨x2, hW_⟩ : ∃ U_ : World, U_ = x1.alloc (.cells (bcells pk).toArray 129) := ⟨_, rfl⟩
   obtain ⟨q4, hq_⟩ : ∃ q, q = x1.heap.size := ⟨_, rfl⟩
   rw [← hW_] at hb_ hc_ ho_ ⊢
   rw [← hq_] at ho_ hc_ ⊢
   have Q2 : Hid (Loc w x2 [(q1, 91, (obC (d : Nat) (a : Nat) ln bd id vb)), (q2, 52, bcells h3)] ∧ AOwn 129 56 x2 w.heap.size u4 (p0 :: cutTo bs k) ∧ (∀ j u, (bcells pk)[j]? = some u → x2.cell? ⟨q4, j, none⟩ = some u)) := ⟨Q1.out.1.later hb_, Q1.out.2.later hb_, hc_⟩
   clear ho_ hb_ hc_ hW_ hq_ Q1
   simp only [Act.put, aS, aC, aZ]
   obtain ⟨v9, x3, hr_, ho_, hg_, _⟩ := run_app1 el134 w.heap.size u4 (p0 :: cutTo bs k) pk Q2.out.2.1 HP.out.2 q4 Q2.out.2.2 (by simp [cutTo_length]; unfold np at *; have := HM.out.2.2.2.2; omega) Q2.out.1.below.size
   refine wl rfl v9 x3 (run_appOp (.tmp 32) (.tmp 35) rfl _ _ _ rfl rfl hr_) ?_
   have Q3 : Hid (Loc w x3 [(q1, 91, (obC (d : Nat) (a : Nat) ln bd id vb)), (q2, 52, bcells h3)] ∧ AOwn 129 56 x3 w.heap.size v9 ((p0 :: cutTo bs k) ++ [pk])) := ⟨⟨Q2.out.1.below.trans (Q2.out.2.1.belowG hg_ Q2.out.1.below.size), fun i g T cs e => ⟨(Q2.out.1.at i e).grown hg_ (fun e' => own_ne Q2.out.2.1.2 e' (Q2.out.1.at i e) (by rcases i with _ | _ | i <;> simp at e <;> (try (obtain ⟨_, rfl, _⟩ := e; decide)))), Q2.out.1.ge i e⟩, Q2.out.1.ne⟩, ho_⟩
   clear hr_ ho_ hg_
   simp only [Act.put, aS, aC, aZ]
   refine wl rfl v9 _ (run_asZ (.tmp 36) rfl v9 rfl) ?_
   simp only [Act.put, aS, aC, aZ]
   refine wpList_nil ?_
   go_wp2_with fail
   rw [HPQ.out]
   refine ⟨v9, rfl, ?_, Q3.out.1.below⟩
   have q3_ := Q3.out.2
   rw [HP.out.1, HH.out.1, HH.out.2.1, HE.out] at q3_
   exact q3_

end Go.Proofs.YtpkkkkomdblpoaaDoor

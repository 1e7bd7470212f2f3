/- The document's own plant: Boot, what holds from round to round. The document's own plant: Boot, steps. The document's own plant: Boot, its end. -/
import Derived.Test.YtdddfjkecmnggaaRefRot
namespace Go.Proofs.Ytdddfjkecmnggaa
open Go.RowKit Go.Maps

/-- which tapes have ended, as a row -/
def ends (N : Nat) (e : Nat → Bool) : List Value := (List.range N).map fun d => Value.bool (e d)
theorem ends_length (N : Nat) (e : Nat → Bool) : (ends N e).length = N := by simp [ends]
theorem ends_at (N : Nat) (e : Nat → Bool) (d : Nat) (h : d < N) : (ends N e)[d]? = some (.bool (e d)) := by simp [ends, h]
theorem ends_set (N : Nat) (e : Nat → Bool) (d : Nat) (v : Bool) : (ends N e).set d (.bool v) = ends N (fun j => if j = d then v else e j) := by
  apply List.ext_getElem?
  intro j
  by_cases hj : j = d
  · subst hj
    by_cases hl : j < N
    · rw [List.getElem?_set_self (by rw [ends_length]; exact hl), ends_at _ _ _ hl, if_pos rfl]
    · simp [ends, hl]
  · rw [List.getElem?_set_ne (Ne.symm hj)]
    by_cases hl : j < N
    · rw [ends_at _ _ _ hl, ends_at _ _ _ hl, if_neg hj]
    · simp [ends, hl]
def BootC (w : World) (c : Nat → Colour) (t g : Nat) (vd vt hv wv : Value) (ds ts : List Int) (m : Pl) (E N : Nat) (c' : Nat → Colour) (f : Nat → List (List Nat)) (e : Nat → Bool) (W : World) : Prop :=
  NextC w c t c' W ∧ RefAt W c' t g vd vt hv wv ds ts (m.withFl f) ∧ Row W E 4 (ends N e) ∧ (c' E).1 = t + 1 ∧ w.heap.size ≤ E
section
variable {w W W' : World} {c c' : Nat → Colour} {t g : Nat} {vd vt hv wv : Value} {ds ts : List Int} {m : Pl} {E N : Nat} {f : Nat → List (List Nat)} {e : Nat → Bool}
theorem BootC.below (h : BootC w c t g vd vt hv wv ds ts m E N c' f e W) (hb : Below W.heap.size W W') : BootC w c t g vd vt hv wv ds ts m E N c' f e W' :=
  ⟨⟨h.1.1, h.1.2.1, fun b hlt => h.1.2.2.1 b (Nat.le_trans hb.size hlt), h.1.2.2.2.trans (Ch.of_below hb)⟩, h.2.1.same (Same.below hb) hb.size, h.2.2.1.later hb h.2.2.1.lt, h.2.2.2⟩
theorem BootC.recol (h : BootC w c t g vd vt hv wv ds ts m E N c' f e W) (hb : Below W.heap.size W W') (b6 : Nat) (h6 : W.heap.size ≤ b6) (h7 : b6 < W'.heap.size) : BootC w c t g vd vt hv wv ds ts m E N (fun b => if b = b6 then (1, 0) else c' b) f e W' := by
  have hE := h.2.2.1.lt
  have hs := h.1.2.2.2.size
  refine ⟨⟨fun b hlt => by dsimp only; rw [if_neg (show b ≠ b6 by omega)]; exact h.1.1 b hlt, fun b hge => ?_, fun b hge => by dsimp only; rw [if_neg (show b ≠ b6 by omega)]; exact h.1.2.2.1 b (Nat.le_trans hb.size hge), h.1.2.2.2.trans (Ch.of_below hb)⟩, h.2.1.recol hb b6 h6, h.2.2.1.later hb hE, by dsimp only; rw [if_neg (show E ≠ b6 by omega)]; exact h.2.2.2.1, h.2.2.2.2⟩
  dsimp only
  by_cases e : b = b6
  · rw [if_pos e]; exact Or.inr (Or.inr rfl)
  · rw [if_neg e]; exact h.1.2.1 b hge
theorem BootC.settle (h : BootC w c t g vd vt hv wv ds ts m E N c' f e W) (i : Nat) (L : List (List Nat)) (hn : NextA W c' t g vd vt hv wv ds ts { m.withFl f with fl := upd (m.withFl f).fl i L } W') : ∃ c'', BootC w c t g vd vt hv wv ds ts m E N c'' (upd f i L) e W' := by
  obtain ⟨c'', h1, h2, h3, h4, h5⟩ := hn
  refine ⟨c'', nextC_trans h.1 h1 h2 h3 h5, h4, ?_, by rw [h1 E h.2.2.1.lt]; exact h.2.2.2.1, h.2.2.2.2⟩
  exact h5.row (by rw [h.2.2.2.1]; omega) h.2.2.1
theorem BootC.store (h : BootC w c t g vd vt hv wv ds ts m E N c' f e W) (ht0 : t ≠ 0) (d : Nat) : BootC w c t g vd vt hv wv ds ts m E N c' f (fun j => if j = d then true else e j) (W.setCell ⟨E, d, none⟩ (.bool true)) := by
  have hch : Ch (· = E) W (W.setCell ⟨E, d, none⟩ (.bool true)) := (Ch.refl (· = E) W).setCell (g := E) (Or.inl rfl) d _
  have hsz : (W.setCell ⟨E, d, none⟩ (.bool true)).heap.size = W.heap.size := World.size_setCell _ _ _
  refine ⟨⟨h.1.1, h.1.2.1, fun b hb => h.1.2.2.1 b (by omega), h.1.2.2.2.trans' hch fun b hlt eq => by have := h.2.2.2.2; omega⟩, h.2.1.same (Same.ch hch (fun b _ eq => ?_) fun _ _ => rfl) hch.size, ?_, h.2.2.2⟩
  · rw [eq, h.2.2.2.1]
    omega
  · rw [setCell_eq_setRow W E d _ 4 (0, 0) (.bool true) h.2.2.1, ← ends_set]
    have := h.2.2.1.setRow ((ends N e).set d (.bool true))
    simpa using this
end
theorem boot_same {m : Pl} (ks : List Int) (n : Nat) (hn : n < m.wts.length) (h : (bootTo m ks n).2 (wtAt m.wts n).dev = true) : bootTo m ks (n + 1) = bootTo m ks n := by
  rw [bootTo_succ m ks n _ (wtAt_get m.wts n hn)]
  unfold bootStep
  rw [if_pos h]
theorem boot_next {m : Pl} (ks : List Int) (n : Nat) (hn : n < m.wts.length) (h : (bootTo m ks n).2 (wtAt m.wts n).dev = false) : bootTo m ks (n + 1) = (upd (bootTo m ks n).1 (wtAt m.wts n).dev (settled (m.tape (wtAt m.wts n).dev) ((bootTo m ks n).1 (wtAt m.wts n).dev) (wtAt m.wts n).place (wtAt m.wts n).b (bootK ks n)), fun d => if d = (wtAt m.wts n).dev then !goesOn (m.tape (wtAt m.wts n).dev) (bootK ks n) else (bootTo m ks n).2 d) := by
  rw [bootTo_succ m ks n _ (wtAt_get m.wts n hn)]
  unfold bootStep
  rw [if_neg (by simp [h])]
theorem if_same' (e : Nat → Bool) (d : Nat) (h : e d = false) : (fun j => if j = d then false else e j) = e := by
  funext j
  split
  · rename_i hj; rw [hj, h]
  · rfl
/-- a disk never ends -/
theorem boot_disk {m : Pl} (ks : List Int) (d : Nat) (hd : m.tape d = false) : ∀ n, (bootTo m ks n).2 d = false
  | 0 => rfl
  | n + 1 => by
    have ih := boot_disk ks d hd n
    rw [bootTo]
    split
    · rename_i x hx
      unfold bootStep
      split
      · exact ih
      · dsimp only
        split
        · rename_i e
          rw [← e, hd]
          simp [goesOn]
        · exact ih
    · exact ih
theorem boot_odd {m : Pl} (ks : List Int) (n : Nat) (hn : n < m.wts.length) (h : (bootTo m ks n).2 (wtAt m.wts n).dev = false) (ho : bootK ks n % 2 = 1) : bootTo m ks (n + 1) = (upd (bootTo m ks n).1 (wtAt m.wts n).dev (lay (m.tape (wtAt m.wts n).dev) ((bootTo m ks n).1 (wtAt m.wts n).dev) (wtAt m.wts n).place (wtAt m.wts n).b), (bootTo m ks n).2) := by
  rw [boot_next ks n hn h]
  unfold settled goesOn
  rw [if_pos ho, decide_eq_true ho]
  simp only [Bool.true_or, Bool.not_true]
  rw [if_same' _ _ h]
theorem boot_dskip {m : Pl} (ks : List Int) (n : Nat) (hn : n < m.wts.length) (ht : m.tape (wtAt m.wts n).dev = false) (ho : ¬ bootK ks n % 2 = 1) : bootTo m ks (n + 1) = bootTo m ks n := by
  have h := boot_disk ks (wtAt m.wts n).dev ht n
  rw [boot_next ks n hn h, ht]
  unfold settled goesOn
  rw [if_neg ho, if_neg (by simp), upd_same]
  simp only [Bool.not_false, Bool.or_true, Bool.not_true]
  rw [if_same' _ _ h]
theorem boot_tskip {m : Pl} (ks : List Int) (n : Nat) (hn : n < m.wts.length) (h : (bootTo m ks n).2 (wtAt m.wts n).dev = false) (ht : m.tape (wtAt m.wts n).dev = true) (ho : ¬ bootK ks n % 2 = 1) (h4 : ¬ bootK ks n % 4 = 2) : bootTo m ks (n + 1) = ((bootTo m ks n).1, fun d => if d = (wtAt m.wts n).dev then true else (bootTo m ks n).2 d) := by
  rw [boot_next ks n hn h, ht]
  unfold settled goesOn
  rw [if_neg ho, if_neg (fun e => h4 e.2), upd_same, decide_eq_false ho]
  simp only [Bool.not_true, Bool.or_false, Bool.not_false]
theorem boot_torn {m : Pl} (ks : List Int) (n : Nat) (hn : n < m.wts.length) (h : (bootTo m ks n).2 (wtAt m.wts n).dev = false) (ht : m.tape (wtAt m.wts n).dev = true) (ho : ¬ bootK ks n % 2 = 1) (h4 : bootK ks n % 4 = 2) : bootTo m ks (n + 1) = (upd (bootTo m ks n).1 (wtAt m.wts n).dev (lay true ((bootTo m ks n).1 (wtAt m.wts n).dev) (wtAt m.wts n).place (torn (wtAt m.wts n).b)), fun d => if d = (wtAt m.wts n).dev then true else (bootTo m ks n).2 d) := by
  rw [boot_next ks n hn h, ht]
  unfold settled goesOn
  rw [if_neg ho, if_pos ⟨rfl, h4⟩, decide_eq_false ho]
  simp only [Bool.not_true, Bool.or_false, Bool.not_false]
end Go.Proofs.Ytdddfjkecmnggaa

namespace Go.Proofs.Ytdddfjkecmnggaa
open Go.RowKit Go.Maps

theorem zero81 : (Try.prog.info? 81).map (·.zero) = some (some (.agg ([.int .i64 0, .int .i64 0, .slice none 0 0] : List Value).toArray)) := by kernel_rfl
theorem i4 : (Try.prog.info? 4).map (fun i => (i.zero, i.size, i.bytes)) = some (some (.bool false), 1, 1) := by kernel_rfl
theorem o4 : OneT 4 := fun w g o v h => by simp [loadVar, isAgg, run_underlying Try.underlying4, h]
theorem s4 : (Try.prog.info? 4).map (·.size) = some 1 := by kernel_rfl
theorem madeEnds (N : Nat) : (madeCells (Value.bool false).cells (N * 1)).toList = ends N (fun _ => false) := by
  unfold madeCells ends
  apply List.ext_getElem?
  intro i
  by_cases h : i < N
  · simp [h, Value.cells, Nat.mod_one]
  · simp [h]
theorem idx95 (E N d : Nat) (h : d < N) (w' : World) : (Instr.indexAt 95 (.slice (some ⟨E, 0, none⟩) N N) (.int .i64 (d : Nat))).run Try.prog w' = .ok (.pointer (some ⟨E, d, none⟩)) w' := by
  obtain ⟨i5, hi5, hsz⟩ := Option.map_eq_some_iff.1 s4
  simp [Instr.indexAt, asIntOf, run_underlying Try.underlying95, h, sizeOf, typeInfo, hi5, hsz, add_none]
section
variable {w w0 : World} {ops : Array Oper} {rest : List Oper} {o : Oper} {a : Act} {Q : Exit → Act → World → Prop}
theorem wl_make95 (x y : Operand) (hgd : Region.wanted o (yielded ops a.tmps) = true) (ho : o.op = .makeSlice 95 x y) (N : Nat) (hN : N ≤ 1000) (hx : a.eval x = .int .i64 (N : Nat)) (hy : a.eval y = .int .i64 (N : Nat))
    (h : ∀ E w', E = w.heap.size → Row w' E 4 (ends N (fun _ => false)) → w'.heap.size = w.heap.size + 1 → Below w.heap.size w w' → wpList Try.prog ops Q rest (a.put o.dst (.slice (some ⟨E, 0, none⟩) N N)) w') : wpList Try.prog ops Q (o :: rest) a w := by
  obtain ⟨i0, hi0, hz0, hz1, hz2⟩ := info_parts i4
  have hmk := run_make (P := Try.prog) w 95 4 i0 _ Try.underlying95 hi0 hz0 .i64 .i64 (N : Int) (N : Int) (by omega) (Int.le_refl _) (by rw [hz2]; omega) (by omega)
  simp only [Int.toNat_natCast, hz1] at hmk
  have hr := Row.new' w 4 (madeCells (Value.bool false).cells (N * 1))
  rw [madeEnds] at hr
  exact wl hgd _ _ (by simp only [execOp, ho, hx, hy, hmk, Sem.run_bind, Sem.run_pure, Result.andThen_ok]) (h _ _ rfl hr (World.size_alloc _ _) ((Below.refl _ _).alloc (Nat.le_refl _) _))
theorem run_remK (w : World) (k : Int) : (binOp .rem 3 (.int .i64 k) (.int .i64 2)).run Try.prog w = .ok (.int .i64 (k.tmod 2)) w := by
  simp [binOp, go_sem]
theorem odd_tmod (k : Int) : k.tmod 2 ≠ 0 ↔ k % 2 = 1 := by
  rcases Int.lt_or_le k 0 with h | h
  · have := Int.tmod_eq_emod_of_nonneg (b := 2) (a := -k) (by omega)
    rw [Int.neg_tmod] at this
    omega
  · rw [Int.tmod_eq_emod_of_nonneg h]
    omega
theorem wl_rem2 (x : Operand) (hgd : Region.wanted o (yielded ops a.tmps) = true) (ho : o.op = .binOp .rem 3 x (.const (.int .i64 2)) 3) (k : Int) (hx : a.eval x = .int .i64 k) (h : wpList Try.prog ops Q rest (a.put o.dst (.int .i64 (k.tmod 2))) w) : wpList Try.prog ops Q (o :: rest) a w := wl hgd _ w (by
  have hy : a.eval (.const (.int .i64 2)) = .int .i64 2 := rfl
  have e : (eqGuard .rem 3 x (.const (.int .i64 2)) (.int .i64 k) (.int .i64 2)).run Try.prog w = .ok () w := rfl
  simp only [execOp, ho, hx, hy, e, Sem.run_bind, Sem.run_pure, Result.andThen_ok, run_remK w k]) h
theorem wl_ne0 (x : Operand) (hgd : Region.wanted o (yielded ops a.tmps) = true) (ho : o.op = .binOp .neq 3 x (.const (.int .i64 0)) 3) (k : Int) (hx : a.eval x = .int .i64 k) (b : Bool) (hb : decide (k ≠ 0) = b) (h : wpList Try.prog ops Q rest (a.put o.dst (.bool b)) w) : wpList Try.prog ops Q (o :: rest) a w := wl hgd _ w (by
  subst hb
  have hy : a.eval (.const (.int .i64 0)) = .int .i64 0 := rfl
  simp only [execOp, ho, hx, hy]
  by_cases h : k = 0
  · subst h; simp [go_sem]
  · simp [go_sem, h]) h
theorem wl_and3 (x : Operand) (hgd : Region.wanted o (yielded ops a.tmps) = true) (ho : o.op = .binOp .and 3 x (.const (.int .i64 3)) 3) (k : Int) (hx : a.eval x = .int .i64 k) (h : wpList Try.prog ops Q rest (a.put o.dst (.int .i64 (k % 4))) w) : wpList Try.prog ops Q (o :: rest) a w := wl hgd _ w (by
  have hy : a.eval (.const (.int .i64 3)) = .int .i64 3 := rfl
  simp only [execOp, ho, hx, hy]
  simp [go_sem, i64_and3]) h
theorem wl_eqc (c : Int) (x : Operand) (hgd : Region.wanted o (yielded ops a.tmps) = true) (ho : o.op = .binOp .eql 3 x (.const (.int .i64 c)) 3) (k : Int) (hx : a.eval x = .int .i64 k) (b : Bool) (hb : decide (k = c) = b) (h : wpList Try.prog ops Q rest (a.put o.dst (.bool b)) w) : wpList Try.prog ops Q (o :: rest) a w := wl_eqI x (.const (.int .i64 c)) hgd ho k c hx rfl b hb h
end
/-- a block on its way to be torn -/
def tornTo (b : List Nat) (j : Nat) : List Nat := (List.range 64).map fun i => if 32 ≤ i ∧ i < j then 0 else b.getD i 0
theorem tornTo_length (b : List Nat) (j : Nat) : (tornTo b j).length = 64 := by simp [tornTo]
theorem tornTo_at (b : List Nat) (j i : Nat) (h : i < 64) : (tornTo b j)[i]? = some (if 32 ≤ i ∧ i < j then 0 else b.getD i 0) := by simp [tornTo, h]
theorem tornTo_zero (b : List Nat) (h : b.length = 64) : tornTo b 32 = b := by
  apply List.ext_getElem?
  intro i
  by_cases hi : i < 64
  · rw [tornTo_at b 32 i hi, if_neg (by omega)]
    simp [h, hi]
  · rw [List.getElem?_eq_none (by rw [tornTo_length]; omega), List.getElem?_eq_none (by omega)]
theorem tornTo_set (b : List Nat) (j : Nat) (h : 32 ≤ j) : (tornTo b j).set j 0 = tornTo b (j + 1) := by
  apply List.ext_getElem?
  intro i
  by_cases hi : i < 64
  · by_cases e : j = i
    · subst e
      rw [List.getElem?_set_self (by rw [tornTo_length]; exact hi), tornTo_at b (j + 1) j hi, if_pos (by omega)]
    · rw [List.getElem?_set_ne e, tornTo_at b j i hi, tornTo_at b (j + 1) i hi]
      congr 1
      by_cases h1 : 32 ≤ i ∧ i < j
      · rw [if_pos h1, if_pos (by omega)]
      · rw [if_neg h1, if_neg (by omega)]
  · rw [List.getElem?_eq_none (by rw [List.length_set, tornTo_length]; omega), List.getElem?_eq_none (by rw [tornTo_length]; omega)]
theorem tornTo_all (b : List Nat) (h : b.length = 64) : tornTo b 64 = torn b := by
  apply List.ext_getElem?
  intro i
  unfold torn
  by_cases hi : i < 64
  · rw [tornTo_at b 64 i hi]
    by_cases h1 : 32 ≤ i
    · rw [if_pos ⟨h1, hi⟩, List.getElem?_append_right (by simp [h]; omega), List.getElem?_replicate, if_pos (by simp [h]; omega)]
    · rw [if_neg (by omega), List.getElem?_append_left (by simp [h]; omega), List.getElem?_take]
      simp [show i < 32 by omega, h, hi]
  · rw [List.getElem?_eq_none (by rw [tornTo_length]; omega), List.getElem?_eq_none (by simp [h]; omega)]
end Go.Proofs.Ytdddfjkecmnggaa

namespace Go.Proofs.Ytdddfjkecmnggaa
open Go.RowKit Go.Maps

/-- what is settled with the plant as it is on its way -/
theorem boot_call {W : World} {c' : Nat → Colour} {t g : Nat} {vd vt hv wv : Value} {ds ts : List Int} {m : Pl} {f : Nat → List (List Nat)} (h : RefAt W c' t g vd vt hv wv ds ts (m.withFl f)) (ht1 : t ≠ 1) (hfr : ∀ b, W.heap.size ≤ b → (c' b).1 = t + 1) (i p : Nat) (hin : i < m.n) (hp : m.tape i = false → p < (f i).length) (hp2 : (f i).length ≤ 1000000) (u : Value) (s : List Nat) (hu : RO W c' u s) :
    Calls Try.prog 51 #[ptr g, waitV i p u] W fun e w' => e = .returned noResult ∧ NextA W c' t g vd vt hv wv ds ts { m.withFl f with fl := upd (m.withFl f).fl i (lay (m.tape i) (f i) p s) } w' := refSettle h ht1 hfr i p hin hp hp2 u s hu
theorem row_cell {W : World} {g T i : Nat} {cur : List Value} (h : Row W g T cur) (v : Value) : Row (W.setCell ⟨g, i, none⟩ v) g T (cur.set i v) := by
  rw [setCell_eq_setRow W g i _ T (0, 0) v h]
  have := h.setRow (cur.set i v)
  simpa using this
theorem BootC.other {w W : World} {c c' : Nat → Colour} {t g : Nat} {vd vt hv wv : Value} {ds ts : List Int} {m : Pl} {E N : Nat} {f : Nat → List (List Nat)} {e : Nat → Bool} (h : BootC w c t g vd vt hv wv ds ts m E N c' f e W) (ht0 : t ≠ 0) (q i : Nat) (v : Value) (hq : (c' q).1 = t + 1) (hqw : w.heap.size ≤ q) (hqE : E ≠ q) : BootC w c t g vd vt hv wv ds ts m E N c' f e (W.setCell ⟨q, i, none⟩ v) := by
  have hch : Ch (· = q) W (W.setCell ⟨q, i, none⟩ v) := (Ch.refl (· = q) W).setCell (g := q) (Or.inl rfl) i _
  have hsz : (W.setCell ⟨q, i, none⟩ v).heap.size = W.heap.size := World.size_setCell _ _ _
  exact ⟨⟨h.1.1, h.1.2.1, fun b hb => h.1.2.2.1 b (by omega), h.1.2.2.2.trans' hch fun b hlt eq => by omega⟩, h.2.1.same (Same.ch hch (fun b _ eq => by rw [eq, hq]; omega) fun _ _ => rfl) hch.size, hch.row hqE h.2.2.1, h.2.2.2⟩
theorem NextA.headAfter {w W1 W2 : World} {c : Nat → Colour} {t g : Nat} {vd vt hv wv : Value} {ds ts : List Int} {m1 m2 : Pl} (h : NextA w c t g vd vt hv wv ds ts m1 W1) (ht1 : t ≠ 1) (hcg : (c g).1 = t) (hr : RefRow W2 g vd vt hv wv m2) (hc : Ch (· = g) W1 W2) (hsh : m2.sh = m1.sh) (hfl : m2.fl = m1.fl) (hwt : m2.wts = m1.wts) : NextA w c t g vd vt hv wv ds ts m2 W2 := by
  obtain ⟨c2, h1, h2, h3, h4, h5⟩ := h
  exact ⟨c2, h1, h2, fun b hb => h3 b (Nat.le_trans hc.size hb), h4.head ht1 hr hc hsh hfl hwt, h5.trans' hc fun b _ e => by rw [e]; exact hcg⟩
theorem f56_off : FieldAt 56 3 4 := fun w g off => by kernel_rfl
theorem f56_burns : FieldAt 56 4 5 := fun w g off => by kernel_rfl
/-- all waits are gone, the power is on -/
theorem boot_end {w W : World} {c c' : Nat → Colour} {t g : Nat} {vd vt hv wv : Value} {ds ts : List Int} {m : Pl} {E N : Nat} (ks : List Int) (h : BootC w c t g vd vt hv wv ds ts m E N c' (bootTo m ks m.wts.length).1 (bootTo m ks m.wts.length).2 W) (ht0 : t ≠ 0) (ht1 : t ≠ 1) (hcg : (c g).1 = t) :
    NextA w c t g vd vt hv (.slice none 0 0) ds ts (m.boot ks) (((W.setCell ⟨g, 3, none⟩ (.slice none 0 0)).setCell ⟨g, 4, none⟩ (.bool false)).setCell ⟨g, 5, none⟩ (.bool false)) := by
  have h1 := flush_end h.1 h.2.1 (left_nil w.heap.size W c' t) ht1 ht0 hcg
  obtain ⟨left, hl, hr⟩ := h.2.1.row
  refine h1.headAfter ht1 hcg ⟨left, fun e => ?_, ?_⟩ (((Ch.refl (· = g) _).setCell (g := g) (Or.inl rfl) 4 _).setCell (g := g) (Or.inl rfl) 5 _) rfl rfl rfl
  · exact absurd e (show ¬ (0 : Int) ≤ -1 by decide)
  · exact row_cell (i := 5) (row_cell (i := 4) (row_cell (i := 3) hr (.slice none 0 0)) (.bool false)) (.bool false)
theorem en51 : EntersF 51 := Go.Proofs.enters_of Try.func51 (by kernel_rfl) rfl
end Go.Proofs.Ytdddfjkecmnggaa

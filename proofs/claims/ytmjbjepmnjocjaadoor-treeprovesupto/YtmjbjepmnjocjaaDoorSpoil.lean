/- A hash of a row of the call's own written over. -/
import Derived.Test.YtmjbjepmnjocjaaDoorShown
namespace Go.Proofs.YtmjbjepmnjocjaaDoor
open Go.RowKit

theorem flat_set (hs : List (List Nat)) (h : List Nat) (ha : AllH hs) (k : Nat) (hk : k < hs.length) (hh : IsH h) : (hs.set k h).flatten = splice hs.flatten (k * 32) h := by
  unfold splice
  rw [hh.1, ← flat_take hs ha, show k * 32 + 32 = (k + 1) * 32 by omega, ← flat_drop hs ha, List.set_eq_take_append_cons_drop, if_pos hk, List.flatten_append, List.flatten_cons]
theorem splice_takeN {α : Type} (cur x : List α) (o N : Nat) (h : o + x.length ≤ N) (hN : N ≤ cur.length) : (splice cur o x).take N = splice (cur.take N) o x := by
  unfold splice
  have e1 : (cur.take o).length = o := by rw [List.length_take]; omega
  rw [List.take_append, e1, List.take_of_length_le (l := cur.take o) (by omega), List.take_append, List.take_of_length_le (l := x) (by omega), List.take_take, Nat.min_eq_left (by omega), List.drop_take]
  congr 3
  omega
theorem bcells_splice (a b : List Nat) (o : Nat) : splice (bcells a) o (bcells b) = bcells (splice a o b) := by
  unfold splice
  simp [bcells]
theorem AllH.set {hs : List (List Nat)} (h : AllH hs) (k : Nat) {x : List Nat} (hx : IsH x) : AllH (hs.set k x) := fun y hy => by
  rcases List.mem_or_eq_of_mem_set hy with hy | rfl
  · exact h y hy
  · exact hx
/-- where a row lies, and the hash k of it written over -/
theorem hset_own {w : World} {base : Nat} {v : Value} {hs : List (List Nat)} (hown : HOwn w base v hs) (k : Nat) (hk : k < hs.length) (h : List Nat) (hh : IsH h) :
    ∃ g w', (∀ W, (Instr.indexAt 24 v (.int .i64 (k : Nat))).run Tryd.prog W = .ok (.pointer (some ⟨g, k * 32, none⟩)) W) ∧ (storeVar 27 ⟨g, k * 32, none⟩ (hv h)).run Tryd.prog w = .ok () w' ∧ HOwn w' base v (hs.set k h) ∧ w.grownBy w' v.ownBlock := by
  obtain ⟨ha, hl, hin⟩ := hown
  rcases hin with ⟨rfl, h0⟩ | ⟨g, cap, cur, rfl, hb, hg, hcap, hmax, hsz, htake⟩
  · omega
  obtain ⟨i27, hi27, hs27⟩ := Option.map_eq_some_iff.1 size27
  have hrow : Row w g 27 cur.toList := by unfold Row; simpa using hg
  have hbl : (bcells h).length = 32 := by rw [bcells_length]; exact hh.1
  have hcl : cur.toList.length = cap * 32 := by simpa using hsz
  have hle : (k + 1) * 32 ≤ hs.length * 32 := Nat.mul_le_mul_right 32 hk
  have hle2 : hs.length * 32 ≤ cap * 32 := Nat.mul_le_mul_right 32 hcap
  have hst := run_storeVar agg25 w g (k * 32) 27 cur.toList (bcells h) hbl hrow (by omega) (bcells_one h)
  refine ⟨g, _, fun W => by simp [Instr.indexAt, asIntOf, run_underlying Tryd.underlying24, hk, sizeOf, typeInfo, hi27, hs27, add_none], hst, ?_, ?_⟩
  · refine ⟨ha.set k hh, by rw [bcells_length, flat_length _ (ha.set k hh)], Or.inr ⟨g, cap, (splice cur.toList (k * 32) (bcells h)).toArray, by rw [List.length_set], hb, hrow.setRow _, by rw [List.length_set]; exact hcap, hmax, ?_, ?_⟩⟩
    · rw [List.size_toArray, length_splice _ _ _ (by omega), hcl]
    · show (splice cur.toList (k * 32) (bcells h)).take ((hs.set k h).length * 32) = _
      rw [List.length_set, splice_takeN _ _ _ _ (by omega) (by omega), htake, bcells_splice, flat_set hs h ha k hk hh]
  · exact ⟨rfl, rfl, rfl, by simp [World.setRow], fun b _ hne => Go.setRow_other w g b _ (fun e => hne (by rw [e]; rfl))⟩
section
variable {w : World} {ops : Array Oper} {rest : List Oper} {o : Oper} {a : Act} {Q : Exit → Act → World → Prop}
theorem run_noH (w : World) : (Instr.build 27 #[]).run Tryd.prog w = .ok (hv noH) w := by
  rw [show hv noH = .agg (zerosU8 32).toArray by unfold hv; rw [noH_cells]]
  kernel_rfl
theorem wl_noH (hgd : Region.wanted o (yielded ops a.tmps) = true) (ho : o.op = .build 27 #[]) (h : wpList Tryd.prog ops Q rest (a.put o.dst (hv noH)) w) : wpList Tryd.prog ops Q (o :: rest) a w :=
  wl hgd _ w (by simp [execOp, ho, run_noH]) h
theorem wl_hset {o1 o2 : Oper} {d : Tmp} (x i y : Operand) (hg1 : o1.guard = none) (hg2 : o2.guard = none) (hd1 : o1.dst = some d) (hd2 : o2.dst = none) (ho1 : o1.op = .indexAddr 24 x i) (ho2 : o2.op = .store 27 (.tmp d) y) (base : Nat) (v : Value) (hs : List (List Nat)) (hx : a.eval x = v) (hown : HOwn w base v hs) (k : Nat) (hi : a.eval i = .int .i64 (k : Nat)) (hk : k < hs.length) (h' : List Nat) (hh : IsH h')
    (hxd : ∀ u, (a.put (some d) u).eval (.tmp d) = u) (hy : ∀ u, (a.put (some d) u).eval y = hv h')
    (h : ∀ p w', HOwn w' base v (hs.set k h') → w.grownBy w' v.ownBlock → wpList Tryd.prog ops Q rest (a.put (some d) p) w') : wpList Tryd.prog ops Q (o1 :: o2 :: rest) a w := by
  obtain ⟨g, w', hr1, hr2, ho', hg'⟩ := hset_own hown k hk h' hh
  refine wl (by simp [Region.wanted, hg1]) _ w (rx_index x i ho1 v _ hx _ hi hr1) ?_
  rw [hd1]
  refine wlSkip (by simp [Region.wanted, hg2]) hd2 w' ?_ (h _ w' ho' hg')
  simp only [execOp, ho2, hxd, hy, Instr.storeAt, Instr.sureAddr, hr2, Sem.run_bind, Sem.run_pure, Result.andThen_ok]
end
theorem grown_trans {a b c : World} {r : Option Nat} (h : a.grownBy b r) (k : b.grownBy c r) : a.grownBy c r :=
  ⟨k.os.trans h.os, k.tape.trans h.tape, k.output.trans h.output, Nat.le_trans h.size k.size, fun i hi hne => (k.block i (Nat.lt_of_lt_of_le hi h.size) hne).trans (h.block i hi hne)⟩
theorem HOwn.kept {w w' : World} {base : Nat} {v : Value} {hs : List (List Nat)} {r : Option Nat} (h : HOwn w base v hs) (hg : w.grownBy w' r) (hne : ∀ k, v.ownBlock = some k → r ≠ some k) : HOwn w' base v hs :=
  own_kept h fun b hb => hg.block b (h.2.lt b hb).2 (fun e => hne b hb e.symm)
/-- the first k written over -/
def blank (P : List (List Nat)) (k : Nat) : List (List Nat) := List.replicate k noH ++ P.drop k
theorem blank_length (P : List (List Nat)) (k : Nat) (h : k ≤ P.length) : (blank P k).length = P.length := by simp [blank]; omega
theorem blank_set (P : List (List Nat)) (k : Nat) (h : k < P.length) : (blank P k).set k noH = blank P (k + 1) := by
  unfold blank
  rw [List.set_append_right _ _ (by simp), List.length_replicate, Nat.sub_self, List.drop_eq_getElem_cons h, List.set_cons_zero, List.replicate_succ', List.append_assoc]
  rfl
theorem blank_zero (P : List (List Nat)) : blank P 0 = P := by simp [blank]
end Go.Proofs.YtmjbjepmnjocjaaDoor

/- Regions that draw their order, taken by hand: what is pure comes first, then the few orders that are left. -/
import Derived.Test.YtgkmegcejekbcaaDev
namespace Go.Proofs.Ytgkmegcejekbcaa
open Go.RowKit Go.Maps

section
variable {ops : Array Oper} {Q : Exit → Act → World → Prop} {a : Act} {w : World} {listed : Array Bool} {fuel : Nat}
theorem takeA {i : Nat} (d : Option Tmp) {oi : Oper} {v : Value} (hi : ops[i]? = some oi) (hd : oi.dst = d)
    (hs : Region.noSelect ops = true) (hf : Region.free .any ops listed i = true) (hr : (Region.ready .any ops listed).contains i = true)
    (hQ : ∀ c a w, Q (.panic c) (a.put d v) w → Q (.panic c) a w) (hy : Yields Try.prog ops oi v a)
    (h : wpAny Try.prog .any ops Q fuel (listed.setIfInBounds i true) (a.put d v) w) : wpAny Try.prog .any ops Q (fuel + 1) listed a w := by
  subst hd
  exact wpAny_take hi hs hf hr hQ hy h
theorem anyOne {i : Nat} (hr : Region.ready .any ops listed = [i]) (h : wpOp Try.prog ops Q i (wpAny Try.prog .any ops Q fuel (listed.setIfInBounds i true)) a w) : wpAny Try.prog .any ops Q (fuel + 1) listed a w :=
  ⟨fun h0 => (by rw [hr] at h0; cases h0), fun j hj => by rw [hr] at hj; obtain rfl := List.mem_singleton.1 hj; exact h⟩
theorem anyTwo {i j : Nat} (hr : Region.ready .any ops listed = [i, j]) (h : wpOp Try.prog ops Q i (wpAny Try.prog .any ops Q fuel (listed.setIfInBounds i true)) a w) (h' : wpOp Try.prog ops Q j (wpAny Try.prog .any ops Q fuel (listed.setIfInBounds j true)) a w) : wpAny Try.prog .any ops Q (fuel + 1) listed a w :=
  ⟨fun h0 => (by rw [hr] at h0; cases h0), fun k hk => by
    rw [hr] at hk
    rcases List.mem_cons.1 hk with rfl | hk
    · exact h
    · obtain rfl := List.mem_singleton.1 hk
      exact h'⟩
theorem opValue {i : Nat} (d : Option Tmp) {o : Oper} {K : Act → World → Prop} (hi : ops[i]? = some o) (hd : o.dst = d) (hgd : o.guard = none) (v : Value) (w' : World) (hrun : (execOp a.eval o).run Try.prog w = .ok (.value v) w') (h : K (a.put d v) w') : wpOp Try.prog ops Q i K a w := by
  subst hd
  unfold wpOp
  have hw : Region.wanted o (yielded ops a.tmps) = true := by simp [Region.wanted, hgd]
  simp only [hi, hw, if_true, Oper.wp, hrun, Oper.upon]
  exact .inl h
theorem opCallA {i : Nat} (d : Option Tmp) {o : Oper} {K : Act → World → Prop} (hi : ops[i]? = some o) (hd : o.dst = d) (hgd : o.guard = none) (f : Nat) (args : Array Value) (hrun : (execOp a.eval o).run Try.prog w = .ok (.enter f args) w) (h : Calls Try.prog f args w fun e w' => ∃ v, e = .returned v ∧ K (a.put d v) w') : wpOp Try.prog ops Q i K a w := by
  subst hd
  unfold wpOp
  have hw : Region.wanted o (yielded ops a.tmps) = true := by simp [Region.wanted, hgd]
  simp only [hi, hw, if_true, Oper.wp, hrun, Oper.upon]
  refine .inl (Calls.mono h fun e w' he => ?_)
  obtain ⟨v, rfl, hK⟩ := he
  exact hK
theorem yMove {o : Oper} (hgd : o.guard = none) (x : Operand) (ho : o.op = .move x) (v : Value) (hv : a.eval x = v) : Yields Try.prog ops o v a :=
  Or.inl ⟨by simp [Region.wanted, hgd], fun w => by simp [execOp, ho, hv]⟩
theorem yNil {o : Oper} (hgd : o.guard = none) (x : Operand) (ho : o.op = .nilCheck x) (p : Addr) (hv : a.eval x = .pointer (some p)) : Yields Try.prog ops o (.pointer (some p)) a :=
  Or.inl ⟨by simp [Region.wanted, hgd], fun w => by simp [execOp, ho, hv]⟩
theorem yField {o : Oper} {T i k : Nat} (hf : FieldAt T i k) (hgd : o.guard = none) (x : Operand) (ho : o.op = .fieldAddr T x i) (g off : Nat) (hv : a.eval x = .pointer (some ⟨g, off, none⟩)) : Yields Try.prog ops o (.pointer (some ⟨g, off + k, none⟩)) a :=
  Or.inl ⟨by simp [Region.wanted, hgd], fun w => by simp [execOp, ho, hv, hf w g off]⟩
/-- the end of a region whose order is forced -/
theorem anySeq (l : List Oper) (n : Nat) (hl : ∀ j, l[j]? = ops[n + j]?) (hB : Region.seqB .any ops fuel n listed = true) (hf : fuel = l.length) (h : wpList Try.prog ops Q l a w) : wpAny Try.prog .any ops Q fuel listed a w := by
  subst hf
  exact wpAny_of_seq (md := .any) (Q' := Q) l n listed a w hl hB h
theorem anySeqD {l : List Oper} (n : Nat) (hB : Region.seqB .any l.toArray fuel n listed = true) (hf : fuel = l.length - n) (h : wpList Try.prog l.toArray Q (l.drop n) a w) : wpAny Try.prog .any l.toArray Q fuel listed a w :=
  anySeq (l.drop n) n (fun j => by simp [List.getElem?_drop]) hB (by simpa using hf) h
/-- a look i, and an operation j with k behind it: three orders, one end -/
theorem anyThree {i j k : Nat} {oi : Oper} (di dj dk : Tmp) (hi : ops[i]? = some oi) (hdi : oi.dst = some di) (gi : oi.guard = none) (hij : di ≠ dj) (hik : di ≠ dk) (nij : i ≠ j) (nik : i ≠ k)
    (r0 : Region.ready .any ops listed = [i, j]) (r1 : Region.ready .any ops (listed.setIfInBounds i true) = [j]) (r2 : Region.ready .any ops ((listed.setIfInBounds i true).setIfInBounds j true) = [k])
    (r3 : Region.ready .any ops (listed.setIfInBounds j true) = [i, k]) (r5 : Region.ready .any ops ((listed.setIfInBounds j true).setIfInBounds k true) = [i])
    (vi : Value) (J : Value → World → Prop) (K : Value → Value → World → Prop)
    (ei : (execOp a.eval oi).run Try.prog w = .ok (.value vi) w)
    (ei1 : ∀ v w', J v w' → (execOp (a.put (some dj) v).eval oi).run Try.prog w' = .ok (.value vi) w')
    (ei2 : ∀ v w' u w'', J v w' → K v u w'' → (execOp ((a.put (some dj) v).put (some dk) u).eval oi).run Try.prog w'' = .ok (.value vi) w'')
    (hj : ∀ R : Act → World → Prop, (∀ v w', J v w' → R (a.put (some dj) v) w') → wpOp Try.prog ops Q j R a w)
    (hj' : ∀ R : Act → World → Prop, (∀ v w', J v w' → R ((a.put (some di) vi).put (some dj) v) w') → wpOp Try.prog ops Q j R (a.put (some di) vi) w)
    (hk : ∀ v w', J v w' → ∀ R : Act → World → Prop, (∀ u w'', K v u w'' → R ((a.put (some dj) v).put (some dk) u) w'') → wpOp Try.prog ops Q k R (a.put (some dj) v) w')
    (hk' : ∀ v w', J v w' → ∀ R : Act → World → Prop, (∀ u w'', K v u w'' → R (((a.put (some di) vi).put (some dj) v).put (some dk) u) w'') → wpOp Try.prog ops Q k R ((a.put (some di) vi).put (some dj) v) w')
    (tail : ∀ v w' u w'', J v w' → K v u w'' → wpAny Try.prog .any ops Q fuel (((listed.setIfInBounds i true).setIfInBounds j true).setIfInBounds k true) (((a.put (some di) vi).put (some dj) v).put (some dk) u) w'') :
    wpAny Try.prog .any ops Q (fuel + 3) listed a w := by
  have cij : ∀ (b : Act) (u v : Value), (b.put (some dj) u).put (some di) v = (b.put (some di) v).put (some dj) u := fun b u v => by
    unfold Act.put
    simp [Array.setIfInBounds_comm _ _ hij]
  have cik : ∀ (b : Act) (u v : Value), (b.put (some dk) u).put (some di) v = (b.put (some di) v).put (some dk) u := fun b u v => by
    unfold Act.put
    simp [Array.setIfInBounds_comm _ _ hik]
  have sij : (listed.setIfInBounds j true).setIfInBounds i true = (listed.setIfInBounds i true).setIfInBounds j true := Array.setIfInBounds_comm _ _ (Ne.symm nij)
  refine anyTwo r0 ?_ ?_
  · refine opValue (some di) hi hdi gi vi w ei (anyOne r1 (hj' _ fun v w' hJ => anyOne r2 (hk' v w' hJ _ fun u w'' hK => tail v w' u w'' hJ hK)))
  · refine hj _ fun v w' hJ => anyTwo r3 ?_ ?_
    · refine opValue (some di) hi hdi gi vi w' (ei1 v w' hJ) ?_
      rw [sij, cij]
      exact anyOne r2 (hk' v w' hJ _ fun u w'' hK => tail v w' u w'' hJ hK)
    · refine hk v w' hJ _ fun u w'' hK => anyOne r5 (opValue (some di) hi hdi gi vi w'' (ei2 v w' u w'' hJ hK) ?_)
      rw [cik, cij, Array.setIfInBounds_comm _ _ (Ne.symm nik), sij]
      exact tail v w' u w'' hJ hK
theorem run_oneOp {o : Oper} {t e n bytes : Nat} {zs : List Value} (ht : Try.prog.underlying t = some (.slice e)) (hi : (Try.prog.info? e).map (fun i => (i.zero, i.size, i.bytes)) = some (some (.agg zs.toArray), n, bytes)) (hn : 0 < n) (hn' : n ≤ 100) (x : Operand) (ho : o.op = .buildSlice t 1 #[(0, x)]) (cs : List Value) (hc : cs.length = n) (hx : a.eval x = .agg cs.toArray) :
    (execOp a.eval o).run Try.prog w = .ok (.value (.slice (some ⟨w.heap.size, 0, none⟩) 1 1)) (w.alloc (.cells cs.toArray e)) := by
  simp [execOp, ho, hx, run_one ht hi hn hn' w cs hc]
theorem run_load1 {o : Oper} {t : Nat} (ht : OneT t) (x : Operand) (ho : o.op = .load t x) (g off : Nat) (hx : a.eval x = .pointer (some ⟨g, off, none⟩)) (v : Value) (hc : w.cell? ⟨g, off, none⟩ = some v) : (execOp a.eval o).run Try.prog w = .ok (.value v) w := by
  simp [execOp, ho, hx, Instr.loadAt, Instr.sureAddr, ht w g off v hc]
theorem run_loadA {o : Oper} {t n : Nat} (ht : AggT t n) (x : Operand) (ho : o.op = .load t x) (g off : Nat) (hx : a.eval x = .pointer (some ⟨g, off, none⟩)) (cs : List Value) (hn : cs.length = n) (hc : ∀ j v, cs[j]? = some v → w.cell? ⟨g, off + j, none⟩ = some v) : (execOp a.eval o).run Try.prog w = .ok (.value (.agg cs.toArray)) w := by
  simp [execOp, ho, hx, Instr.loadAt, Instr.sureAddr, run_loadVar ht w g off cs hn hc]
end
end Go.Proofs.Ytgkmegcejekbcaa

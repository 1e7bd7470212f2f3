/- Records and places: what every function of this layer does with them. -/
import Derived.Test.YtobolkllplmmcabB
namespace Go.Proofs.Ytobolkllplmmcab
open Go.RowKit

/-- a record's parts are of a record's kinds -/
structure Rok (r : Rc) (vc : Value) : Prop where
  root : r.root.length = 32
  bytes : ∀ c ∈ r.root, c < 256
  sl : ∃ p n c, vc = .slice p n c
theorem Fits.rok {w : World} {r : Rc} {vc : Value} (h : Fits w r vc) : Rok r vc := ⟨h.root, h.bytes, h.cp.isSlice⟩
theorem Rok.len {r : Rc} {vc : Value} (h : Rok r vc) : (rcells r vc).length = 39 := rcells_length vc h.root
theorem Rok.one {r : Rc} {vc : Value} (h : Rok r vc) : ∀ v ∈ rcells r vc, v.oneCell' = true := by
  intro v hv
  simp only [rcells, List.mem_cons, List.mem_append, List.not_mem_nil, or_false] at hv
  rcases hv with rfl | rfl | hv | rfl | rfl | rfl | rfl | rfl
  · rfl
  · rfl
  · exact bcells_one _ v hv
  · rfl
  · rfl
  · rfl
  · rfl
  · exact (slice_one h.sl).2
theorem Rok.nil : Rok rz (.slice none 0 0) := ⟨rfl, rz_fine.2, ⟨_, _, _, rfl⟩⟩
theorem Rok.cp {r : Rc} {vc vd : Value} (h : Rok r vc) (hd : ∃ p n c, vd = .slice p n c) : Rok r vd := ⟨h.root, h.bytes, hd⟩
theorem Rok.fits {w : World} {r : Rc} {vc : Value} (h : Rok r vc) (hp : PlIn w vc r.cp) : Fits w r vc := ⟨h.root, h.bytes, hp⟩
theorem POwn.isSl {w : World} {base : Nat} {v : Value} {ps : List Pc} (h : POwn w base v ps) : ∃ p n c, v = .slice p n c := own_isSlice h
theorem POwn.off {w w' : World} {base : Nat} {v : Value} {cs : List Pc} (h : POwn w base v cs) {q T : Nat} {rs : List Value} (hr : Row w q T rs) (hT : T ≠ 36) (hc : Ch (· = q) w w') : POwn w' base v cs := h.keep fun b hb _ hlt => hc.one b hlt fun e => h.ne hr hT (e ▸ hb)
section
variable {w W W' : World} {l : List (Nat × TypeId × List Value)}
theorem Loc.fld (h : Loc w W l) (i : Nat) {g T : Nat} {r : Rc} {vc : Value} (hi : l[i]? = some (g, T, rcells r vc)) (hr : r.root.length = 32) (k : Nat) (v : Value) (hv : [Value.int .i64 r.index, .int .i64 r.expiry, .bool r.hold, .bool r.gone, vc][k]? = some v) : W.cell? ⟨g, 0 + (34 + k), none⟩ = some v := by
  rw [Nat.zero_add]
  exact (h.at i hi).at _ _ (by rw [rcB vc hr k]; exact hv)
theorem Loc.fid (h : Loc w W l) (i : Nat) {g T : Nat} {r : Rc} {vc : Value} (hi : l[i]? = some (g, T, rcells r vc)) : W.cell? ⟨g, 0 + 0, none⟩ = some (.string r.id) := (h.at i hi).at 0 _ (rc0 r vc)
theorem Loc.flen (h : Loc w W l) (i : Nat) {g T : Nat} {r : Rc} {vc : Value} (hi : l[i]? = some (g, T, rcells r vc)) : W.cell? ⟨g, 0 + 1, none⟩ = some (.int .i64 r.length) := (h.at i hi).at 1 _ (rc1 r vc)
theorem Loc.froot (h : Loc w W l) (i : Nat) {g T : Nat} {r : Rc} {vc : Value} (hi : l[i]? = some (g, T, rcells r vc)) (hr : r.root.length = 32) : ∀ j v, (bcells r.root)[j]? = some v → W.cell? ⟨g, 0 + 2 + j, none⟩ = some v := fun j v hv => (h.at i hi).at _ _ (by rw [Nat.zero_add]; exact rcR vc hr j v hv)
theorem Loc.rows (h : Loc w W l) (i : Nat) {g T : Nat} {cs : List Value} (hi : l[i]? = some (g, T, cs)) : ∀ j v, cs[j]? = some v → W.cell? ⟨g, 0 + j, none⟩ = some v := fun j v hv => (h.at i hi).at _ _ (by rw [Nat.zero_add]; exact hv)
theorem Loc.st26 (h : Loc w W l) (i : Nat) {g : Nat} {cur : List Value} (e : l[i]? = some (g, 26, cur)) (hc : cur.length = 39) (cs : List Value) (hn : cs.length = 39) (h1 : ∀ v ∈ cs, v.oneCell' = true) :
    (storeVar 26 ⟨g, 0, none⟩ (.agg cs.toArray)).run Try.prog W = .ok () (W.setRow g cs.toArray) ∧ Loc w (W.setRow g cs.toArray) (l.set i (g, 26, cs)) ∧ Ch (· = g) W (W.setRow g cs.toArray) := by
  have hst := run_storeVar ag26 W g 0 26 cur cs hn (h.at i e) (by omega) h1
  rw [splice_all _ _ (by omega)] at hst
  exact ⟨hst, h.set i e ((h.at i e).setRow cs) ((Ch.refl (· = g) W).setRow (Or.inl rfl) _), (Ch.refl (· = g) W).setRow (Or.inl rfl) _⟩
theorem Loc.putf (h : Loc w W l) (i : Nat) {g T : Nat} {cur : List Value} (e : l[i]? = some (g, T, cur)) (k : Nat) (v : Value) (new : List Value) (hnew : cur.set k v = new) : Loc w (W.setCell ⟨g, 0 + k, none⟩ v) (l.set i (g, T, new)) ∧ Ch (· = g) W (W.setCell ⟨g, 0 + k, none⟩ v) := by
  subst hnew
  rw [Nat.zero_add]
  exact ⟨h.put i e k v, (Ch.refl (· = g) W).setCell (Or.inl rfl) _ _⟩
/-- places of one's own grow: no other row turns -/
theorem Loc.grow (h : Loc w W l) {base : Nat} {v : Value} {ps : List Pc} (ho : POwn W base v ps) (hg : W.grownBy W' v.ownBlock) (hb : w.heap.size ≤ base) (hT : l.all (fun x => x.2.1 != 36) = true) : Loc w W' l := by
  refine h.keep ((Below.refl _ W).grown hg h.below.size fun k hk => Nat.le_trans hb (ho.lt k hk).1) fun i g T cs e => ?_
  have hr := h.at i e
  have hne : T ≠ 36 := by
    have := List.all_eq_true.1 hT _ (List.mem_of_getElem? e)
    simpa using this
  exact hg.block g hr.lt fun e2 => ho.ne hr hne e2.symm
end
theorem s3 : (Try.prog.info? 3).map (·.size) = some 1 := by kernel_rfl
theorem s4 : (Try.prog.info? 4).map (·.size) = some 1 := by kernel_rfl
theorem s24 : (Try.prog.info? 24).map (·.size) = some 1 := by kernel_rfl
theorem pcs_one (ps : List Pc) : ∀ v ∈ pcs ps, v.oneCell' = true := by
  induction ps with
  | nil => intro v hv; cases hv
  | cons p ps ih =>
    intro v hv
    rcases List.mem_append.1 hv with hv | hv
    · exact pcells_one p v hv
    · exact ih v hv
/-- places behind places of one's own -/
theorem run_pappI {w : World} (base : Nat) (ty : TypeId) (v vx : Value) (ps qs : List Pc) (hown : POwn w base v ps) (hin : PlIn w vx qs) (hsz : (ps.length + qs.length) * 32 ≤ 140737488355328) (hbase : base ≤ w.heap.size) :
    ∃ v' w', (Builtin.append_ #[24, 24] ty #[v, vx]).run Try.prog w = .ok v' w' ∧ POwn w' base v' (ps ++ qs) ∧ w.grownBy w' v.ownBlock := by
  obtain ⟨i, hi, hz0, hz1, hz2⟩ := info_parts info47
  obtain ⟨p, cap, rfl, hl, hin⟩ := hin
  have hgo : ∀ ad : Addr, (∀ j u, (pcs qs)[j]? = some u → w.cell? (ad.add j) = some u) → p = some ad → ∃ v' w', (Builtin.append_ #[24, 24] ty #[v, .slice p qs.length cap]).run Try.prog w = .ok v' w' ∧ POwn w' base v' (ps ++ qs) ∧ w.grownBy w' v.ownBlock := by
    rintro ad hnews rfl
    obtain ⟨v', w', hr, ho', hg, _⟩ := run_append_own (P := Try.prog) (w := w) base 24 ty 36 i (.agg (pcells ⟨0, 0, 0, false⟩).toArray) 4 32 und24 hi hz0 hz1 hz2 rfl (by decide) v ps.length (pcs ps) hown
      ad qs.length cap (pcs qs) (pcs_length qs) hnews (pcs_one qs) (by unfold maxLen; omega) (by omega) hbase
    refine ⟨v', w', hr, ?_, hg⟩
    unfold POwn
    rw [pcs_append, List.length_append]
    exact ho'
  rcases hin with rfl | ⟨b, off, rfl, hc⟩
  · cases p with
    | none =>
      refine ⟨v, w, ?_, ?_, World.grownBy.refl w _⟩
      · rcases hown.2 with ⟨rfl, h0⟩ | ⟨g, cap', cur, rfl, _, hg, hcap, hmax, hsz, htake⟩
        · simp [Builtin.append_, run_underlying und24, sizeOf, typeInfo, hi, Builtin.lenOf, Builtin.firstCells]
        · simp [Builtin.append_, run_underlying und24, sizeOf, typeInfo, hi, Builtin.lenOf, Builtin.firstCells, hcap, storeCells]
      · rw [List.append_nil]
        exact hown
    | some ad => exact hgo ad (by intro j u hu; simp [pcs] at hu) rfl
  · refine hgo ⟨b, off, none⟩ (fun j u hu => ?_) rfl
    have hj : j < (pcs qs).length := (List.getElem?_eq_some_iff.1 hu).1
    rw [pcs_length] at hj
    rw [add_none, hc j hj, hu]
theorem run_lit0P {w : World} {a : Act} {o : Oper} (ho : o.op = .buildSlice 24 0 #[]) : (execOp a.eval o).run Try.prog w = .ok (.value (.slice (some ⟨w.heap.size, 0, none⟩) 0 0)) (w.alloc (.cells #[] 36)) := by
  have hr : (Instr.buildSlice 24 0 #[]).run Try.prog w = .ok (.slice (some ⟨w.heap.size, 0, none⟩) 0 0) (w.alloc (.cells #[] 36)) := by kernel_rfl
  simp only [execOp, ho, hr, List.map_toArray, List.map_nil, Sem.run_bind, Sem.run_pure, Result.andThen_ok]
theorem POwn.lit0 (w : World) (base : Nat) (hb : base ≤ w.heap.size) : POwn (w.alloc (.cells #[] 36)) base (.slice (some ⟨w.heap.size, 0, none⟩) 0 0) [] := by
  refine ⟨rfl, Or.inr ⟨w.heap.size, 0, #[], rfl, hb, ?_, Nat.le_refl _, Nat.zero_le _, rfl, rfl⟩⟩
  show (w.heap.push _)[w.heap.size]? = _
  simp
theorem run_bld26 {w : World} {a : Act} {o : Oper} (ho : o.op = .build 26 #[]) : (execOp a.eval o).run Try.prog w = .ok (.value (.agg (rcells rz (.slice none 0 0)).toArray)) w := by
  have hr : (Instr.build 26 #[]).run Try.prog w = .ok (.agg (rcells rz (.slice none 0 0)).toArray) w := by kernel_rfl
  simp only [execOp, ho, List.map_toArray, List.map_nil, hr, Sem.run_bind, Sem.run_pure, Result.andThen_ok]
theorem run_maxZ {w : World} {a : Act} {o : Oper} (x y : Operand) (ho : o.op = .call { callee := .builtin .max, args := #[x, y], argTypes := #[3, 3] }) (z z' : Int) (hx : a.eval x = .int .i64 z) (hy : a.eval y = .int .i64 z') : (execOp a.eval o).run Try.prog w = .ok (.value (.int .i64 (max z z'))) w := by
  have hr : (Builtin.max_ #[3, 3] o.type #[.int .i64 z, .int .i64 z']).run Try.prog w = .ok (.int .i64 (max z z')) w := by
    rw [run_max_int2]
    congr 2
    split <;> omega
  simp only [execOp, ho, resolve, invoke, builtin, Sem.run_bind, Sem.run_pure, Result.andThen_ok, List.map_toArray, List.map_cons, List.map_nil, hx, hy, hr]
end Go.Proofs.Ytobolkllplmmcab

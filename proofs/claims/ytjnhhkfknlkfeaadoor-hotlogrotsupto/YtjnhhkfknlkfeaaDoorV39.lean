/- Layer 14: rows of places of the law's own; what comes again. -/
import Derived.Test.YtjnhhkfknlkfeaaDoorV38
import Derived.Maps.AppendAt
namespace Go.Proofs.YtjnhhkfknlkfeaaDoor
open Go.RowKit Go.Maps

def pcl (ps : List Pq) : List Value := ps.flatMap Pq.cells
theorem Pq.cells_length (x : Pq) : x.cells.length = 4 := rfl
theorem pcl_length (ps : List Pq) : (pcl ps).length = ps.length * 4 := by
  induction ps with
  | nil => rfl
  | cons x r ih => show (x.cells ++ pcl r).length = _; rw [List.length_append, ih, x.cells_length, List.length_cons]; omega
theorem pcl_append (a b : List Pq) : pcl (a ++ b) = pcl a ++ pcl b := by simp [pcl]
theorem pcl_one (ps : List Pq) : ∀ v ∈ pcl ps, v.oneCell' = true := fun v hv => by
  obtain ⟨x, _, hx⟩ := List.mem_flatMap.1 hv
  exact plC_one _ _ _ _ v hx
theorem pcl_at (ps : List Pq) : ∀ (k j : Nat), k < ps.length → j < 4 → (pcl ps)[k * 4 + j]? = (ps.getD k default).cells[j]? := by
  induction ps with
  | nil => intro k j hk; simp at hk
  | cons x r ih =>
    intro k j hk hj
    show (x.cells ++ pcl r)[k * 4 + j]? = _
    cases k with
    | zero => rw [Nat.zero_mul, Nat.zero_add, List.getElem?_append_left (by rw [x.cells_length]; exact hj)]; rfl
    | succ k =>
      rw [List.getElem?_append_right (by rw [x.cells_length]; omega), x.cells_length, show (k + 1) * 4 + j - 4 = k * 4 + j by omega, ih k j (by simpa using hk) hj]
      rfl
/-- a row of places that is the law's own -/
def PlO (W : World) (v : Value) (ps : List Pq) : Prop := W.ownsRow 0 30 4 v ps.length (pcl ps)
theorem info30z : (Tryd.prog.info? 30).map (fun i => (i.zero, i.size, i.bytes)) = some (some (.agg (plC 0 0 0 false).toArray), 4, 32) := by kernel_rfl
theorem run_papp {w : World} (ty : TypeId) (v : Value) (l m : List Pq) (hown : PlO w v l) (vx : Value) (ad : Addr) (c : Nat) (hx : vx = .slice (some ad) m.length c) (hc : ∀ j u, (pcl m)[j]? = some u → w.cell? (ad.add j) = some u) (hsz : l.length + m.length ≤ 100000000) :
    ∃ v' w', (Builtin.append_ #[43, 43] ty #[v, vx]).run Tryd.prog w = .ok v' w' ∧ PlO w' v' (l ++ m) ∧ w.grownBy w' v.ownBlock ∧ (v'.ownBlock = v.ownBlock ∨ v'.ownBlock = some w.heap.size) := by
  obtain ⟨i, hi, hz0, hz1, hz2⟩ := info_parts info30z
  subst hx
  obtain ⟨v', w', hr, ho', hg, _, hat⟩ := run_append_own_at (P := Tryd.prog) (w := w) 0 43 ty 30 i (.agg (plC 0 0 0 false).toArray) 4 32 und43 hi hz0 hz1 hz2 rfl (by decide) v l.length (pcl l) hown
      ad m.length c (pcl m) (pcl_length m) hc (pcl_one m) (by unfold maxLen; omega) (by omega) (Nat.zero_le _)
  refine ⟨v', w', hr, ?_, hg, hat⟩
  unfold PlO
  rw [pcl_append, List.length_append]
  exact ho'
theorem papp_one {w : World} (ty : TypeId) (v : Value) (l : List Pq) (hown : PlO w v l) {q : Nat} {x : Pq} (hr : Row w q 30 x.cells) (hsz : l.length + 1 ≤ 100000000) :
    ∃ v' w', (Builtin.append_ #[43, 43] ty #[v, whole q 1]).run Tryd.prog w = .ok v' w' ∧ PlO w' v' (l ++ [x]) ∧ w.grownBy w' v.ownBlock ∧ (v'.ownBlock = v.ownBlock ∨ v'.ownBlock = some w.heap.size) :=
  run_papp ty v l [x] hown _ ⟨q, 0, none⟩ 1 rfl (fun j u hu => by rw [add_none, Nat.zero_add]; exact hr.at j u (by simpa [pcl] using hu)) hsz
theorem PlO.kept {W W' : World} {v : Value} {ps : List Pq} (h : PlO W v ps) (hb : ∀ b, v.ownBlock = some b → W'.heap[b]? = W.heap[b]?) : PlO W' v ps := ownK h hb
theorem PlO.lt {W : World} {v : Value} {ps : List Pq} (h : PlO W v ps) {b : Nat} (hb : v.ownBlock = some b) : b < W.heap.size := (World.ownsRow.lt h b hb).2
theorem PlO.ne {W : World} {v : Value} {ps : List Pq} (h : PlO W v ps) {b T : Nat} {cs : List Value} (hb : v.ownBlock = some b) (hr : Row W b T cs) (hT : T ≠ 30) : False := by
  rcases h.2 with ⟨rfl, _⟩ | ⟨g, cap, cur, rfl, _, hg, _⟩
  · cases hb
  · injection hb with hb
    have hb : g = b := hb
    subst hb
    unfold Row at hr
    rw [hg] at hr
    injection hr with hr
    injection hr with _ hr
    exact hT hr.symm
theorem PlO.ix {W : World} {v : Value} {ps : List Pq} (h : PlO W v ps) (k : Nat) (hk : k < ps.length) : ∃ b, v.ownBlock = some b ∧ (∀ w', (Instr.indexAt 43 v (.int .i64 (k : Nat))).run Tryd.prog w' = .ok (.pointer (some ⟨b, k * 4, none⟩)) w') ∧ ∀ W' : World, PlO W' v ps → ∀ j u, (ps.getD k default).cells[j]? = some u → W'.cell? ⟨b, k * 4 + j, none⟩ = some u := by
  obtain ⟨b, h1, h2, _⟩ := own_index h und43 sz30 k hk
  refine ⟨b, h1, h2, fun W' h' j u hu => ?_⟩
  obtain ⟨b', e, _, h3⟩ := own_index h' und43 sz30 k hk
  rw [h1] at e
  injection e with e
  subst e
  have hj : j < 4 := by
    have := (List.getElem?_eq_some_iff.1 hu).1
    rwa [Pq.cells_length] at this
  rw [h3 j hj, pcl_at ps k j hk hj]
  exact hu
theorem run_lenPO {w w0 : World} {a : Act} {o : Oper} {v : Value} {ps : List Pq} (h : PlO w0 v ps) (x : Operand) (ho : o.op = .call { callee := .builtin .len, args := #[x], argTypes := #[43] }) (hx : a.eval x = v) : (execOp a.eval o).run Tryd.prog w = .ok (.value (.int .i64 (ps.length : Nat))) w := by
  rcases h.2 with ⟨rfl, h0⟩ | ⟨g, cap, cur, rfl, _⟩
  · rw [h0]
    exact run_lenZ sl43 x ho none 0 0 hx
  · exact run_lenZ sl43 x ho _ _ _ hx
/-- rows of bytes, handed in -/
def RowsIn (w : World) (v : Value) (L : List (List Nat)) : Prop :=
  ∃ p cap, v = .slice p L.length cap ∧ L.length ≤ 9223372036854775807 ∧ (L = [] ∨ ∃ b off, p = some ⟨b, off, none⟩ ∧ ∀ i, i < L.length → ∃ u, w.cell? ⟨b, off + i, none⟩ = some u ∧ SliceIn w u (L.getD i []))
theorem und57 : Tryd.prog.underlying 57 = some (.slice 28) := by kernel_rfl
theorem sz28 : (Tryd.prog.info? 28).map (·.size) = some 1 := by kernel_rfl
theorem RowsIn.ix {w : World} {v : Value} {L : List (List Nat)} (h : RowsIn w v L) (k : Nat) (hk : k < L.length) : ∃ b j u, (∀ w', (Instr.indexAt 57 v (.int .i64 (k : Nat))).run Tryd.prog w' = .ok (.pointer (some ⟨b, j, none⟩)) w') ∧ ∀ W, Below w.heap.size w W → W.cell? ⟨b, j, none⟩ = some u ∧ SliceIn W u (L.getD k []) := by
  obtain ⟨i3, hi3, hsz⟩ := Option.map_eq_some_iff.1 sz28
  obtain ⟨p, cap, rfl, hl, h⟩ := h
  rcases h with rfl | ⟨b, off, rfl, hc⟩
  · simp at hk
  · obtain ⟨u, h1, h2⟩ := hc k hk
    exact ⟨b, off + k, u, fun w' => by simp [Instr.indexAt, asIntOf, run_underlying und57, hk, sizeOf, typeInfo, hi3, hsz, add_none], fun W hW => ⟨cell_later hW h1, h2.later hW⟩⟩
theorem run_lenR {w w0 : World} {a : Act} {o : Oper} {v : Value} {L : List (List Nat)} (h : RowsIn w0 v L) (x : Operand) (ho : o.op = .call { callee := .builtin .len, args := #[x], argTypes := #[57] }) (hx : a.eval x = v) : (execOp a.eval o).run Tryd.prog w = .ok (.value (.int .i64 (L.length : Nat))) w := by
  obtain ⟨p, cap, rfl, _⟩ := h
  exact run_lenZ sl57 x ho p _ _ hx
/-- where the next object goes -/
noncomputable def fitA (k : Nat) (us : List (Nat × Nat)) (n : Nat) : Option Nat := open Classical in if h : ∃ a, Fits k us a n then some h.choose else none
def zP : Pq := ⟨0, 0, 0, false⟩
def toP (u : Nat × List Nat) : Pq := ⟨1, (u.1 : Nat), (costN u.2.length : Nat), false⟩
/-- what an Append does, power on -/
noncomputable def stp (k : Nat) (us : List (Nat × List Nat)) (b : List Nat) : Pq × List (Nat × List Nat) :=
  if b.length ≤ 512 then (match fitA k (us.map plc) (costN b.length) with | some a => (toP (a, b), us ++ [(a, b)]) | none => (zP, us)) else (zP, us)
noncomputable def usAt (k : Nat) (L : List (List Nat)) : Nat → List (Nat × List Nat)
  | 0 => []
  | i + 1 => (stp k (usAt k L i) (L.getD i [])).2
noncomputable def plAt (k : Nat) (L : List (List Nat)) (i : Nat) : Pq := (stp k (usAt k L i) (L.getD i [])).1
noncomputable def plTo (k : Nat) (L : List (List Nat)) (i : Nat) : List Pq := (List.range i).map (plAt k L)
/-- how the answer and the place go together -/
def Told (er : Int) (x : Pq) : Prop := (er = 0 ∧ 0 < x.ln) ∨ ((er = 3 ∨ er = 5) ∧ x = zP)
section
variable {w W W' : World} {c c' : Nat → Colour} {gp gh gf gm gs gr : Nat} {m m' : Pl} {n K : Nat} {us : List (Nat × List Nat)} {vF vL : Value} {ps ls : List Pq}
/-- what the law holds -/
structure Ag (w W : World) (c : Nat → Colour) (gp gh gf gm gs gr : Nat) (m : Pl) (n : Nat) (us : List (Nat × List Nat)) (K : Nat) (vF : Value) (ps : List Pq) (vL : Value) (ls : List Pq) : Prop where
  h : HtW w W c gp gh gf gm m n us K
  fu : m.fuse < 0
  st : Row W gs 38 (scells gp gh gr 0 0)
  os : Out w W c gh gf gm gs
  f : PlO W vF ps
  fo : ∀ b, vF.ownBlock = some b → Out w W c gh gf gm b
  l : PlO W vL ls
  lo : ∀ b, vL.ownBlock = some b → Out w W c gh gf gm b
  ne : ∀ b, vF.ownBlock = some b → vL.ownBlock ≠ some b
end
end Go.Proofs.YtjnhhkfknlkfeaaDoor

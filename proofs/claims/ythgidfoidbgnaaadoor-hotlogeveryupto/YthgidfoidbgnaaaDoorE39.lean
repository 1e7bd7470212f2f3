/- Layer 14: rows of places of the law's own; what comes again. -/
import Derived.Test.YthgidfoidbgnaaaDoorE38
namespace Go.Proofs.YthgidfoidbgnaaaDoor
open Go.RowKit Go.Maps

def pcl (ps : List Pq) : List Value := ps.flatMap Pq.cells
theorem Pq.cells_length (x : Pq) : x.cells.length = 4 := rfl
theorem pcl_length (ps : List Pq) : (pcl ps).length = ps.length * 4 := by
 induction ps with
 | nil => rfl
 | cons x r ih => show (x.cells ++ pcl r).length = _; rw [List.length_append, ih, x.cells_length, List.length_cons]; omega
theorem pcl_append (a b : List Pq) : pcl (a ++ b) = pcl a ++ pcl b := by simp [pcl]
theorem pcl_one (ps : List Pq) : ∀ v ∈ pcl ps, v.oneCell' = true := fun v hv => by
 obtain ⟨x, _, hx⟩ := List.mem_flatMap.1 hv
 exact plC_one _ _ _ _ v hx
theorem pcl_at (ps : List Pq) : ∀ (k j : Nat), k < ps.length → j < 4 → (pcl ps)[k * 4 + j]? = (ps.getD k default).cells[j]? := by
 induction ps with
 | nil => intro k j hk; simp at hk
 | cons x r ih =>
  intro k j hk hj
  show (x.cells ++ pcl r)[k * 4 + j]? = _
  cases k with
  | zero => rw [Nat.zero_mul, Nat.zero_add, List.getElem?_append_left (by rw [x.cells_length]; exact hj)]; rfl
  | succ k =>
   rw [List.getElem?_append_right (by rw [x.cells_length]; omega), x.cells_length, show (k + 1) * 4 + j - 4 = k * 4 + j by omega, ih k j (by simpa using hk) hj]
   rfl
theorem pcl_drop (ps : List Pq) : ∀ k, (pcl ps).drop (k * 4) = pcl (ps.drop k) := by
 induction ps with
 | nil => intro k; simp [pcl]
 | cons x r ih =>
  intro k
  cases k with
  | zero => simp
  | succ k =>
   show (x.cells ++ pcl r).drop ((k + 1) * 4) = pcl (r.drop k)
   rw [List.drop_append, List.drop_of_length_le (by rw [x.cells_length]; omega), List.nil_append, x.cells_length, show (k + 1) * 4 - 4 = k * 4 by omega, ih k]
theorem pcl_take (ps : List Pq) : ∀ k, (pcl ps).take (k * 4) = pcl (ps.take k) := by
 induction ps with
 | nil => intro k; simp [pcl]
 | cons x r ih =>
  intro k
  cases k with
  | zero => simp [pcl]
  | succ k =>
   show (x.cells ++ pcl r).take ((k + 1) * 4) = x.cells ++ pcl (r.take k)
   rw [List.take_append, List.take_of_length_le (by rw [x.cells_length]; omega), x.cells_length, show (k + 1) * 4 - 4 = k * 4 by omega, ih k]
/-- a row of places that is the law's own -/
def PlO (W : World) (v : Value) (ps : List Pq) : Prop := W.ownsRow 0 30 4 v ps.length (pcl ps)
theorem info30z : (Tryd.prog.info? 30).map (fun i => (i.zero, i.size, i.bytes)) = some (some (.agg (plC 0 0 0 false).toArray), 4, 32) := by kernel_rfl
theorem elem43 : Tryd.prog.elem 43 = 30 := by kernel_rfl
theorem own_cellAt {w : World} {base e sz n : Nat} {g cap : Nat} {xs : List Value} (h : w.ownsRow base e sz (.slice (some ⟨g, 0, none⟩) n cap) n xs) (q : Nat) (hq : q < n * sz) : w.cell? ⟨g, q, none⟩ = xs[q]? := by
 rcases h.2 with ⟨e, _⟩ | ⟨g', cap', cur, e, _, hg, _, _, _, ht⟩
 ·cases e
 ·injection e with e1
  injection e1 with e1
  injection e1 with e1
  subst e1
  rw [← ht, List.getElem?_take, if_pos hq]
  simp [World.cell?, hg]
theorem cut_row {w : World} {v : Value} {l : List Pq} (h : PlO w v l) (a b : Nat) (hab : a ≤ b) (hb : b ≤ l.length) (cap m : Nat) (hm : b ≤ m) (hv : ∃ p, v = .slice p l.length cap) :
  ∃ p, v = .slice p l.length cap ∧ ((∃ ad, (sliced p a b m 4) = .slice (some ad) ((l.take b).drop a).length (m - a) ∧ ∀ W : World, (∀ k, v.ownBlock = some k → W.heap[k]? = w.heap[k]?) → ∀ j u, (pcl ((l.take b).drop a))[j]? = some u → W.cell? (ad.add j) = some u) ∨ (l = [] ∧ sliced p a b m 4 = .slice none 0 (m - a))) := by
 obtain ⟨p, rfl⟩ := hv
 refine ⟨p, rfl, ?_⟩
 have hlen : ((l.take b).drop a).length = b - a := by simp; omega
 rcases h.2 with ⟨e, h0⟩ | ⟨g, cap', cur, e, _, hg, hcap, hmax, hsz, htake⟩
 ·injection e with e1 e2 e3
  subst e1
  have hl0 : l = [] := List.length_eq_zero_iff.1 h0
  refine Or.inr ⟨hl0, ?_⟩
  unfold sliced
  have ha : a = 0 := by omega
  have hbb : b = 0 := by omega
  subst ha
  subst hbb
  split <;> rfl
 ·injection e with e1 e2 e3
  subst e1
  left
  have key : ∀ W : World, (∀ k, (Value.slice (some ⟨g, 0, none⟩) l.length cap).ownBlock = some k → W.heap[k]? = w.heap[k]?) → ∀ q, q < l.length * 4 → W.cell? ⟨g, q, none⟩ = (pcl l)[q]? := fun W hW q hq => by
   have h1 := hW g rfl
   have h2 := own_cellAt (ownK h hW) q hq
   exact h2
  unfold sliced
  by_cases hz : m = a
  ·rw [if_pos hz, hlen]
   refine ⟨_, rfl, fun W hW j u hu => ?_⟩
   have : (l.take b).drop a = [] := List.length_eq_zero_iff.1 (by rw [hlen]; omega)
   rw [this] at hu
   simp [pcl] at hu
  ·rw [if_neg hz, hlen]
   refine ⟨_, rfl, fun W hW j u hu => ?_⟩
   have hj := (List.getElem?_eq_some_iff.1 hu).1
   rw [pcl_length, hlen] at hj
   dsimp only
   rw [add_none, add_none, Nat.zero_add, key W hW (a * 4 + j) (by omega), ← hu, ← pcl_drop, ← pcl_take, List.getElem?_drop, List.getElem?_take, if_pos (by omega)]
theorem cut_to {w : World} {v : Value} {l : List Pq} (h : PlO w v l) (k : Nat) (hk : k < l.length) : ∃ v1 ad c, (∀ w', (Instr.slice 43 v none (some (.int .i64 (k : Nat))) none).run Tryd.prog w' = .ok v1 w') ∧ v1 = .slice (some ad) (l.take k).length c ∧ ∀ W : World, (∀ q, v.ownBlock = some q → W.heap[q]? = w.heap[q]?) → ∀ j u, (pcl (l.take k))[j]? = some u → W.cell? (ad.add j) = some u := by
 obtain ⟨i, hi3, hsz⟩ := Option.map_eq_some_iff.1 sz30
 have hsize : ∀ w' : World, (sizeOf 30).run Tryd.prog w' = .ok 4 w' := fun w' => by simp [sizeOf, typeInfo, hi3, hsz]
 have hv : ∃ p cap, v = .slice p l.length cap ∧ l.length ≤ cap := by
  rcases h.2 with ⟨rfl, h0⟩ | ⟨g, cap, cur, rfl, _, _, hc, _⟩
  ·omega
  ·exact ⟨_, cap, rfl, hc⟩
 obtain ⟨p, cap, rfl, hcap⟩ := hv
 obtain ⟨p', e, hc⟩ := cut_row h 0 k (Nat.zero_le _) (by omega) cap cap (by omega) ⟨p, rfl⟩
 injection e with e
 subst e
 rcases hc with ⟨ad, e2, hc⟩ | ⟨e2, _⟩
 ·refine ⟨sliced p 0 k cap 4, ad, cap - 0, fun w' => by rw [run_slice_h _ _ _ _ _ sl43 _ _ (by omega) (by omega), elem43, hsize]; rfl, by rw [e2]; simp, fun W hW j u hu => hc W hW j u (by simpa using hu)⟩
 ·rw [e2] at hk; simp at hk
theorem cut_from {w : World} {v : Value} {l : List Pq} (h : PlO w v l) (k : Nat) (hk : k < l.length) : ∃ v1 ad c, (∀ w', (Instr.slice 43 v (some (.int .i64 ((k + 1 : Nat) : Int))) none none).run Tryd.prog w' = .ok v1 w') ∧ v1 = .slice (some ad) (l.drop (k + 1)).length c ∧ ∀ W : World, (∀ q, v.ownBlock = some q → W.heap[q]? = w.heap[q]?) → ∀ j u, (pcl (l.drop (k + 1)))[j]? = some u → W.cell? (ad.add j) = some u := by
 obtain ⟨i, hi3, hsz⟩ := Option.map_eq_some_iff.1 sz30
 have hsize : ∀ w' : World, (sizeOf 30).run Tryd.prog w' = .ok 4 w' := fun w' => by simp [sizeOf, typeInfo, hi3, hsz]
 have hv : ∃ p cap, v = .slice p l.length cap ∧ l.length ≤ cap := by
  rcases h.2 with ⟨rfl, h0⟩ | ⟨g, cap, cur, rfl, _, _, hc, _⟩
  ·omega
  ·exact ⟨_, cap, rfl, hc⟩
 obtain ⟨p, cap, rfl, hcap⟩ := hv
 obtain ⟨p', e, hc⟩ := cut_row h (k + 1) l.length (by omega) (Nat.le_refl _) cap cap hcap ⟨p, rfl⟩
 injection e with e
 subst e
 rcases hc with ⟨ad, e2, hc⟩ | ⟨e2, _⟩
 ·refine ⟨sliced p (k + 1) l.length cap 4, ad, cap - (k + 1), fun w' => by rw [run_slice_l _ _ _ _ _ sl43 _ _ (by omega) (by omega), elem43, hsize]; rfl, by rw [e2]; simp, fun W hW j u hu => hc W hW j u (by simpa using hu)⟩
 ·rw [e2] at hk; simp at hk
theorem run_sub43 {w : World} {a : Act} {o : Oper} (x : Operand) (lo hi : Option Operand) (ho : o.op = .slice 43 x lo hi none) (v v' : Value) (hv : ∃ p n c, v = .slice p n c) (hx : a.eval x = v) (l h : Option Value) (hl : lo.map a.eval = l) (hh : hi.map a.eval = h) (hr : ∀ w', (Instr.slice 43 v l h none).run Tryd.prog w' = .ok v' w') : (execOp a.eval o).run Tryd.prog w = .ok (.value v') w := by
 subst hl hh
 obtain ⟨p, n, c, rfl⟩ := hv
 simp [execOp, ho, hx, run_sliceAt_slice _ _ _ _ _ _ sl43, hr]

theorem run_papp {w : World} (ty : TypeId) (v : Value) (l m : List Pq) (hown : PlO w v l) (vx : Value) (ad : Addr) (c : Nat) (hx : vx = .slice (some ad) m.length c) (hc : ∀ j u, (pcl m)[j]? = some u → w.cell? (ad.add j) = some u) (hsz : l.length + m.length ≤ 100000000) :
  ∃ v' w', (Builtin.append_ #[43, 43] ty #[v, vx]).run Tryd.prog w = .ok v' w' ∧ PlO w' v' (l ++ m) ∧ w.grownBy w' v.ownBlock ∧ (v'.ownBlock = v.ownBlock ∨ v'.ownBlock = some w.heap.size) := by
 obtain ⟨i, hi, hz0, hz1, hz2⟩ := info_parts info30z
 subst hx
 obtain ⟨v', w', hr, ho', hg, _, hat⟩ := run_append_own_at (P := Tryd.prog) (w := w) 0 43 ty 30 i (.agg (plC 0 0 0 false).toArray) 4 32 und43 hi hz0 hz1 hz2 rfl (by decide) v l.length (pcl l) hown
   ad m.length c (pcl m) (pcl_length m) hc (pcl_one m) (by unfold maxLen; omega) (by omega) (Nat.zero_le _)
 refine ⟨v', w', hr, ?_, hg, hat⟩
 unfold PlO
 rw [pcl_append, List.length_append]
 exact ho'
theorem papp_one {w : World} (ty : TypeId) (v : Value) (l : List Pq) (hown : PlO w v l) {q : Nat} {x : Pq} (hr : Row w q 30 x.cells) (hsz : l.length + 1 ≤ 100000000) :
  ∃ v' w', (Builtin.append_ #[43, 43] ty #[v, whole q 1]).run Tryd.prog w = .ok v' w' ∧ PlO w' v' (l ++ [x]) ∧ w.grownBy w' v.ownBlock ∧ (v'.ownBlock = v.ownBlock ∨ v'.ownBlock = some w.heap.size) :=
 run_papp ty v l [x] hown _ ⟨q, 0, none⟩ 1 rfl (fun j u hu => by rw [add_none, Nat.zero_add]; exact hr.at j u (by simpa [pcl] using hu)) hsz
theorem run_plit0 {w : World} {a : Act} {o : Oper} (ho : o.op = .buildSlice 43 0 #[]) : (execOp a.eval o).run Tryd.prog w = .ok (.value (.slice (some ⟨w.heap.size, 0, none⟩) 0 0)) (w.alloc (.cells #[] 30)) := by
 have hr : (Instr.buildSlice 43 0 #[]).run Tryd.prog w = .ok (.slice (some ⟨w.heap.size, 0, none⟩) 0 0) (w.alloc (.cells #[] 30)) := by kernel_rfl
 simp only [execOp, ho, hr, List.map_toArray, List.map_nil, Sem.run_bind, Sem.run_pure, Result.andThen_ok]
theorem plit0_row (w : World) : PlO (w.alloc (.cells #[] 30)) (.slice (some ⟨w.heap.size, 0, none⟩) 0 0) [] := World.ownsRow_made w #[] 0 (Nat.zero_le _) (Nat.zero_le _) rfl
theorem PlO.kept {W W' : World} {v : Value} {ps : List Pq} (h : PlO W v ps) (hb : ∀ b, v.ownBlock = some b → W'.heap[b]? = W.heap[b]?) : PlO W' v ps := ownK h hb
theorem PlO.lt {W : World} {v : Value} {ps : List Pq} (h : PlO W v ps) {b : Nat} (hb : v.ownBlock = some b) : b < W.heap.size := (World.ownsRow.lt h b hb).2
theorem PlO.ne {W : World} {v : Value} {ps : List Pq} (h : PlO W v ps) {b T : Nat} {cs : List Value} (hb : v.ownBlock = some b) (hr : Row W b T cs) (hT : T ≠ 30) : False := by
 rcases h.2 with ⟨rfl, _⟩ | ⟨g, cap, cur, rfl, _, hg, _⟩
 ·cases hb
 ·injection hb with hb
  have hb : g = b := hb
  subst hb
  unfold Row at hr
  rw [hg] at hr
  injection hr with hr
  injection hr with _ hr
  exact hT hr.symm
theorem PlO.ix {W : World} {v : Value} {ps : List Pq} (h : PlO W v ps) (k : Nat) (hk : k < ps.length) : ∃ b, v.ownBlock = some b ∧ (∀ w', (Instr.indexAt 43 v (.int .i64 (k : Nat))).run Tryd.prog w' = .ok (.pointer (some ⟨b, k * 4, none⟩)) w') ∧ ∀ W' : World, PlO W' v ps → ∀ j u, (ps.getD k default).cells[j]? = some u → W'.cell? ⟨b, k * 4 + j, none⟩ = some u := by
 obtain ⟨b, h1, h2, _⟩ := own_index h und43 sz30 k hk
 refine ⟨b, h1, h2, fun W' h' j u hu => ?_⟩
 obtain ⟨b', e, _, h3⟩ := own_index h' und43 sz30 k hk
 rw [h1] at e
 injection e with e
 subst e
 have hj : j < 4 := by
  have := (List.getElem?_eq_some_iff.1 hu).1
  rwa [Pq.cells_length] at this
 rw [h3 j hj, pcl_at ps k j hk hj]
 exact hu
theorem run_lenPO {w w0 : World} {a : Act} {o : Oper} {v : Value} {ps : List Pq} (h : PlO w0 v ps) (x : Operand) (ho : o.op = .call { callee := .builtin .len, args := #[x], argTypes := #[43] }) (hx : a.eval x = v) : (execOp a.eval o).run Tryd.prog w = .ok (.value (.int .i64 (ps.length : Nat))) w := by
 rcases h.2 with ⟨rfl, h0⟩ | ⟨g, cap, cur, rfl, _⟩
 ·rw [h0]
  exact run_lenZ sl43 x ho none 0 0 hx
 ·exact run_lenZ sl43 x ho _ _ _ hx
theorem und57 : Tryd.prog.underlying 57 = some (.slice 28) := by kernel_rfl
theorem sz28 : (Tryd.prog.info? 28).map (·.size) = some 1 := by kernel_rfl
def zP : Pq := ⟨0, 0, 0, false⟩
def toP (u : Nat × List Nat) : Pq := ⟨1, (u.1 : Nat), (costN u.2.length : Nat), false⟩
section
variable {w W W' : World} {c c' : Nat → Colour} {gp gh gf gm gs gr : Nat} {m m' : Pl} {n K : Nat} {us : List (Nat × List Nat)} {vF vL : Value} {ps ls : List Pq}
end
end Go.Proofs.YthgidfoidbgnaaaDoor

/- Laws for walks: one operation at a time. Layer 9: plain: sets of pages, heads, images. Laws for walks of one operation, of blocks of one's own. -/
import Derived.Test.YthgidfoidbgnaaaDoorE07
import Derived.Test.YthgidfoidbgnaaaDoorE12
namespace Go.Proofs.YthgidfoidbgnaaaDoor
open Go.RowKit Go.Maps

theorem ownK {w w' : World} {base e size n : Nat} {v : Value} {xs : List Value} (h : w.ownsRow base e size v n xs) (hb : ∀ b, v.ownBlock = some b → w'.heap[b]? = w.heap[b]?) : w'.ownsRow base e size v n xs := by
 obtain ⟨hl, h⟩ := h
 refine ⟨hl, ?_⟩
 rcases h with ⟨rfl, h⟩ | ⟨g, cap, cur, rfl, h0, hg, h⟩
 ·exact Or.inl ⟨rfl, h⟩
 ·exact Or.inr ⟨g, cap, cur, rfl, h0, (hb g rfl).trans hg, h⟩
theorem sliceK {w w' : World} {v : Value} {cs : List Nat} (h : SliceIn w v cs) (hb : ∀ b, v.ownBlock = some b → b < w.heap.size → w'.heap[b]? = w.heap[b]?) : SliceIn w' v cs := by
 obtain ⟨p, cap, rfl, hl, h⟩ := h
 refine ⟨p, cap, rfl, hl, ?_⟩
 rcases h with h | ⟨b, off, rfl, h1, h2⟩
 ·exact Or.inl h
 ·refine Or.inr ⟨b, off, rfl, fun j hj => ?_, h2⟩
  rw [← h1 j hj]
  exact World.cell?_of_block (w := w) (hb b rfl (block_lt_of_cell (h1 j hj)))
section
variable {w w0 : World} {ops : Array Oper} {rest : List Oper} {o : Oper} {a : Act} {Q : Exit → Act → World → Prop}
theorem wl (hgd : Region.wanted o (yielded ops a.tmps) = true) (v : Value) (w' : World) (hrun : (execOp a.eval o).run Tryd.prog w = .ok (.value v) w') (h : wpList Tryd.prog ops Q rest (a.put o.dst v) w') : wpList Tryd.prog ops Q (o :: rest) a w :=
 BigFrame.wpList_want hgd fun K hK => by
  unfold Oper.wp
  rw [hrun]
  exact hK _ _ h
theorem own_index {base e sz n : Nat} {v : Value} {xs : List Value} (hown : w0.ownsRow base e sz v n xs) {t : TypeId} (hu : Tryd.prog.underlying t = some (.slice e)) (hs : (Tryd.prog.info? e).map (·.size) = some sz) (k : Nat) (hk : k < n) :
  ∃ b, v.ownBlock = some b ∧ (∀ w', (Instr.indexAt t v (.int .i64 (k : Nat))).run Tryd.prog w' = .ok (.pointer (some ⟨b, k * sz, none⟩)) w') ∧ ∀ j, j < sz → w0.cell? ⟨b, k * sz + j, none⟩ = xs[k * sz + j]? := by
 obtain ⟨i5, hi5, hsz⟩ := Option.map_eq_some_iff.1 hs
 rcases hown.2 with ⟨rfl, rfl⟩ | ⟨g, cap, cur, rfl, _, hg, hcap, hmax, hcs, htake⟩
 ·omega
 ·refine ⟨g, rfl, fun w' => by simp [Instr.indexAt, asIntOf, run_underlying hu, hk, sizeOf, typeInfo, hi5, hsz, add_none], fun j hj => ?_⟩
  have hlt : k * sz + j < n * sz := by
   have : (k + 1) * sz ≤ n * sz := Nat.mul_le_mul_right sz hk
   rw [Nat.add_mul, Nat.one_mul] at this
   omega
  rw [← htake, List.getElem?_take, if_pos hlt]
  simp [World.cell?, hg]
end
theorem run_nil {w : World} {a : Act} {o : Oper} (x : Operand) (ho : o.op = .nilCheck x) (p : Addr) (hv : a.eval x = .pointer (some p)) : (execOp a.eval o).run Tryd.prog w = .ok (.value (.pointer (some p))) w := by
 simp [execOp, ho, hv]
theorem run_append {w w' : World} {a : Act} {o : Oper} {t : TypeId} (sv x : Operand) (ho : o.op = .call { callee := .builtin .append, args := #[sv, x], argTypes := #[t, t] }) (v vx v' : Value) (hs : a.eval sv = v) (hx : a.eval x = vx) (hr : (Builtin.append_ #[t, t] o.type #[v, vx]).run Tryd.prog w = .ok v' w') : (execOp a.eval o).run Tryd.prog w = .ok (.value v') w' := by
 simp only [execOp, ho, resolve, invoke, builtin, Sem.run_bind, Sem.run_pure, Result.andThen_ok, List.map_toArray, List.map_cons, List.map_nil, hs, hx, hr]
theorem run_idx {w : World} {a : Act} {o : Oper} {t : TypeId} (x i : Operand) (ho : o.op = .indexAddr t x i) (v p I : Value) (hx : a.eval x = v) (hi : a.eval i = I) (hr : ∀ w', (Instr.indexAt t v I).run Tryd.prog w' = .ok p w') : (execOp a.eval o).run Tryd.prog w = .ok (.value p) w := by
 simp only [execOp, ho, hx, hi, hr, Sem.run_bind, Sem.run_pure, Result.andThen_ok]
theorem run_putRow {w : World} {o : Oper} {a : Act} {t : Nat} (hs : (Tryd.prog.info? t).map (·.size) = some 1) (x y : Operand) (ho : o.op = .store t x y) (g i T : Nat) (cur : List Value) (hx : a.eval x = .pointer (some ⟨g, i, none⟩)) (v : Value) (hy : a.eval y = v) (hv : v.cells = #[v] ∧ v.oneCell' = true) (hr : Row w g T cur) (hi : i < cur.length) :
  (execOp a.eval o).run Tryd.prog w = .ok .skip (w.setCell ⟨g, i, none⟩ v) := by
 obtain ⟨ti, hti, hsz⟩ := Option.map_eq_some_iff.1 hs
 have hst := run_storeCells_at (P := Tryd.prog) g i T [v] 0 cur.toArray w hr (by simp; omega) (by intro u hu; rw [List.mem_singleton.1 hu]; exact hv.2)
 simp only [Nat.add_zero] at hst
 have e : w.setRow g (splice cur i [v]).toArray = w.setCell ⟨g, i, none⟩ v := by
  have e1 : splice cur i [v] = cur.set i v := by
   rw [List.set_eq_take_append_cons_drop, if_pos hi]
   simp [splice]
  rw [setCell_eq_setRow w g i _ T (0, 0) v hr, e1, List.setIfInBounds_toArray]
 have hst' : (storeVar t ⟨g, i, none⟩ v).run Tryd.prog w = .ok () (w.setCell ⟨g, i, none⟩ v) := by
  rw [← e]
  simp [storeVar, sizeOf, typeInfo, hti, hsz, hv.1, hst, splice]
 simp [execOp, ho, hx, hy, Instr.storeAt, Instr.sureAddr, hst']
section
variable {w w0 : World} {ops : Array Oper} {rest : List Oper} {o : Oper} {a : Act} {Q : Exit → Act → World → Prop}
theorem wlS (hgd : Region.wanted o (yielded ops a.tmps) = true) (hd : o.dst = none) (w' : World) (hrun : (execOp a.eval o).run Tryd.prog w = .ok .skip w') (h : wpList Tryd.prog ops Q rest a w') : wpList Tryd.prog ops Q (o :: rest) a w :=
 BigFrame.wpList_want hgd fun K hK => by
  unfold Oper.wp
  rw [hrun]
  simp only [Oper.upon, hd]
  exact hK _ _ h
theorem wl_put {t : Nat} (hs : (Tryd.prog.info? t).map (·.size) = some 1) (x y : Operand) (hgd : Region.wanted o (yielded ops a.tmps) = true) (hd : o.dst = none) (ho : o.op = .store t x y) (g i T : Nat) (cur : List Value) (hx : a.eval x = .pointer (some ⟨g, i, none⟩)) (v : Value) (hy : a.eval y = v) (hv : v.cells = #[v] ∧ v.oneCell' = true) (hr : Row w g T cur) (hi : i < cur.length)
  (h : wpList Tryd.prog ops Q rest a (w.setCell ⟨g, i, none⟩ v)) : wpList Tryd.prog ops Q (o :: rest) a w := wlS hgd hd _ (run_putRow hs x y ho g i T cur hx v hy hv hr hi) h
end
/-- one more behind a row of rows -/
theorem app_one {w : World} {t e : TypeId} (hu : Tryd.prog.underlying t = some (.slice e)) (hinfo : (Tryd.prog.info? e).map (fun i => (i.zero, i.size, i.bytes)) = some (some (.slice none 0 0), 1, 24)) (ty : TypeId) (v : Value) (n : Nat) (xs : List Value) (hown : w.ownsRow 0 e 1 v n xs) (b : Nat) (u : Value) (hu1 : u.oneCell' = true) (hb : Row w b e [u]) (hn : n ≤ 1000000) :
  ∃ v' w', (Builtin.append_ #[t, t] ty #[v, .slice (some ⟨b, 0, none⟩) 1 1]).run Tryd.prog w = .ok v' w' ∧ w'.ownsRow 0 e 1 v' (n + 1) (xs ++ [u]) ∧ w.grownBy w' v.ownBlock ∧ (v'.ownBlock = v.ownBlock ∨ v'.ownBlock = some w.heap.size) := by
 obtain ⟨i, hi, hz0, hz1, hz2⟩ := info_parts hinfo
 obtain ⟨v', w', hr, h2, h3, _, h5⟩ := run_append_own_at (P := Tryd.prog) (w := w) 0 t ty e i (.slice none 0 0) 1 24 hu hi hz0 hz1 hz2 rfl (by decide) v n xs hown
  ⟨b, 0, none⟩ 1 1 [u] (by simp) (fun j y hy => by rw [add_none, Nat.zero_add]; exact hb.at j y hy) (by intro y hy; rw [List.mem_singleton.1 hy]; exact hu1) (by unfold maxLen; omega) (by omega) (Nat.zero_le _)
 exact ⟨v', w', hr, h2, h3, h5⟩
theorem own_cells {w : World} {base e sz n : Nat} {v : Value} {xs : List Value} (h : w.ownsRow base e sz v n xs) : v.cells = #[v] ∧ v.oneCell' = true := by
 rcases h.2 with ⟨rfl, _⟩ | ⟨g, cap, cur, rfl, _⟩
 ·exact ⟨rfl, rfl⟩
 ·exact ⟨rfl, rfl⟩
theorem own_isSlice {w : World} {base e size n : Nat} {v : Value} {xs : List Value} (h : w.ownsRow base e size v n xs) : ∃ p n c, v = .slice p n c := by
 rcases h.2 with ⟨rfl, _⟩ | ⟨g, cap, cur, rfl, _⟩
 ·exact ⟨_, _, _, rfl⟩
 ·exact ⟨_, _, _, rfl⟩
section
variable {ops : Array Oper} {Q : Exit → Act → World → Prop} {a : Act} {w : World} {listed : Array Bool} {fuel : Nat} {S : World → Prop} {o : Oper}
end
end Go.Proofs.YthgidfoidbgnaaaDoor

namespace Go.Proofs.YthgidfoidbgnaaaDoor
open Fr.Frame

end Go.Proofs.YthgidfoidbgnaaaDoor

namespace Go.Proofs.YthgidfoidbgnaaaDoor
open Go.RowKit Go.Maps

theorem sl38 : Tryd.prog.underlying 28 = some (.slice (Tryd.prog.elem 28)) := by kernel_rfl
/-- bytes that the call has made -/
def BOwn (w : World) (base : Nat) (v : Value) (cs : List Nat) : Prop := w.ownsRow base 5 1 v cs.length (bcells cs)
theorem info5z : (Tryd.prog.info? 5).map (fun i => (i.zero, i.size, i.bytes)) = some (some (.int .u8 0), 1, 1) := by kernel_rfl
theorem lt256 (cs : List Nat) (h : ∀ c ∈ cs, c < 256) (j : Nat) : cs.getD j 0 < 256 := by
 by_cases hj : j < cs.length
 ·simpa [hj] using h _ (List.getElem_mem hj)
 ·simp [hj]
theorem elem51 : Tryd.prog.elem 28 = 5 := by kernel_rfl
theorem below_alloc (w : World) (o : Obj) : Below w.heap.size w (w.alloc o) := (Below.refl _ _).alloc (Nat.le_refl _) _
theorem BOwn.slice {w : World} {base : Nat} {v : Value} {cs : List Nat} (h : BOwn w base v cs) (hb : ∀ c ∈ cs, c < 256) (hl : cs.length ≤ 9223372036854775807) : SliceIn w v cs := by
 rcases h.2 with ⟨rfl, h0⟩ | ⟨g, cap, cur, rfl, _, hg, hcap, hmax, hsz, htake⟩
 ·obtain rfl : cs = [] := List.length_eq_zero_iff.1 h0
  exact ⟨none, 0, rfl, ⟨Nat.le_refl _, by decide⟩, Or.inl rfl⟩
 ·refine ⟨_, cap, rfl, ⟨hcap, hl⟩, Or.inr ⟨g, 0, rfl, fun j hj => ?_, fun j => ?_⟩⟩
  ·have h2 := h.cells (g := g) rfl j (.int .u8 (cs.getD j 0 : Nat)) (by simp [bcells, hj])
   rw [add_none] at h2
   exact h2
  ·by_cases hj : j < cs.length
   ·rw [List.getD_eq_getElem?_getD, List.getElem?_eq_getElem hj]
    exact hb _ (List.getElem_mem hj)
   ·rw [List.getD_eq_getElem?_getD, List.getElem?_eq_none (by omega)]
    decide
theorem mem_lt' {cs : List Nat} (h : ∀ j : Nat, cs.getD j 0 < 256) : ∀ c ∈ cs, c < 256 := by
 intro c hc
 obtain ⟨j, hj, rfl⟩ := List.getElem_of_mem hc
 simpa [hj] using h j
theorem SliceIn.len_max {w : World} {v : Value} {cs : List Nat} (h : SliceIn w v cs) : cs.length ≤ 9223372036854775807 := by
 obtain ⟨p, cap, rfl, hl, _⟩ := h
 exact hl.2
theorem sub_in {w : World} {cs : List Nat} {p : Option Addr} {cap : Nat} (hl : cs.length ≤ cap ∧ cs.length ≤ 9223372036854775807) (hin : cs = [] ∨ ∃ b off, p = some ⟨b, off, none⟩ ∧ BytesIn w b off cs)
  (l h m : Nat) (h1 : l ≤ h) (h2 : h ≤ cs.length) (h3 : h ≤ m) : SliceIn w (sliced p l h m 1) ((cs.take h).drop l) := by
 have hlen : ((cs.take h).drop l).length = h - l := by simp; omega
 unfold sliced
 by_cases hz : h = l
 ·have e : (cs.take h).drop l = [] := List.length_eq_zero_iff.1 (by omega)
  rw [e]
  refine ⟨if m = l then p else p.map (·.add (l * 1)), m - l, ?_, ⟨by simp, by simp⟩, Or.inl rfl⟩
  rw [show h - l = ([] : List Nat).length by simp; omega]
 ·rcases hin with rfl | ⟨b, off, rfl, hc, hb⟩
  ·simp at h2
   omega
  ·refine ⟨_, m - l, by rw [hlen], ⟨by omega, by omega⟩, Or.inr ⟨b, off + l, ?_, fun j hj => ?_, fun j => ?_⟩⟩
   ·rw [if_neg (by omega), Option.map_some, Nat.mul_one, add_none]
   ·rw [hlen] at hj
    have e : ((cs.take h).drop l).getD j 0 = cs.getD (l + j) 0 := by simp [show l + j < h by omega]
    rw [e, Nat.add_assoc]
    exact hc (l + j) (by omega)
   ·refine lt256 _ (fun c hc' => ?_) j
    exact mem_lt' hb c (List.mem_of_mem_take (List.mem_of_mem_drop hc'))
/-- which cut it is -/
def SubOf (lo hi mx : Option Value) (n l h : Nat) : Prop :=
 ((lo = none ∧ l = 0) ∨ ∃ L : Int, lo = some (.int .i64 L) ∧ L = (l : Int)) ∧ ((hi = none ∧ mx = none ∧ h = n) ∨ ∃ H : Int, hi = some (.int .i64 H) ∧ H = (h : Int) ∧ (mx = none ∨ mx = some (.int .i64 H))) ∧ l ≤ h ∧ h ≤ n
theorem run_bsub {w : World} {v : Value} {cs : List Nat} (hin : SliceIn w v cs) {lo hi mx : Option Value} {l h : Nat} (hs : SubOf lo hi mx cs.length l h) :
  ∃ v', (∀ w', (Instr.slice 28 v lo hi mx).run Tryd.prog w' = .ok v' w') ∧ SliceIn w v' ((cs.take h).drop l) := by
 obtain ⟨p, cap, rfl, hl, hin⟩ := hin
 obtain ⟨hlo, hhi, h1, h2⟩ := hs
 obtain ⟨i, hi5, hsz⟩ := Option.map_eq_some_iff.1 info5
 have hsize : ∀ w' : World, (sizeOf 5).run Tryd.prog w' = .ok 1 w' := fun w' => by simp [sizeOf, typeInfo, hi5, hsz]
 have key : ∀ m : Nat, h ≤ m → ((∀ w', (Instr.slice 28 (.slice p cs.length cap) lo hi mx).run Tryd.prog w' = .ok (sliced p l h m 1) w') → ∃ v', (∀ w', (Instr.slice 28 (.slice p cs.length cap) lo hi mx).run Tryd.prog w' = .ok v' w') ∧ SliceIn w v' ((cs.take h).drop l)) :=
  fun m hm hr => ⟨_, hr, sub_in hl hin l h m h1 h2 hm⟩
 have hu' := sl38
 rcases hlo with ⟨rfl, rfl⟩ | ⟨L, rfl, rfl⟩
 ·rcases hhi with ⟨rfl, rfl, rfl⟩ | ⟨H, rfl, rfl, rfl | rfl⟩
  ·exact key cap hl.1 fun w' => by rw [run_slice_all _ _ _ _ _ hu', elem51, hsize]; rfl
  ·exact key cap (by omega) fun w' => by rw [run_slice_h _ _ _ _ _ hu' _ _ (by omega) (by omega), elem51, hsize]; rfl
  ·exact key h (Nat.le_refl _) fun w' => by rw [run_slice_hm _ _ _ _ _ hu' _ _ _ _ (by omega) (by omega) (by omega), elem51, hsize]; rfl
 ·rcases hhi with ⟨rfl, rfl, rfl⟩ | ⟨H, rfl, rfl, rfl | rfl⟩
  ·exact key cap hl.1 fun w' => by rw [run_slice_l _ _ _ _ _ hu' _ _ (by omega) (by omega), elem51, hsize]; rfl
  ·exact key cap (by omega) fun w' => by rw [run_slice_lh _ _ _ _ _ hu' _ _ _ _ (by omega) (by omega) (by omega), elem51, hsize]; rfl
  ·exact key h (Nat.le_refl _) fun w' => by rw [run_slice_lhm _ _ _ _ _ hu' _ _ _ _ _ _ (by omega) (by omega) (by omega) (by omega), elem51, hsize]; rfl
theorem run_bstring {w : World} {v : Value} {cs : List Nat} (hin : SliceIn w v cs) : (convert 28 9 v).run Tryd.prog w = .ok (.string (strOfNums (cs.map Int.ofNat))) w := by
 obtain ⟨p, cap, rfl, hl, hin⟩ := hin
 rcases hin with rfl | ⟨b, off, rfl, hc, _⟩
 ·cases p with
  | none => exact run_convert_bytes_nil w 28 5 Tryd.underlying28 Tryd.underlying5 _ _ 9 Tryd.underlying9
  | some ad =>
   rw [run_convert_bytes_string w 28 9 5 (some ad) _ cap Tryd.underlying28 Tryd.underlying5 Tryd.underlying9]
   simp [Conv.bytesToString, strOfNums, loadCells]
   rfl
 ·refine run_convert_bytes_arg w 28 5 Tryd.underlying28 Tryd.underlying5 b off cs.length cap (cs.map Int.ofNat) (by simp) (fun i hi => ?_) 9 Tryd.underlying9
  rw [hc i hi]
  simp [hi]
/-- append of bytes to bytes of the call's own: nothing but its own block is turned -/
theorem run_bappend {w : World} (base : Nat) (ty : TypeId) (v vx : Value) (cs ys : List Nat) (hown : BOwn w base v cs) (hin : SliceIn w vx ys) (hsz : cs.length + ys.length ≤ 140737488355328) (hbase : base ≤ w.heap.size) :
  ∃ v' w', (Builtin.append_ #[28, 28] ty #[v, vx]).run Tryd.prog w = .ok v' w' ∧ BOwn w' base v' (cs ++ ys) ∧ w.grownBy w' v.ownBlock := by
 obtain ⟨i, hi, hz0, hz1, hz2⟩ := info_parts info5z
 obtain ⟨p, cap, rfl, hl, hin⟩ := hin
 have hgo : ∀ ad : Addr, (∀ j u, (bcells ys)[j]? = some u → w.cell? (ad.add j) = some u) → p = some ad → ∃ v' w', (Builtin.append_ #[28, 28] ty #[v, .slice p ys.length cap]).run Tryd.prog w = .ok v' w' ∧ BOwn w' base v' (cs ++ ys) ∧ w.grownBy w' v.ownBlock := by
  rintro ad hnews rfl
  obtain ⟨v', w', hr, ho', hg, _⟩ := run_append_own (P := Tryd.prog) (w := w) base 28 ty 5 i (.int .u8 0) 1 1 Tryd.underlying28 hi hz0 hz1 hz2 rfl (by decide) v cs.length (bcells cs) hown
   ad ys.length cap (bcells ys) (by simp [bcells_length]) hnews (bcells_one ys) (by unfold maxLen; omega) (by omega) hbase
  refine ⟨v', w', hr, ?_, hg⟩
  unfold BOwn
  rw [bcells_append, List.length_append]
  exact ho'
 rcases hin with rfl | ⟨b, off, rfl, hc, _⟩
 ·cases p with
  | none =>
   refine ⟨v, w, ?_, ?_, World.grownBy.refl w _⟩
   ·rcases hown.2 with ⟨rfl, h0⟩ | ⟨g, cap', cur, rfl, _, hg, hcap, hmax, hsz, htake⟩
    ·simp [Builtin.append_, run_underlying Tryd.underlying28, sizeOf, typeInfo, hi, Builtin.lenOf, Builtin.firstCells]
    ·simp [Builtin.append_, run_underlying Tryd.underlying28, sizeOf, typeInfo, hi, Builtin.lenOf, Builtin.firstCells, hcap, storeCells]
   ·rw [List.append_nil]
    exact hown
  | some ad => exact hgo ad (by intro j u hu; simp [bcells] at hu) rfl
 ·refine hgo ⟨b, off, none⟩ (fun j u hu => ?_) rfl
  have hj : j < ys.length := by
   have := (List.getElem?_eq_some_iff.1 hu).1
   rwa [bcells_length] at this
  rw [add_none, hc j hj, ← hu, bcells_at ys j hj]
theorem BOwn.belowG {w w' : World} {base : Nat} {v : Value} {cs : List Nat} (h : BOwn w base v cs) (hg : w.grownBy w' v.ownBlock) (hb : base ≤ w.heap.size) : Below base w w' :=
 (Below.refl base w).grown hg hb fun k hk => (h.lt k hk).1

/-- a slice that is a whole block -/
def whole (g n : Nat) : Value := .slice (some ⟨g, 0, none⟩) n n
theorem whole_slice {w : World} {g : Nat} {cs : List Nat} (h : Row w g 5 (bcells cs)) (hb : ∀ c ∈ cs, c < 256) (hl : cs.length ≤ 9223372036854775807) : SliceIn w (whole g cs.length) cs :=
 ⟨_, _, rfl, ⟨Nat.le_refl _, hl⟩, Or.inr ⟨g, 0, rfl, fun j hj => by rw [Nat.zero_add]; exact h.at j _ (bcells_at cs j hj), lt256 cs hb⟩⟩
section
variable {w w0 : World} {ops : Array Oper} {rest : List Oper} {o : Oper} {a : Act} {Q : Exit → Act → World → Prop}
theorem wl_bgrow (sv x : Operand) (hgd : Region.wanted o (yielded ops a.tmps) = true) (ho : o.op = .call { callee := .builtin .append, args := #[sv, x], argTypes := #[28, 28] })
  (base : Nat) (v vx : Value) (cs ys : List Nat) (hs : a.eval sv = v) (hown : BOwn w base v cs) (hx : a.eval x = vx) (hin : SliceIn w vx ys) (hsz : cs.length + ys.length ≤ 140737488355328) (hbase : base ≤ w.heap.size)
  (h : ∀ v' w', BOwn w' base v' (cs ++ ys) → w.grownBy w' v.ownBlock → wpList Tryd.prog ops Q rest (a.put o.dst v') w') : wpList Tryd.prog ops Q (o :: rest) a w := by
 obtain ⟨v', w', hr, ho', hg⟩ := run_bappend base o.type v vx cs ys hown hin hsz hbase
 refine wl hgd v' w' ?_ (h v' w' ho' hg)
 simp only [execOp, ho, resolve, invoke, builtin, Sem.run_bind, Sem.run_pure, Result.andThen_ok, List.map_toArray, List.map_cons, List.map_nil, hs, hx, hr]
theorem wl_make (l c : Operand) (t e : TypeId) (z : Value) (sz bts : Nat) (hgd : Region.wanted o (yielded ops a.tmps) = true) (ho : o.op = .makeSlice t l c) (hu : Tryd.prog.underlying t = some (.slice e)) (hinfo : (Tryd.prog.info? e).map (fun i => (i.zero, i.size, i.bytes)) = some (some z, sz, bts))
  (n : Nat) (hl : a.eval l = .int .i64 (n : Nat)) (hc : a.eval c = .int .i64 (n : Nat)) (hb : bts * n ≤ 281474976710656) (hn : n ≤ 9223372036854775807)
  (h : ∀ w', Row w' w.heap.size e (madeCells z.cells (n * sz)).toList → w'.heap.size = w.heap.size + 1 → Below w.heap.size w w' → wpList Tryd.prog ops Q rest (a.put o.dst (whole w.heap.size n)) w') : wpList Tryd.prog ops Q (o :: rest) a w := by
 obtain ⟨i, hi, hz0, hz1, hz2⟩ := info_parts hinfo
 have hr := run_make (P := Tryd.prog) (w := w) t e i z hu hi hz0 .i64 .i64 (n : Nat) (n : Nat) (by omega) (Int.le_refl _) (by rw [hz2]; omega) (by omega)
 rw [Int.toNat_natCast, hz1] at hr
 exact wl hgd _ _ (by simp only [execOp, ho, hl, hc, hr, Sem.run_bind, Sem.run_pure, Result.andThen_ok]; rfl) (h _ (Row.new' w e _) (by show (w.heap.push _).size = _; simp) (below_alloc w _))
end
theorem made5 (n : Nat) : (madeCells (Value.int IntKind.u8 0).cells (n * 1)).toList = bcells (List.replicate n 0) := by
 apply List.ext_getElem
 ·rw [bcells_length]
  simp [madeCells, Value.cells]
 ·intro j h1 h2
  simp [bcells, madeCells, Value.cells, Nat.mod_one]

theorem results_cell_tmp {fn : Func} {p u : Tmp} {t n : Nat} (ht : AggT t n) (h : fn.results = #[.cell p t, .tmp u]) (tmps : Array Value) (w : World) (g T : Nat) (hp : tmps.getD p undef = .pointer (some ⟨g, 0, none⟩)) (cs : List Value) (hn : cs.length = n) (hr : Row w g T cs) :
  (results fn tmps).run Tryd.prog w = .ok (.tuple #[.agg cs.toArray, tmps.getD u undef]) w := by
 have hl := run_loadVar ht w g 0 cs hn (fun j v hv => by rw [Nat.zero_add]; exact hr.at j v hv)
 have hp' : tmps[p]?.getD undef = .pointer (some ⟨g, 0, none⟩) := by simpa using hp
 simp [results, h, hp', asAddr, hl]
section
variable {ops : Array Oper} {Q : Exit → Act → World → Prop} {a : Act} {w : World} {listed : Array Bool} {fuel : Nat} {S : World → Prop} {o : Oper}
theorem gRun (hw : Region.wanted o (yielded ops a.tmps) = true) (v : Value) (hr : ∀ w, S w → (execOp a.eval o).run Tryd.prog w = .ok (.value v) w) : YieldsIf Tryd.prog ops S o v a := Or.inl ⟨hw, hr⟩
end
theorem run_storeA {w : World} {a : Act} {o : Oper} {t n : Nat} (ht : AggT t n) (x y : Operand) (ho : o.op = .store t x y) (g T : Nat) (hx : a.eval x = .pointer (some ⟨g, 0, none⟩)) (cs cur : List Value) (hy : a.eval y = .agg cs.toArray) (hn : cs.length = n) (hr : Row w g T cur) (hfit : cs.length = cur.length) (h1 : ∀ v ∈ cs, v.oneCell' = true) : (execOp a.eval o).run Tryd.prog w = .ok .skip (w.setRow g cs.toArray) := by
 have e : splice cur 0 cs = cs := splice_all cur cs hfit
 have := run_storeVar ht w g 0 T cur cs hn hr (by omega) h1
 rw [e] at this
 simp [execOp, ho, hx, hy, Instr.storeAt, Instr.sureAddr, this]
theorem opCallG {ops : Array Oper} {Q : Exit → Act → World → Prop} {a : Act} {w : World} {i : Nat} (d : Option Tmp) {o : Oper} {K : Act → World → Prop} (hi : ops[i]? = some o) (hd : o.dst = d) (hw : Region.wanted o (yielded ops a.tmps) = true) (f : Nat) (args : Array Value) (hrun : (execOp a.eval o).run Tryd.prog w = .ok (.enter f args) w) (h : Calls Tryd.prog f args w fun e w' => ∃ v, e = .returned v ∧ K (a.put d v) w') : wpOp Tryd.prog ops Q i K a w := by
 subst hd
 unfold wpOp
 simp only [hi, hw, if_true, Oper.wp, hrun, Oper.upon]
 refine .inl (Calls.mono h fun e w' he => ?_)
 obtain ⟨v, rfl, hK⟩ := he
 exact hK
theorem run_binOp' {w : World} {a : Act} {o : Oper} {k : BinOp} {t : TypeId} (x y : Operand) (ho : o.op = .binOp k t x y t) (u v r : Value) (hx : a.eval x = u) (hy : a.eval y = v) (e : (eqGuard k t x y u v).run Tryd.prog w = .ok () w) (hr : (binOp k t u v).run Tryd.prog w = .ok r w) : (execOp a.eval o).run Tryd.prog w = .ok (.value r) w := by
 simp only [execOp, ho, hx, hy, e, hr, Sem.run_bind, Sem.run_pure, Result.andThen_ok]
theorem opSkipZ {ops : Array Oper} {Q : Exit → Act → World → Prop} {a : Act} {w : World} {i : Nat} {o : Oper} {K : Act → World → Prop} (hi : ops[i]? = some o) (hd : o.dst = none) (hgd : o.guard = none) (w' : World) (hrun : (execOp a.eval o).run Tryd.prog w = .ok .skip w') (h : K a w') : wpOp Tryd.prog ops Q i K a w := by
 unfold wpOp
 have hw : Region.wanted o (yielded ops a.tmps) = true := by simp [Region.wanted, hgd]
 simp only [hi, hw, if_true, Oper.wp, hrun, Oper.upon, hd]
 exact .inl h
theorem opValueG {ops : Array Oper} {Q : Exit → Act → World → Prop} {a : Act} {w : World} {i : Nat} (d : Option Tmp) {o : Oper} {K : Act → World → Prop} (hi : ops[i]? = some o) (hd : o.dst = d) (hw : Region.wanted o (yielded ops a.tmps) = true) (v : Value) (w' : World) (hrun : (execOp a.eval o).run Tryd.prog w = .ok (.value v) w') (h : K (a.put d v) w') : wpOp Tryd.prog ops Q i K a w := by
 subst hd
 unfold wpOp
 simp only [hi, hw, if_true, Oper.wp, hrun, Oper.upon]
 exact .inl h
theorem run_mvZ {w : World} {a : Act} {o : Oper} (x : Operand) (ho : o.op = .move x) (v : Value) (hx : a.eval x = v) : (execOp a.eval o).run Tryd.prog w = .ok (.value v) w := by simp [execOp, ho, hx]
theorem run_asZ {w : World} {a : Act} {o : Oper} (x : Operand) (ho : o.op = .assign x) (v : Value) (hx : a.eval x = v) : (execOp a.eval o).run Tryd.prog w = .ok (.value v) w := by simp [execOp, ho, hx]
theorem run_pickZ {w : World} {a : Act} {o : Oper} (c x y : Operand) (ho : o.op = .pick c x y) (b : Bool) (v : Value) (hc : a.eval c = .bool b) (hv : (if b then a.eval x else a.eval y) = v) : (execOp a.eval o).run Tryd.prog w = .ok (.value v) w := by
 subst hv
 have hb : (asBool (.bool b)).run Tryd.prog w = .ok b w := rfl
 simp only [execOp, ho, hc, hb, Sem.run_bind, Sem.run_pure, Result.andThen_ok]
theorem wpList_callW {w : World} {ops : Array Oper} {rest : List Oper} {o : Oper} {a : Act} {Q : Exit → Act → World → Prop} {f : Nat} (ef : EntersF f) (xs : List Operand) (ts : Array TypeId) (hgd : Region.wanted o (yielded ops a.tmps) = true) (ho : o.op = .call { callee := .value (.func f), args := xs.toArray, argTypes := ts }) (vs : List Value) (hv : xs.map a.eval = vs)
  (h : Calls Tryd.prog f vs.toArray w fun e w' => ∃ v, e = .returned v ∧ wpList Tryd.prog ops Q rest (a.put o.dst v) w') : wpList Tryd.prog ops Q (o :: rest) a w :=
 BigFrame.wpList_want hgd fun K hK => by
  unfold Oper.wp
  rw [run_call ef xs ts ho vs hv]
  refine h.mono fun e w' he => ?_
  obtain ⟨v, rfl, hw⟩ := he
  exact hK _ _ hw
section
variable {w w0 : World} {ops : Array Oper} {rest : List Oper} {o : Oper} {a : Act} {Q : Exit → Act → World → Prop}
end

/-- a cut of an array of bytes -/
def ArrCut (l h : Option Value) (n lo hi : Nat) : Prop := ((l = none ∧ lo = 0) ∨ l = some (.int .i64 (lo : Nat))) ∧ ((h = none ∧ hi = n) ∨ h = some (.int .i64 (hi : Nat))) ∧ lo ≤ hi ∧ hi ≤ n ∧ lo < n
theorem sliceArr {T n : Nat} (hu : Tryd.prog.underlying T = some (.array n 5)) (g o lo hi : Nat) (l h : Option Value) (hc : ArrCut l h n lo hi) (W : World) : (Instr.sliceAt T (.pointer (some ⟨g, o, none⟩)) l h none).run Tryd.prog W = .ok (.slice (some ⟨g, o + lo, none⟩) (hi - lo) (n - lo)) W := by
 obtain ⟨i, hi5, hsz⟩ := Option.map_eq_some_iff.1 info5
 obtain ⟨h1, h2, h3, h4, h5⟩ := hc
 rcases h1 with ⟨rfl, rfl⟩ | rfl <;> rcases h2 with ⟨rfl, rfl⟩ | rfl <;> simp [Instr.sliceAt, run_underlying hu, Instr.sureAddr, Instr.sliceBounds, Instr.sliceBound, asIntOf, sizeOf, typeInfo, hi5, hsz, add_none, h3, h4] <;> (try omega)
theorem run_slA {w : World} {a : Act} {o : Oper} {T n : Nat} (hu : Tryd.prog.underlying T = some (.array n 5)) (x : Operand) (lo' hi' : Option Operand) (ho : o.op = .slice T x lo' hi' none) (g off lo hi : Nat) (hx : a.eval x = .pointer (some ⟨g, off, none⟩)) (hc : ArrCut (lo'.map a.eval) (hi'.map a.eval) n lo hi) : (execOp a.eval o).run Tryd.prog w = .ok (.value (.slice (some ⟨g, off + lo, none⟩) (hi - lo) (n - lo))) w := by
 have h := sliceArr hu g off lo hi _ _ hc w
 simp only [execOp, ho, hx, Option.map_none]
 first
  | (simp only [Sem.run_bind, h, Result.andThen_ok, Sem.run_pure])
  | (simp [h])
theorem run_boxA {w : World} {a : Act} {o : Oper} {t : Nat} (x : Operand) (ho : o.op = .box t x) (cs : List Value) (hx : a.eval x = .agg cs.toArray) : (execOp a.eval o).run Tryd.prog w = .ok (.value (ptr w.heap.size)) (w.alloc (.cells cs.toArray t)) := by
 simp [execOp, ho, hx, Instr.box, newVar, newRow, Value.cells]
theorem run_allocA {w : World} {a : Act} {o : Oper} {t : Nat} (zs : List Value) (hz : (Tryd.prog.info? t).map (·.zero) = some (some (.agg zs.toArray))) (ho : o.op = .alloc t) : (execOp a.eval o).run Tryd.prog w = .ok (.value (ptr w.heap.size)) (w.alloc (.cells zs.toArray t)) := by
 obtain ⟨i, hi, hz⟩ := Option.map_eq_some_iff.1 hz
 simp [execOp, ho, Instr.alloc, zeroValue, typeInfo, hi, hz, newVar, newRow, Value.cells]
end Go.Proofs.YthgidfoidbgnaaaDoor

/- Bytes and rows: cutting, appending, making, copying, strings; rows that are known whole. chunk's count, size and numbers. chunk's piece and told. -/
import Derived.Test.YtfnncccioipjcaaDoorVars
import Derived.Test.YtfnncccioipjcaaDoorCMath
import Derived.Laws.MakeOwn
import Derived.Test.YtfnncccioipjcaaDoorMem
namespace Go.Proofs.YtfnncccioipjcaaDoor
open Go.RowKit

theorem mem_lt' {cs : List Nat} (h : ∀ j : Nat, cs.getD j 0 < 256) : ∀ c ∈ cs, c < 256 := by
  intro c hc
  obtain ⟨j, hj, rfl⟩ := List.getElem_of_mem hc
  simpa [hj] using h j
theorem SliceIn.len_max {w : World} {v : Value} {cs : List Nat} (h : SliceIn w v cs) : cs.length ≤ 9223372036854775807 := by
  obtain ⟨p, cap, rfl, hl, _⟩ := h
  exact hl.2
theorem size5 : (Tryd.prog.info? 5).map (·.size) = some 1 := by kernel_rfl
/-! cutting -/
theorem sub_in {w : World} {cs : List Nat} {p : Option Addr} {cap : Nat} (hl : cs.length ≤ cap ∧ cs.length ≤ 9223372036854775807) (hin : cs = [] ∨ ∃ b off, p = some ⟨b, off, none⟩ ∧ BytesIn w b off cs)
    (l h m : Nat) (h1 : l ≤ h) (h2 : h ≤ cs.length) (h3 : h ≤ m) : SliceIn w (sliced p l h m 1) ((cs.take h).drop l) := by
  have hlen : ((cs.take h).drop l).length = h - l := by simp; omega
  unfold sliced
  by_cases hz : h = l
  · have e : (cs.take h).drop l = [] := List.length_eq_zero_iff.1 (by omega)
    rw [e]
    refine ⟨if m = l then p else p.map (·.add (l * 1)), m - l, ?_, ⟨by simp, by simp⟩, Or.inl rfl⟩
    rw [show h - l = ([] : List Nat).length by simp; omega]
  · rcases hin with rfl | ⟨b, off, rfl, hc, hb⟩
    · simp at h2
      omega
    · refine ⟨_, m - l, by rw [hlen], ⟨by omega, by omega⟩, Or.inr ⟨b, off + l, ?_, fun j hj => ?_, fun j => ?_⟩⟩
      · rw [if_neg (by omega), Option.map_some, Nat.mul_one, add_none]
      · rw [hlen] at hj
        have e : ((cs.take h).drop l).getD j 0 = cs.getD (l + j) 0 := by simp [show l + j < h by omega]
        rw [e, Nat.add_assoc]
        exact hc (l + j) (by omega)
      · refine lt256 _ (fun c hc' => ?_) j
        exact mem_lt' hb c (List.mem_of_mem_take (List.mem_of_mem_drop hc'))
/-- which cut it is -/
def SubOf (lo hi mx : Option Value) (n l h : Nat) : Prop :=
  ((lo = none ∧ l = 0) ∨ ∃ L : Int, lo = some (.int .i64 L) ∧ L = (l : Int)) ∧ ((hi = none ∧ mx = none ∧ h = n) ∨ ∃ H : Int, hi = some (.int .i64 H) ∧ H = (h : Int) ∧ (mx = none ∨ mx = some (.int .i64 H))) ∧ l ≤ h ∧ h ≤ n
theorem run_bsub {w : World} {v : Value} {cs : List Nat} (hin : SliceIn w v cs) {lo hi mx : Option Value} {l h : Nat} (hs : SubOf lo hi mx cs.length l h) :
    ∃ v', (∀ w', (Instr.slice 39 v lo hi mx).run Tryd.prog w' = .ok v' w') ∧ SliceIn w v' ((cs.take h).drop l) := by
  obtain ⟨p, cap, rfl, hl, hin⟩ := hin
  obtain ⟨hlo, hhi, h1, h2⟩ := hs
  obtain ⟨i, hi5, hsz⟩ := Option.map_eq_some_iff.1 size5
  have hsize : ∀ w' : World, (sizeOf 5).run Tryd.prog w' = .ok 1 w' := fun w' => by simp [sizeOf, typeInfo, hi5, hsz]
  have key : ∀ m : Nat, h ≤ m → ((∀ w', (Instr.slice 39 (.slice p cs.length cap) lo hi mx).run Tryd.prog w' = .ok (sliced p l h m 1) w') → ∃ v', (∀ w', (Instr.slice 39 (.slice p cs.length cap) lo hi mx).run Tryd.prog w' = .ok v' w') ∧ SliceIn w v' ((cs.take h).drop l)) :=
    fun m hm hr => ⟨_, hr, sub_in hl hin l h m h1 h2 hm⟩
  have hu' := under22
  rcases hlo with ⟨rfl, rfl⟩ | ⟨L, rfl, rfl⟩
  · rcases hhi with ⟨rfl, rfl, rfl⟩ | ⟨H, rfl, rfl, rfl | rfl⟩
    · exact key cap hl.1 fun w' => by rw [run_slice_all _ _ _ _ _ hu', elem22, hsize]; rfl
    · exact key cap (by omega) fun w' => by rw [run_slice_h _ _ _ _ _ hu' _ _ (by omega) (by omega), elem22, hsize]; rfl
    · exact key h (Nat.le_refl _) fun w' => by rw [run_slice_hm _ _ _ _ _ hu' _ _ _ _ (by omega) (by omega) (by omega), elem22, hsize]; rfl
  · rcases hhi with ⟨rfl, rfl, rfl⟩ | ⟨H, rfl, rfl, rfl | rfl⟩
    · exact key cap hl.1 fun w' => by rw [run_slice_l _ _ _ _ _ hu' _ _ (by omega) (by omega), elem22, hsize]; rfl
    · exact key cap (by omega) fun w' => by rw [run_slice_lh _ _ _ _ _ hu' _ _ _ _ (by omega) (by omega) (by omega), elem22, hsize]; rfl
    · exact key h (Nat.le_refl _) fun w' => by rw [run_slice_lhm _ _ _ _ _ hu' _ _ _ _ _ _ (by omega) (by omega) (by omega) (by omega), elem22, hsize]; rfl
theorem run_bstring {w : World} {v : Value} {cs : List Nat} (hin : SliceIn w v cs) : (convert 39 9 v).run Tryd.prog w = .ok (.string (strOfNums (cs.map Int.ofNat))) w := by
  obtain ⟨p, cap, rfl, hl, hin⟩ := hin
  rcases hin with rfl | ⟨b, off, rfl, hc, _⟩
  · cases p with
    | none => exact run_convert_bytes_nil w 39 5 Tryd.underlying39 Tryd.underlying5 _ _ 9 Tryd.underlying9
    | some ad =>
      rw [run_convert_bytes_string w 39 9 5 (some ad) _ cap Tryd.underlying39 Tryd.underlying5 Tryd.underlying9]
      simp [Conv.bytesToString, strOfNums, loadCells]
      rfl
  · refine run_convert_bytes_arg w 39 5 Tryd.underlying39 Tryd.underlying5 b off cs.length cap (cs.map Int.ofNat) (by simp) (fun i hi => ?_) 9 Tryd.underlying9
    rw [hc i hi]
    simp [hi]
/-- append of bytes to bytes of the call's own: nothing but its own block is turned -/
theorem run_bappend {w : World} (base : Nat) (ty : TypeId) (v vx : Value) (cs ys : List Nat) (hown : BOwn w base v cs) (hin : SliceIn w vx ys) (hsz : cs.length + ys.length ≤ 140737488355328) (hbase : base ≤ w.heap.size) :
    ∃ v' w', (Builtin.append_ #[39, 39] ty #[v, vx]).run Tryd.prog w = .ok v' w' ∧ BOwn w' base v' (cs ++ ys) ∧ w.grownBy w' v.ownBlock := by
  obtain ⟨i, hi, hz0, hz1, hz2⟩ := info_parts info5'
  obtain ⟨p, cap, rfl, hl, hin⟩ := hin
  have hgo : ∀ ad : Addr, (∀ j u, (bcells ys)[j]? = some u → w.cell? (ad.add j) = some u) → p = some ad → ∃ v' w', (Builtin.append_ #[39, 39] ty #[v, .slice p ys.length cap]).run Tryd.prog w = .ok v' w' ∧ BOwn w' base v' (cs ++ ys) ∧ w.grownBy w' v.ownBlock := by
    rintro ad hnews rfl
    obtain ⟨v', w', hr, ho', hg, _⟩ := run_append_own (P := Tryd.prog) (w := w) base 39 ty 5 i (.int .u8 0) 1 1 Tryd.underlying39 hi hz0 hz1 hz2 rfl (by decide) v cs.length (bcells cs) hown
      ad ys.length cap (bcells ys) (by simp [bcells_length]) hnews (bcells_one ys) (by unfold maxLen; omega) (by omega) hbase
    refine ⟨v', w', hr, ?_, hg⟩
    unfold BOwn
    rw [bcells_append, List.length_append]
    exact ho'
  rcases hin with rfl | ⟨b, off, rfl, hc, _⟩
  · cases p with
    | none =>
      refine ⟨v, w, ?_, ?_, World.grownBy.refl w _⟩
      · rcases hown.2 with ⟨rfl, h0⟩ | ⟨g, cap', cur, rfl, _, hg, hcap, hmax, hsz, htake⟩
        · simp [Builtin.append_, run_underlying Tryd.underlying39, sizeOf, typeInfo, hi, Builtin.lenOf, Builtin.firstCells]
        · simp [Builtin.append_, run_underlying Tryd.underlying39, sizeOf, typeInfo, hi, Builtin.lenOf, Builtin.firstCells, hcap, storeCells]
      · rw [List.append_nil]
        exact hown
    | some ad => exact hgo ad (by intro j u hu; simp [bcells] at hu) rfl
  · refine hgo ⟨b, off, none⟩ (fun j u hu => ?_) rfl
    have hj : j < ys.length := by
      have := (List.getElem?_eq_some_iff.1 hu).1
      rwa [bcells_length] at this
    rw [add_none, hc j hj, ← hu, bcells_at ys j hj]
theorem BOwn.belowG {w w' : World} {base : Nat} {v : Value} {cs : List Nat} (h : BOwn w base v cs) (hg : w.grownBy w' v.ownBlock) (hb : base ≤ w.heap.size) : Below base w w' :=
  (Below.refl base w).grown hg hb fun k hk => (h.lt k hk).1

/-! rows of rows -/
theorem one39 : OneT 39 := fun w g o v h => by simp [loadVar, isAgg, run_underlying Tryd.underlying39, h]
theorem sizeS39 : OneS 39 := by unfold OneS; kernel_rfl
theorem sizeS5 : OneS 5 := by unfold OneS; kernel_rfl
theorem info39 : (Tryd.prog.info? 39).map (fun i => (i.zero, i.size, i.bytes)) = some (some (.slice none 0 0), 1, 24) := by kernel_rfl
theorem size39 : (Tryd.prog.info? 39).map (·.size) = some 1 := by kernel_rfl
theorem elem22' : Tryd.prog.elem 22 = 39 := by kernel_rfl
theorem under22' : Tryd.prog.underlying 22 = some (.slice (Tryd.prog.elem 22)) := by rw [elem22']; exact Tryd.underlying22
/-- a slice that is a whole block -/
def whole (g n : Nat) : Value := .slice (some ⟨g, 0, none⟩) n n
theorem whole_one (g n : Nat) : OneV (whole g n) := ⟨rfl, rfl⟩
theorem whole_slice {w : World} {g : Nat} {cs : List Nat} (h : Row w g 5 (bcells cs)) (hb : ∀ c ∈ cs, c < 256) (hl : cs.length ≤ 9223372036854775807) : SliceIn w (whole g cs.length) cs :=
  ⟨_, _, rfl, ⟨Nat.le_refl _, hl⟩, Or.inr ⟨g, 0, rfl, fun j hj => by rw [Nat.zero_add]; exact h.at j _ (bcells_at cs j hj), lt256 cs hb⟩⟩
theorem whole_own {w : World} {g base : Nat} {cs : List Nat} (h : Row w g 5 (bcells cs)) (hb : base ≤ g) (hl : cs.length ≤ 1000) : BOwn w base (whole g cs.length) cs :=
  ⟨by rw [bcells_length, Nat.mul_one], Or.inr ⟨g, cs.length, (bcells cs).toArray, rfl, hb, h, Nat.le_refl _, by unfold maxLen; omega, by simp [bcells_length], by rw [List.take_of_length_le (by simp [bcells_length])]⟩⟩
section
variable {w w0 : World} {ops : Array Oper} {rest : List Oper} {o : Oper} {a : Act} {Q : Exit → Act → World → Prop}
theorem wl_blenN (x : Operand) (hgd : Region.wanted o (yielded ops a.tmps) = true) (ho : o.op = .call { callee := .builtin .len, args := #[x], argTypes := #[39] }) (v : Value) (cs : List Nat) (hx : a.eval x = v) (hin : SliceIn w0 v cs) (N : Nat) (hN : cs.length = N)
    (h : wpList Tryd.prog ops Q rest (a.put o.dst (.int .i64 (N : Nat))) w) : wpList Tryd.prog ops Q (o :: rest) a w := wl_blen x hgd ho v cs hx hin (by rw [hN]; exact h)
theorem wl_bsub (x : Operand) (lo hi mx : Option Operand) (hgd : Region.wanted o (yielded ops a.tmps) = true) (ho : o.op = .slice 39 x lo hi mx) (v : Value) (cs : List Nat) (hx : a.eval x = v) (hin : SliceIn w v cs) (l h' : Nat)
    (hs : SubOf (lo.map a.eval) (hi.map a.eval) (mx.map a.eval) cs.length l h')
    (h : ∀ v', SliceIn w v' ((cs.take h').drop l) → wpList Tryd.prog ops Q rest (a.put o.dst v') w) : wpList Tryd.prog ops Q (o :: rest) a w := by
  obtain ⟨v', hr, hv'⟩ := run_bsub hin hs
  refine wl hgd v' w ?_ (h v' hv')
  simp [execOp, ho, hx, run_sliceAt_slice _ _ _ _ _ _ under22, hr]
theorem wl_bgrow (sv x : Operand) (hgd : Region.wanted o (yielded ops a.tmps) = true) (ho : o.op = .call { callee := .builtin .append, args := #[sv, x], argTypes := #[39, 39] })
    (base : Nat) (v vx : Value) (cs ys : List Nat) (hs : a.eval sv = v) (hown : BOwn w base v cs) (hx : a.eval x = vx) (hin : SliceIn w vx ys) (hsz : cs.length + ys.length ≤ 140737488355328) (hbase : base ≤ w.heap.size)
    (h : ∀ v' w', BOwn w' base v' (cs ++ ys) → w.grownBy w' v.ownBlock → wpList Tryd.prog ops Q rest (a.put o.dst v') w') : wpList Tryd.prog ops Q (o :: rest) a w := by
  obtain ⟨v', w', hr, ho', hg⟩ := run_bappend base o.type v vx cs ys hown hin hsz hbase
  refine wl hgd v' w' ?_ (h v' w' ho' hg)
  simp only [execOp, ho, resolve, invoke, builtin, Sem.run_bind, Sem.run_pure, Result.andThen_ok, List.map_toArray, List.map_cons, List.map_nil, hs, hx, hr]
theorem wl_string (x : Operand) (hgd : Region.wanted o (yielded ops a.tmps) = true) (ho : o.op = .convert 39 9 x) (v : Value) (cs : List Nat) (hx : a.eval x = v) (hin : SliceIn w v cs)
    (h : wpList Tryd.prog ops Q rest (a.put o.dst (.string (strOfNums (cs.map Int.ofNat)))) w) : wpList Tryd.prog ops Q (o :: rest) a w :=
  wl hgd _ w (by simp [execOp, ho, hx, run_bstring hin]) h
theorem wl_blit0 (hgd : Region.wanted o (yielded ops a.tmps) = true) (ho : o.op = .buildSlice 39 0 #[])
    (h : ∀ w', Row w' w.heap.size 5 [] → w'.heap.size = w.heap.size + 1 → Below w.heap.size w w' → wpList Tryd.prog ops Q rest (a.put o.dst (whole w.heap.size 0)) w') : wpList Tryd.prog ops Q (o :: rest) a w := by
  have hr : (Instr.buildSlice 39 0 #[]).run Tryd.prog w = .ok (.slice (some ⟨w.heap.size, 0, none⟩) 0 0) (w.alloc (.cells #[] 5)) := by kernel_rfl
  exact wl hgd _ _ (by simp only [execOp, ho, hr, List.map_toArray, List.map_nil, Sem.run_bind, Sem.run_pure, Result.andThen_ok]; rfl) (h _ (Row.new w 5 []) (by show (w.heap.push _).size = _; simp) (below_alloc w _))
theorem wl_make (l c : Operand) (t e : TypeId) (z : Value) (sz bts : Nat) (hgd : Region.wanted o (yielded ops a.tmps) = true) (ho : o.op = .makeSlice t l c) (hu : Tryd.prog.underlying t = some (.slice e)) (hinfo : (Tryd.prog.info? e).map (fun i => (i.zero, i.size, i.bytes)) = some (some z, sz, bts))
    (n : Nat) (hl : a.eval l = .int .i64 (n : Nat)) (hc : a.eval c = .int .i64 (n : Nat)) (hb : bts * n ≤ 281474976710656) (hn : n ≤ 9223372036854775807)
    (h : ∀ w', Row w' w.heap.size e (madeCells z.cells (n * sz)).toList → w'.heap.size = w.heap.size + 1 → Below w.heap.size w w' → wpList Tryd.prog ops Q rest (a.put o.dst (whole w.heap.size n)) w') : wpList Tryd.prog ops Q (o :: rest) a w := by
  obtain ⟨i, hi, hz0, hz1, hz2⟩ := info_parts hinfo
  have hr := run_make (P := Tryd.prog) (w := w) t e i z hu hi hz0 .i64 .i64 (n : Nat) (n : Nat) (by omega) (Int.le_refl _) (by rw [hz2]; omega) (by omega)
  rw [Int.toNat_natCast, hz1] at hr
  exact wl hgd _ _ (by simp only [execOp, ho, hl, hc, hr, Sem.run_bind, Sem.run_pure, Result.andThen_ok]; rfl) (h _ (Row.new' w e _) (by show (w.heap.push _).size = _; simp) (below_alloc w _))
theorem wl_copy (d s : Operand) (hgd : o.guard = none) (ho : o.op = .call { callee := .builtin .copy, args := #[d, s], argTypes := #[39, 39] })
    (g off dLen dCap b so sLen sCap T k : Nat) (hd : a.eval d = .slice (some ⟨g, off, none⟩) dLen dCap) (hs : a.eval s = .slice (some ⟨b, so, none⟩) sLen sCap)
    (cur : List Value) (hr : Row w g T cur) (c : List Nat) (hk : c.length = k) (hn : k = Nat.min sLen dLen) (hsrc : ∀ j, j < c.length → w.cell? ⟨b, so + j, none⟩ = some (.int .u8 (c.getD j 0 : Nat))) (hfit : off + k ≤ cur.length)
    (h : ∀ w', Row w' g T (splice cur off (bcells c)) → Only g w w' → w'.heap.size = w.heap.size → wpList Tryd.prog ops Q rest (a.put o.dst (.int .i64 (k : Nat))) w') : wpList Tryd.prog ops Q (o :: rest) a w := by
  have hbl : (bcells c).length = k := by rw [bcells_length]; exact hk
  refine wpList_copy_own hgd d s 39 39 ho 5 Tryd.underlying39 info5 g off dLen dCap ⟨b, so, none⟩ sLen sCap hd hs cur.toArray T hr (bcells c) (by rw [hbl]; exact hn) ?_ (by rw [hbl]; simpa using hfit) (bcells_one c) ?_
  · intro j v hv
    have hj : j < c.length := by
      have := (List.getElem?_eq_some_iff.1 hv).1
      rwa [bcells_length] at this
    rw [add_none, hsrc j hj, ← hv, bcells_at c j hj]
  · have hh := h (w.setRow g (splice cur off (bcells c)).toArray) (hr.setRow _) ((Only.refl g w).setRow _) (by simp [World.setRow])
    rw [← hbl] at hh
    exact hh
end
theorem made5 (n : Nat) : (madeCells (Value.int IntKind.u8 0).cells (n * 1)).toList = bcells (List.replicate n 0) := by
  apply List.ext_getElem
  · rw [bcells_length]
    simp [madeCells, Value.cells]
  · intro j h1 h2
    simp [bcells, madeCells, Value.cells, Nat.mod_one]
theorem made39 (n : Nat) : (madeCells (Value.slice none 0 0).cells (n * 1)).toList = List.replicate n (.slice none 0 0) := by
  apply List.ext_getElem
  · simp [madeCells, Value.cells]
  · intro j h1 h2
    simp [madeCells, Value.cells, Nat.mod_one]
theorem made29 (n : Nat) : (madeCells (Value.agg (zerosU8 32).toArray).cells (n * 32)).toList = bcells (List.replicate n noH).flatten := by
  have e : (List.replicate n noH).flatten = List.replicate (n * 32) 0 := by
    unfold noH
    rw [List.flatten_replicate_replicate]
  rw [e]
  have e2 : ∀ k : Nat, k < 32 → (zerosU8 32).getD k default = .int .u8 0 := by
    intro k hk
    unfold zerosU8
    rw [List.getD_eq_getElem?_getD, List.getElem?_replicate, if_pos hk]
    rfl
  show (madeCells (zerosU8 32).toArray (n * 32)).toList = _
  have e3 : (zerosU8 32).length = 32 := List.length_replicate ..
  generalize zerosU8 32 = z at e2 e3
  apply List.ext_getElem
  · rw [bcells_length]
    simp [madeCells]
  · intro j h1 h2
    have := e2 (j % 32) (Nat.mod_lt _ (by decide))
    simp [bcells, madeCells, e3]
    simpa using this
end Go.Proofs.YtfnncccioipjcaaDoor

namespace Go.Proofs.YtfnncccioipjcaaDoor
open Go.RowKit

theorem count_any (L : Int) (hl : -9223372036854775808 ≤ L) (hm : L ≤ 9223372036854775807) (W : World) : Calls Tryd.prog 37 #[.int .i64 L] W fun e w' => e = .returned (.int .i64 (Cut.count L.toNat : Nat)) ∧ W = w' := by
  by_cases h : L < 1
  · have HC : Hid (Cut.count L.toNat = 0) := by
      show _ = _
      rw [show L.toNat = 0 by omega]
      rfl
    go_enter Tryd.func37, Tryd.ntmps37
    go_wp2
    go_ret
    exact ⟨by rw [HC.out]; rfl, rfl⟩
  · have HC : Hid ((Cut.count L.toNat : Int) = (L - 1) / 64 + 1) := by
      show _ = _
      unfold Cut.count
      omega
    go_enter Tryd.func37, Tryd.ntmps37
    go_wp2
    go_ret
    exact ⟨by rw [HC.out]; rfl, rfl⟩
theorem size_any (i L : Int) (h0 : 0 ≤ i) (h1 : i * 64 < L) (hm : L ≤ 9223372036854775807) (W : World) : Calls Tryd.prog 45 #[.int .i64 i, .int .i64 L] W fun e w' => e = .returned (.int .i64 (min 64 (L - i * 64))) ∧ W = w' := by
  go_enter Tryd.func45, Tryd.ntmps45
  go_wp2
  go_ret
  exact ⟨rfl, rfl⟩
theorem numbers_any (i L : Int) (hl : -9223372036854775808 ≤ L) (hm : L ≤ 9223372036854775807) (W : World) : Calls Tryd.prog 40 #[.int .i64 i, .int .i64 L] W fun e w' => e = .returned (.bool (decide (0 ≤ i ∧ i < (Cut.count L.toNat : Nat)))) ∧ W = w' := by
  have HC := count_any L hl hm W
  generalize Cut.count L.toNat = c at HC ⊢
  by_cases h : 0 ≤ i
  · have h' : decide (0 ≤ i) = true := decide_eq_true h
    go_enter Tryd.func40, Tryd.ntmps40
    go_wp2_with (go_at_call 37; refine HC.mono ?_; rintro e w' ⟨rfl, rfl⟩)
    go_ret
    exact ⟨congrArg (fun z => Ending.returned (.bool z)) (by simp [h]), rfl⟩
  · have h' : decide (0 ≤ i) = false := decide_eq_false h
    go_enter Tryd.func40, Tryd.ntmps40
    go_wp2
    go_ret
    exact ⟨congrArg (fun z => Ending.returned (.bool z)) (by simp), rfl⟩
end Go.Proofs.YtfnncccioipjcaaDoor

namespace Go.Proofs.YtfnncccioipjcaaDoor
open Go.RowKit

theorem piece_eq (cs : List Nat) (i t : Nat) (ht : t = i * 64 + min 64 (cs.length - i * 64)) : (cs.take t).drop (i * 64) = Cut.piece cs i := by
  unfold Cut.piece
  rw [List.drop_take, ht, Nat.add_sub_cancel_left]
  rcases Nat.le_total 64 (cs.length - i * 64) with h | h
  · rw [Nat.min_eq_left h]
  · rw [Nat.min_eq_right h, List.take_of_length_le (by rw [List.length_drop]; exact Nat.le_refl _), List.take_of_length_le (by rw [List.length_drop]; exact h)]
set_option maxHeartbeats 1000000 in
theorem piece_any' (v : Value) (cs : List Nat) (w : World) (h : SliceIn w v cs) (i : Nat) (hi : i < Cut.count cs.length) :
    Calls Tryd.prog 39 #[v, .int .i64 (i : Nat)] w fun e w' => (∃ v', e = .returned v' ∧ SliceIn w v' (Cut.piece cs i)) ∧ w = w' := by
  have h1 := (Cut.lt_count cs.length i).1 hi
  have hmx := h.len_max
  obtain ⟨N, hN⟩ : ∃ N, cs.length = N := ⟨_, rfl⟩
  have HN : Hid (cs.length = N) := hN
  rw [hN] at h1 hmx
  obtain ⟨K, hK⟩ : ∃ K : Int, K = min 64 ((N : Int) - (i : Int) * 64) := ⟨_, rfl⟩
  have HE : Hid ((cs.take (i * 64 + K.toNat)).drop (i * 64) = Cut.piece cs i) := piece_eq cs i _ (by omega)
  have HS : Hid (Calls Tryd.prog 45 #[.int .i64 (i : Nat), .int .i64 (N : Nat)] w fun e w' => e = .returned (.int .i64 K) ∧ w = w') := by
    have := size_any (i : Nat) (N : Nat) (by omega) (by omega) (by omega) w
    rw [← hK] at this
    exact this
  have k0 : 0 ≤ K := by omega
  have k1 : (i : Int) * 64 + K ≤ (N : Int) := by omega
  have k2 : (i : Int) * 64 < (N : Int) := by omega
  clear hN hK hi
  go_enter Tryd.func39, Tryd.ntmps39
  go_wp2_with (first
    | (refine wl_blenN (.tmp 11) rfl rfl v cs rfl h N HN.out ?_)
    | (go_at_call 45; refine HS.out.mono ?_; rintro e w' ⟨rfl, rfl⟩)
    | (refine wl_bsub (.tmp 15) (some (.tmp 16)) (some (.tmp 17)) (some (.tmp 18)) rfl rfl v cs rfl h (i * 64) (i * 64 + K.toNat) ⟨Or.inr ⟨_, rfl, by omega⟩, Or.inr ⟨_, rfl, by omega, Or.inr rfl⟩, by omega, by rw [HN.out]; omega⟩ ?_; intro v4 s4; rw [HE.out] at s4))
  go_ret
  exact ⟨⟨_, rfl, s4⟩, rfl⟩
set_option maxHeartbeats 1000000 in
theorem told_any (v : Value) (cs : List Nat) (w : World) (h : SliceIn w v cs) (h1 : 1 ≤ cs.length) (h64 : cs.length ≤ 64) :
    Calls Tryd.prog 38 #[v] w fun e w' => e = .returned (whole w.heap.size cs.length) ∧ Row w' w.heap.size 5 (bcells cs) ∧ w'.heap.size = w.heap.size + 1 ∧ Below w.heap.size w w' := by
  have h' := h
  obtain ⟨p, cap, rfl, hl, hin⟩ := h'
  rcases hin with rfl | ⟨b, off, rfl, hc, hb⟩
  · simp at h1
  have hbl : b < w.heap.size := BytesIn.lt ⟨hc, hb⟩ (by intro e; rw [e] at h1; simp at h1)
  obtain ⟨N, hN⟩ : ∃ N, cs.length = N := ⟨_, rfl⟩
  have HN : Hid (cs.length = N) := hN
  rw [hN] at h1 h64 hl
  rw [hN] at h ⊢
  obtain ⟨B, hB⟩ : ∃ B, B = w.heap.size := ⟨_, rfl⟩
  have HB : Hid (B = w.heap.size) := hB
  have HH : Hid (SliceIn w (.slice (some ⟨b, off, none⟩) N cap) cs) := h
  have HC : Hid (BytesIn w b off cs) := ⟨hc, hb⟩
  have HBL : Hid (b < B) := by rw [hB]; exact hbl
  clear hN hl h hc hb hbl
  go_enter Tryd.func38, Tryd.ntmps38
  go_wp2_with (first
    | (refine wl_blenN (.tmp 4) rfl rfl _ cs rfl HH.out N HN.out ?_)
    | (refine wl_make (.tmp 5) (.tmp 5) 39 5 (.int .u8 0) 1 1 rfl rfl Tryd.underlying39 info5' N rfl rfl (by omega) (by omega) ?_; rw [← hB]; intro w1 r1 s1 b1; rw [made5] at r1; have R1 : Hid (Row w1 B 5 (bcells (List.replicate N 0)) ∧ w1.heap.size = B + 1 ∧ Below B w w1) := ⟨r1, s1, b1⟩; clear r1 s1 b1 hB)
    | (refine wl_copy (.tmp 7) (.tmp 8) rfl rfl B 0 N N b off N cap 5 N rfl rfl (bcells (List.replicate N 0)) R1.out.1 cs HN.out (Nat.min_self N).symm (fun j hj => by rw [show w1.cell? ⟨b, off + j, none⟩ = w.cell? ⟨b, off + j, none⟩ from by unfold World.cell?; rw [R1.out.2.2.block b HBL.out]]; exact HC.out.1 j hj) (by simp [bcells_length]) ?_; intro w2 r2 o2 s2; have R2 : Hid (Row w2 B 5 (bcells cs) ∧ w2.heap.size = B + 1 ∧ Below B w w2) := ⟨by rw [splice_all _ _ (by simp [bcells_length, HN.out])] at r2; exact r2, by rw [s2]; exact R1.out.2.1, R1.out.2.2.trans (o2.below (Nat.le_refl _) (by have := R1.out.2.1; omega))⟩; clear r2 o2 s2))
  go_ret
  exact ⟨by rw [HB.out]; rfl, by rw [← HB.out]; exact R2.out⟩
end Go.Proofs.YtfnncccioipjcaaDoor

/- Bytes: cutting, appending, making, copying. Layer 8: what a sector holds. -/
import Derived.Test.YtebalanfagglnaaDoorV19
import Derived.Laws.CopyOwn
namespace Go.Proofs.YtebalanfagglnaaDoor
open Go.RowKit Go.Maps

/-- bytes that the call has made -/
def BOwn (w : World) (base : Nat) (v : Value) (cs : List Nat) : Prop := w.ownsRow base 5 1 v cs.length (bcells cs)
theorem info5z : (Tryd.prog.info? 5).map (fun i => (i.zero, i.size, i.bytes)) = some (some (.int .u8 0), 1, 1) := by kernel_rfl
theorem lt256 (cs : List Nat) (h : ∀ c ∈ cs, c < 256) (j : Nat) : cs.getD j 0 < 256 := by
  by_cases hj : j < cs.length
  · simpa [hj] using h _ (List.getElem_mem hj)
  · simp [hj]
theorem elem51 : Tryd.prog.elem 50 = 5 := by kernel_rfl
theorem below_alloc (w : World) (o : Obj) : Below w.heap.size w (w.alloc o) := (Below.refl _ _).alloc (Nat.le_refl _) _
theorem BOwn.slice {w : World} {base : Nat} {v : Value} {cs : List Nat} (h : BOwn w base v cs) (hb : ∀ c ∈ cs, c < 256) (hl : cs.length ≤ 9223372036854775807) : SliceIn w v cs := by
  rcases h.2 with ⟨rfl, h0⟩ | ⟨g, cap, cur, rfl, _, hg, hcap, hmax, hsz, htake⟩
  · obtain rfl : cs = [] := List.length_eq_zero_iff.1 h0
    exact ⟨none, 0, rfl, ⟨Nat.le_refl _, by decide⟩, Or.inl rfl⟩
  · refine ⟨_, cap, rfl, ⟨hcap, hl⟩, Or.inr ⟨g, 0, rfl, fun j hj => ?_, fun j => ?_⟩⟩
    · have h2 := h.cells (g := g) rfl j (.int .u8 (cs.getD j 0 : Nat)) (by simp [bcells, hj])
      rw [add_none] at h2
      exact h2
    · by_cases hj : j < cs.length
      · rw [List.getD_eq_getElem?_getD, List.getElem?_eq_getElem hj]
        exact hb _ (List.getElem_mem hj)
      · rw [List.getD_eq_getElem?_getD, List.getElem?_eq_none (by omega)]
        decide
theorem mem_lt' {cs : List Nat} (h : ∀ j : Nat, cs.getD j 0 < 256) : ∀ c ∈ cs, c < 256 := by
  intro c hc
  obtain ⟨j, hj, rfl⟩ := List.getElem_of_mem hc
  simpa [hj] using h j
theorem sub_in {w : World} {cs : List Nat} {p : Option Addr} {cap : Nat} (hl : cs.length ≤ cap ∧ cs.length ≤ 9223372036854775807) (hin : cs = [] ∨ ∃ b off, p = some ⟨b, off, none⟩ ∧ BytesIn w b off cs)
    (l h m : Nat) (h1 : l ≤ h) (h2 : h ≤ cs.length) (h3 : h ≤ m) : SliceIn w (sliced p l h m 1) ((cs.take h).drop l) := by
  have hlen : ((cs.take h).drop l).length = h - l := by simp; omega
  unfold sliced
  by_cases hz : h = l
  · have e : (cs.take h).drop l = [] := List.length_eq_zero_iff.1 (by omega)
    rw [e]
    refine ⟨if m = l then p else p.map (·.add (l * 1)), m - l, ?_, ⟨by simp, by simp⟩, Or.inl rfl⟩
    rw [show h - l = ([] : List Nat).length by simp; omega]
  · rcases hin with rfl | ⟨b, off, rfl, hc, hb⟩
    · simp at h2
      omega
    · refine ⟨_, m - l, by rw [hlen], ⟨by omega, by omega⟩, Or.inr ⟨b, off + l, ?_, fun j hj => ?_, fun j => ?_⟩⟩
      · rw [if_neg (by omega), Option.map_some, Nat.mul_one, add_none]
      · rw [hlen] at hj
        have e : ((cs.take h).drop l).getD j 0 = cs.getD (l + j) 0 := by simp [show l + j < h by omega]
        rw [e, Nat.add_assoc]
        exact hc (l + j) (by omega)
      · refine lt256 _ (fun c hc' => ?_) j
        exact mem_lt' hb c (List.mem_of_mem_take (List.mem_of_mem_drop hc'))
/-- which cut it is -/
def SubOf (lo hi mx : Option Value) (n l h : Nat) : Prop :=
  ((lo = none ∧ l = 0) ∨ ∃ L : Int, lo = some (.int .i64 L) ∧ L = (l : Int)) ∧ ((hi = none ∧ mx = none ∧ h = n) ∨ ∃ H : Int, hi = some (.int .i64 H) ∧ H = (h : Int) ∧ (mx = none ∨ mx = some (.int .i64 H))) ∧ l ≤ h ∧ h ≤ n
theorem run_bsub {w : World} {v : Value} {cs : List Nat} (hin : SliceIn w v cs) {lo hi mx : Option Value} {l h : Nat} (hs : SubOf lo hi mx cs.length l h) :
    ∃ v', (∀ w', (Instr.slice 50 v lo hi mx).run Tryd.prog w' = .ok v' w') ∧ SliceIn w v' ((cs.take h).drop l) := by
  obtain ⟨p, cap, rfl, hl, hin⟩ := hin
  obtain ⟨hlo, hhi, h1, h2⟩ := hs
  obtain ⟨i, hi5, hsz⟩ := Option.map_eq_some_iff.1 info5
  have hsize : ∀ w' : World, (sizeOf 5).run Tryd.prog w' = .ok 1 w' := fun w' => by simp [sizeOf, typeInfo, hi5, hsz]
  have key : ∀ m : Nat, h ≤ m → ((∀ w', (Instr.slice 50 (.slice p cs.length cap) lo hi mx).run Tryd.prog w' = .ok (sliced p l h m 1) w') → ∃ v', (∀ w', (Instr.slice 50 (.slice p cs.length cap) lo hi mx).run Tryd.prog w' = .ok v' w') ∧ SliceIn w v' ((cs.take h).drop l)) :=
    fun m hm hr => ⟨_, hr, sub_in hl hin l h m h1 h2 hm⟩
  have hu' := sl51
  rcases hlo with ⟨rfl, rfl⟩ | ⟨L, rfl, rfl⟩
  · rcases hhi with ⟨rfl, rfl, rfl⟩ | ⟨H, rfl, rfl, rfl | rfl⟩
    · exact key cap hl.1 fun w' => by rw [run_slice_all _ _ _ _ _ hu', elem51, hsize]; rfl
    · exact key cap (by omega) fun w' => by rw [run_slice_h _ _ _ _ _ hu' _ _ (by omega) (by omega), elem51, hsize]; rfl
    · exact key h (Nat.le_refl _) fun w' => by rw [run_slice_hm _ _ _ _ _ hu' _ _ _ _ (by omega) (by omega) (by omega), elem51, hsize]; rfl
  · rcases hhi with ⟨rfl, rfl, rfl⟩ | ⟨H, rfl, rfl, rfl | rfl⟩
    · exact key cap hl.1 fun w' => by rw [run_slice_l _ _ _ _ _ hu' _ _ (by omega) (by omega), elem51, hsize]; rfl
    · exact key cap (by omega) fun w' => by rw [run_slice_lh _ _ _ _ _ hu' _ _ _ _ (by omega) (by omega) (by omega), elem51, hsize]; rfl
    · exact key h (Nat.le_refl _) fun w' => by rw [run_slice_lhm _ _ _ _ _ hu' _ _ _ _ _ _ (by omega) (by omega) (by omega) (by omega), elem51, hsize]; rfl
theorem run_bstring {w : World} {v : Value} {cs : List Nat} (hin : SliceIn w v cs) : (convert 50 9 v).run Tryd.prog w = .ok (.string (strOfNums (cs.map Int.ofNat))) w := by
  obtain ⟨p, cap, rfl, hl, hin⟩ := hin
  rcases hin with rfl | ⟨b, off, rfl, hc, _⟩
  · cases p with
    | none => exact run_convert_bytes_nil w 50 5 Tryd.underlying50 Tryd.underlying5 _ _ 9 Tryd.underlying9
    | some ad =>
      rw [run_convert_bytes_string w 50 9 5 (some ad) _ cap Tryd.underlying50 Tryd.underlying5 Tryd.underlying9]
      simp [Conv.bytesToString, strOfNums, loadCells]
      rfl
  · refine run_convert_bytes_arg w 50 5 Tryd.underlying50 Tryd.underlying5 b off cs.length cap (cs.map Int.ofNat) (by simp) (fun i hi => ?_) 9 Tryd.underlying9
    rw [hc i hi]
    simp [hi]
/-- append of bytes to bytes of the call's own: nothing but its own block is turned -/
theorem run_bappend {w : World} (base : Nat) (ty : TypeId) (v vx : Value) (cs ys : List Nat) (hown : BOwn w base v cs) (hin : SliceIn w vx ys) (hsz : cs.length + ys.length ≤ 140737488355328) (hbase : base ≤ w.heap.size) :
    ∃ v' w', (Builtin.append_ #[50, 50] ty #[v, vx]).run Tryd.prog w = .ok v' w' ∧ BOwn w' base v' (cs ++ ys) ∧ w.grownBy w' v.ownBlock := by
  obtain ⟨i, hi, hz0, hz1, hz2⟩ := info_parts info5z
  obtain ⟨p, cap, rfl, hl, hin⟩ := hin
  have hgo : ∀ ad : Addr, (∀ j u, (bcells ys)[j]? = some u → w.cell? (ad.add j) = some u) → p = some ad → ∃ v' w', (Builtin.append_ #[50, 50] ty #[v, .slice p ys.length cap]).run Tryd.prog w = .ok v' w' ∧ BOwn w' base v' (cs ++ ys) ∧ w.grownBy w' v.ownBlock := by
    rintro ad hnews rfl
    obtain ⟨v', w', hr, ho', hg, _⟩ := run_append_own (P := Tryd.prog) (w := w) base 50 ty 5 i (.int .u8 0) 1 1 Tryd.underlying50 hi hz0 hz1 hz2 rfl (by decide) v cs.length (bcells cs) hown
      ad ys.length cap (bcells ys) (by simp [bcells_length]) hnews (bcells_one ys) (by unfold maxLen; omega) (by omega) hbase
    refine ⟨v', w', hr, ?_, hg⟩
    unfold BOwn
    rw [bcells_append, List.length_append]
    exact ho'
  rcases hin with rfl | ⟨b, off, rfl, hc, _⟩
  · cases p with
    | none =>
      refine ⟨v, w, ?_, ?_, World.grownBy.refl w _⟩
      · rcases hown.2 with ⟨rfl, h0⟩ | ⟨g, cap', cur, rfl, _, hg, hcap, hmax, hsz, htake⟩
        · simp [Builtin.append_, run_underlying Tryd.underlying50, sizeOf, typeInfo, hi, Builtin.lenOf, Builtin.firstCells]
        · simp [Builtin.append_, run_underlying Tryd.underlying50, sizeOf, typeInfo, hi, Builtin.lenOf, Builtin.firstCells, hcap, storeCells]
      · rw [List.append_nil]
        exact hown
    | some ad => exact hgo ad (by intro j u hu; simp [bcells] at hu) rfl
  · refine hgo ⟨b, off, none⟩ (fun j u hu => ?_) rfl
    have hj : j < ys.length := by
      have := (List.getElem?_eq_some_iff.1 hu).1
      rwa [bcells_length] at this
    rw [add_none, hc j hj, ← hu, bcells_at ys j hj]
theorem BOwn.belowG {w w' : World} {base : Nat} {v : Value} {cs : List Nat} (h : BOwn w base v cs) (hg : w.grownBy w' v.ownBlock) (hb : base ≤ w.heap.size) : Below base w w' :=
  (Below.refl base w).grown hg hb fun k hk => (h.lt k hk).1

/-- a slice that is a whole block -/
def whole (g n : Nat) : Value := .slice (some ⟨g, 0, none⟩) n n
theorem whole_slice {w : World} {g : Nat} {cs : List Nat} (h : Row w g 5 (bcells cs)) (hb : ∀ c ∈ cs, c < 256) (hl : cs.length ≤ 9223372036854775807) : SliceIn w (whole g cs.length) cs :=
  ⟨_, _, rfl, ⟨Nat.le_refl _, hl⟩, Or.inr ⟨g, 0, rfl, fun j hj => by rw [Nat.zero_add]; exact h.at j _ (bcells_at cs j hj), lt256 cs hb⟩⟩
theorem whole_own {w : World} {g base : Nat} {cs : List Nat} (h : Row w g 5 (bcells cs)) (hb : base ≤ g) (hl : cs.length ≤ 1000) : BOwn w base (whole g cs.length) cs :=
  ⟨by rw [bcells_length, Nat.mul_one], Or.inr ⟨g, cs.length, (bcells cs).toArray, rfl, hb, h, Nat.le_refl _, by unfold maxLen; omega, by simp [bcells_length], by rw [List.take_of_length_le (by simp [bcells_length])]⟩⟩
section
variable {w w0 : World} {ops : Array Oper} {rest : List Oper} {o : Oper} {a : Act} {Q : Exit → Act → World → Prop}
theorem wl_bsub (x : Operand) (lo hi mx : Option Operand) (hgd : Region.wanted o (yielded ops a.tmps) = true) (ho : o.op = .slice 50 x lo hi mx) (v : Value) (cs : List Nat) (hx : a.eval x = v) (hin : SliceIn w v cs) (l h' : Nat)
    (hs : SubOf (lo.map a.eval) (hi.map a.eval) (mx.map a.eval) cs.length l h')
    (h : ∀ v', SliceIn w v' ((cs.take h').drop l) → wpList Tryd.prog ops Q rest (a.put o.dst v') w) : wpList Tryd.prog ops Q (o :: rest) a w := by
  obtain ⟨v', hr, hv'⟩ := run_bsub hin hs
  refine wl hgd v' w ?_ (h v' hv')
  simp [execOp, ho, hx, run_sliceAt_slice _ _ _ _ _ _ sl51, hr]
theorem wl_bgrow (sv x : Operand) (hgd : Region.wanted o (yielded ops a.tmps) = true) (ho : o.op = .call { callee := .builtin .append, args := #[sv, x], argTypes := #[50, 50] })
    (base : Nat) (v vx : Value) (cs ys : List Nat) (hs : a.eval sv = v) (hown : BOwn w base v cs) (hx : a.eval x = vx) (hin : SliceIn w vx ys) (hsz : cs.length + ys.length ≤ 140737488355328) (hbase : base ≤ w.heap.size)
    (h : ∀ v' w', BOwn w' base v' (cs ++ ys) → w.grownBy w' v.ownBlock → wpList Tryd.prog ops Q rest (a.put o.dst v') w') : wpList Tryd.prog ops Q (o :: rest) a w := by
  obtain ⟨v', w', hr, ho', hg⟩ := run_bappend base o.type v vx cs ys hown hin hsz hbase
  refine wl hgd v' w' ?_ (h v' w' ho' hg)
  simp only [execOp, ho, resolve, invoke, builtin, Sem.run_bind, Sem.run_pure, Result.andThen_ok, List.map_toArray, List.map_cons, List.map_nil, hs, hx, hr]
theorem wl_make (l c : Operand) (t e : TypeId) (z : Value) (sz bts : Nat) (hgd : Region.wanted o (yielded ops a.tmps) = true) (ho : o.op = .makeSlice t l c) (hu : Tryd.prog.underlying t = some (.slice e)) (hinfo : (Tryd.prog.info? e).map (fun i => (i.zero, i.size, i.bytes)) = some (some z, sz, bts))
    (n : Nat) (hl : a.eval l = .int .i64 (n : Nat)) (hc : a.eval c = .int .i64 (n : Nat)) (hb : bts * n ≤ 281474976710656) (hn : n ≤ 9223372036854775807)
    (h : ∀ w', Row w' w.heap.size e (madeCells z.cells (n * sz)).toList → w'.heap.size = w.heap.size + 1 → Below w.heap.size w w' → wpList Tryd.prog ops Q rest (a.put o.dst (whole w.heap.size n)) w') : wpList Tryd.prog ops Q (o :: rest) a w := by
  obtain ⟨i, hi, hz0, hz1, hz2⟩ := info_parts hinfo
  have hr := run_make (P := Tryd.prog) (w := w) t e i z hu hi hz0 .i64 .i64 (n : Nat) (n : Nat) (by omega) (Int.le_refl _) (by rw [hz2]; omega) (by omega)
  rw [Int.toNat_natCast, hz1] at hr
  exact wl hgd _ _ (by simp only [execOp, ho, hl, hc, hr, Sem.run_bind, Sem.run_pure, Result.andThen_ok]; rfl) (h _ (Row.new' w e _) (by show (w.heap.push _).size = _; simp) (below_alloc w _))
theorem wl_copy (d s : Operand) (hgd : o.guard = none) (ho : o.op = .call { callee := .builtin .copy, args := #[d, s], argTypes := #[50, 50] })
    (g off dLen dCap b so sLen sCap T k : Nat) (hd : a.eval d = .slice (some ⟨g, off, none⟩) dLen dCap) (hs : a.eval s = .slice (some ⟨b, so, none⟩) sLen sCap)
    (cur : List Value) (hr : Row w g T cur) (c : List Nat) (hk : c.length = k) (hn : k = Nat.min sLen dLen) (hsrc : ∀ j, j < c.length → w.cell? ⟨b, so + j, none⟩ = some (.int .u8 (c.getD j 0 : Nat))) (hfit : off + k ≤ cur.length)
    (h : ∀ w', Row w' g T (splice cur off (bcells c)) → Ch (· = g) w w' → w'.heap.size = w.heap.size → wpList Tryd.prog ops Q rest (a.put o.dst (.int .i64 (k : Nat))) w') : wpList Tryd.prog ops Q (o :: rest) a w := by
  have hbl : (bcells c).length = k := by rw [bcells_length]; exact hk
  refine wpList_copy_own hgd d s 50 50 ho 5 Tryd.underlying50 info5 g off dLen dCap ⟨b, so, none⟩ sLen sCap hd hs cur.toArray T hr (bcells c) (by rw [hbl]; exact hn) ?_ (by rw [hbl]; simpa using hfit) (bcells_one c) ?_
  · intro j v hv
    have hj : j < c.length := by
      have := (List.getElem?_eq_some_iff.1 hv).1
      rwa [bcells_length] at this
    rw [add_none, hsrc j hj, ← hv]
    simp [bcells, hj]
  · have hh := h (w.setRow g (splice cur off (bcells c)).toArray) (hr.setRow _) ((Ch.refl (· = g) w).setRow (Or.inl rfl) _) (by simp [World.setRow])
    rw [← hbl] at hh
    exact hh
end
theorem made5 (n : Nat) : (madeCells (Value.int IntKind.u8 0).cells (n * 1)).toList = bcells (List.replicate n 0) := by
  apply List.ext_getElem
  · rw [bcells_length]
    simp [madeCells, Value.cells]
  · intro j h1 h2
    simp [bcells, madeCells, Value.cells, Nat.mod_one]
theorem made51 (n : Nat) : (madeCells (Value.slice none 0 0).cells (n * 1)).toList = List.replicate n (.slice none 0 0) := by
  apply List.ext_getElem
  · simp [madeCells, Value.cells]
  · intro j h1 h2
    simp [madeCells, Value.cells, Nat.mod_one]
end Go.Proofs.YtebalanfagglnaaDoor

namespace Go.Proofs.YtebalanfagglnaaDoor
open Go.RowKit Go.Maps

theorem BOwn.mono {w : World} {base base' : Nat} {v : Value} {cs : List Nat} (h : BOwn w base v cs) (hb : base' ≤ base) : BOwn w base' v cs := by
  obtain ⟨h1, h2⟩ := h
  refine ⟨h1, ?_⟩
  rcases h2 with h2 | ⟨g, cap, cur, e, h0, hg⟩
  · exact Or.inl h2
  · exact Or.inr ⟨g, cap, cur, e, Nat.le_trans hb h0, hg⟩
def pad (n : Nat) (cs : List Nat) : List Nat := cs ++ List.replicate (n - cs.length) 0
theorem pad_length (n : Nat) (cs : List Nat) (h : cs.length ≤ n) : (pad n cs).length = n := by simp [pad]; omega
theorem pad_lt (n : Nat) (cs : List Nat) (h : ∀ c ∈ cs, c < 256) : ∀ c ∈ pad n cs, c < 256 := fun c hc => by
  rcases List.mem_append.1 hc with hc | hc
  · exact h c hc
  · rw [List.eq_of_mem_replicate hc]; decide
/-- a frame that fills a sector -/
def wsec (kind : Nat) (cs : List Nat) : List Nat := Fr.Frame.pack kind (pad 55 cs)
theorem wsec_length (kind : Nat) (cs : List Nat) (h : cs.length ≤ 55) : (wsec kind cs).length = 64 := by unfold wsec; rw [Fr.Frame.pack_length, pad_length 55 cs h]
theorem wsec_lt (kind : Nat) (cs : List Nat) (hk : kind < 256) (h : ∀ c ∈ cs, c < 256) : ∀ c ∈ wsec kind cs, c < 256 := Fr.Frame.pack_lt kind _ hk (pad_lt 55 cs h)
def headSec (s f : Nat) : List Nat := wsec 74 (Fr.Frame.be 8 s ++ Fr.Frame.be 8 f)
def partSec (s i n : Nat) (piece : List Nat) : List Nat := wsec 84 (Fr.Frame.be 8 s ++ Fr.Frame.be 1 i ++ Fr.Frame.be 2 n ++ piece)
/-- what a frame of this kind that fills a sector holds -/
def payB (kind : Nat) (b : List Nat) : Bool := Fr.Frame.okB b && (decide (Fr.Frame.kindOf b = kind) && decide ((Fr.Frame.payOf b).length = 55))
theorem splice_pad (n : Nat) (cs : List Nat) : splice (bcells (List.replicate n 0)) 0 (bcells cs) = bcells (pad n cs) := by
  have e : splice (bcells (List.replicate n 0)) 0 (bcells cs) = bcells cs ++ (bcells (List.replicate n 0)).drop cs.length := by
    unfold splice
    simp [bcells_length]
  rw [e]
  simp [bcells, pad]
theorem TabIn.ch {S : Nat → Prop} {w w' : World} (h : Fr.TabIn w) (hc : Ch S w w') (h0 : ¬ S 0) : Fr.TabIn w' := fun r => hc.cell h0 (h r)
theorem TabIn.later {w w' : World} (h : Fr.TabIn w) (hb : Below w.heap.size w w') : Fr.TabIn w' := TabIn.ch (S := fun _ => False) h (Ch.of_below hb) id
set_option maxHeartbeats 1000000 in
set_option maxRecDepth 100000 in
theorem sector_any (w : World) (kind : Nat) (hk : kind < 256) (v : Value) (cs : List Nat) (h : SliceIn w v cs) (hne : cs ≠ []) (hl : cs.length ≤ 55) (ht : Fr.TabIn w) :
    Calls Tryd.prog 48 #[.int .u8 (kind : Nat), v] w fun e w' => ∃ v', e = .returned v' ∧ BOwn w' w.heap.size v' (wsec kind cs) ∧ Below w.heap.size w w' := by
  obtain ⟨p, cap, rfl, hlc, hin⟩ := h
  rcases hin with hin | ⟨b, off, rfl, hb⟩
  · exact absurd hin hne
  have hblt := hb.lt hne
  have HBI : Hid (BytesIn w b off cs) := hb
  have HT : Hid (Fr.TabIn w) := ht
  obtain ⟨q, hq⟩ : ∃ q, q = w.heap.size := ⟨_, rfl⟩
  have HQ : Hid (q = w.heap.size) := hq
  rw [← hq] at hblt ⊢
  obtain ⟨n, hn⟩ : ∃ n, n = cs.length := ⟨_, rfl⟩
  have HN : Hid (n = cs.length) := hn
  rw [← hn] at hl hlc ⊢
  clear hb ht hq hn hne
  go_enter Tryd.func48, Tryd.ntmps48
  go_upto_region 1 with fail
  refine wp_region_lit ?_
  refine wl_make (.const (.int .i64 55)) (.const (.int .i64 55)) 50 5 _ 1 1 rfl rfl Tryd.underlying50 info5z 55 rfl rfl (by decide) (by decide) ?_
  intro w1 r1 s1 b1
  rw [made5, ← HQ.out] at r1
  rw [← HQ.out] at s1 b1 ⊢
  simp only [Act.put, aS, aC, aZ]
  refine wl_as (.tmp 6) rfl rfl (whole q 55) rfl ?_
  simp only [Act.put, aS, aC, aZ]
  refine wpList_nil ?_
  have R1 : Hid (Row w1 q 5 (bcells (List.replicate 55 0)) ∧ w1.heap.size = q + 1 ∧ Below q w w1) := ⟨r1, s1, b1⟩
  clear r1 s1 b1
  go_upto_region 2 with fail
  refine wp_region_lit ?_
  refine wl_mv (.tmp 5) rfl rfl (whole q 55) rfl ?_
  simp only [Act.put, aS, aC, aZ]
  refine wl_mv (.tmp 1) rfl rfl _ rfl ?_
  simp only [Act.put, aS, aC, aZ]
  refine wl_copy (.tmp 7) (.tmp 8) rfl rfl q 0 55 55 b off n cap 5 n rfl rfl _ R1.out.1 cs HN.out.symm (Nat.min_eq_left hl).symm (fun j hj => ?_) (by rw [bcells_length, List.length_replicate]; omega) ?_
  · rw [R1.out.2.2.cell (by show b < _; exact hblt)]
    exact HBI.out.1 j hj
  intro w2 r2 c2 s2
  rw [splice_pad 55 cs] at r2
  simp only [Act.put, aS, aC, aZ]
  refine wpList_nil ?_
  have R2 : Hid (Row w2 q 5 (bcells (pad 55 cs)) ∧ w2.heap.size = q + 1 ∧ Below q w w2) := ⟨r2, by rw [s2]; exact R1.out.2.1, R1.out.2.2.trans (c2.below (by have := R1.out.2.1; omega) fun i hi e => by omega)⟩
  have HS : Hid (SliceIn w2 (whole q 55) (pad 55 cs)) := by
    have hlen := pad_length 55 cs (by rw [← HN.out]; exact hl)
    have h1 := whole_slice (g := q) R2.out.1 (pad_lt 55 cs (mem_lt' HBI.out.2)) (by omega)
    rw [hlen] at h1
    exact h1
  have HT2 : Hid (Fr.TabIn w2) := TabIn.later HT.out (by rw [← HQ.out]; exact R2.out.2.2)
  have HL : Hid ((pad 55 cs).length = 55) := pad_length 55 cs (by rw [← HN.out]; exact hl)
  clear r2 c2 s2
  go_wp2_with (go_at_call 67; refine (Fr.pack_any kind hk (whole q 55) (pad 55 cs) w2 HS.out HT2.out (by rw [HL.out]; decide)).mono ?_; rintro e w3 ⟨v3, rfl, o3, b3⟩; have R3 : Hid (BOwn w3 w2.heap.size v3 (wsec kind cs) ∧ Below w2.heap.size w2 w3) := ⟨o3, b3⟩; clear o3 b3)
  go_ret
  refine ⟨_, rfl, ?_, R2.out.2.2.trans (R3.out.2.mono (by have := R2.out.2.1; omega))⟩
  exact R3.out.1.mono (by have := R2.out.2.1; omega)
end Go.Proofs.YtebalanfagglnaaDoor

/- Layer 15: places and threes of numbers that were handed in. Layer 15: a volume whatever its tape has, the power on. Layer 15: what the law of rot wants of single operations. Layer 15: what a volume answers, whatever its tape has, the power on. -/
import Derived.Test.YtpkkkkomdblpoaaDoorQ34
import Derived.Lib.SlBytesConst




namespace Go.Proofs.YtpkkkkomdblpoaaDoor
open Go.RowKit Go.Maps
open Cold

def I64 (z : Int) : Prop := -9223372036854775808 ≤ z ∧ z ≤ 9223372036854775807
/-- a place, as it is handed in -/
structure Pq where
 dv : Int
 at_ : Int
 ln : Int
 bd : Bool
instance : Inhabited Pq := ⟨⟨0, 0, 0, false⟩⟩
def Pq.cells (x : Pq) : List Value := plC x.dv x.at_ x.ln x.bd
def Pq.ok (x : Pq) : Prop := I64 x.dv ∧ I64 x.at_ ∧ I64 x.ln
/-- places in a slice -/
def PlsIn (W : World) (v : Value) (us : List Pq) : Prop :=
 ∃ p cap, v = .slice p us.length cap ∧ us.length ≤ cap ∧ us.length ≤ 140737488355328 ∧ (us = [] ∨ ∃ b off, p = some ⟨b, off, none⟩ ∧ ∀ i, i < us.length → ∀ j, j < 4 → W.cell? ⟨b, off + (i * 4 + j), none⟩ = (us.getD i default).cells[j]?) ∧ ∀ x ∈ us, x.ok
theorem PlsIn.later {W W' : World} {v : Value} {us : List Pq} (h : PlsIn W v us) (hb : Below W.heap.size W W') : PlsIn W' v us := by
 obtain ⟨p, cap, rfl, h1, h2, h3, h4⟩ := h
 refine ⟨p, cap, rfl, h1, h2, ?_, h4⟩
 rcases h3 with h3 | ⟨b, off, rfl, h3⟩
 ·exact Or.inl h3
 ·refine Or.inr ⟨b, off, rfl, fun i hi j hj => ?_⟩
  have e := h3 i hi j hj
  obtain ⟨u, hu⟩ : ∃ u, (us.getD i default).cells[j]? = some u := by
   unfold Pq.cells plC
   rcases j with _ | _ | _ | _ | j
   ·exact ⟨_, rfl⟩
   ·exact ⟨_, rfl⟩
   ·exact ⟨_, rfl⟩
   ·exact ⟨_, rfl⟩
   ·omega
  rw [hu] at e ⊢
  exact cell_later hb e
theorem plsNil (W : World) : PlsIn W (.slice none 0 0) [] := ⟨none, 0, rfl, Nat.le_refl _, by decide, Or.inl rfl, fun x hx => by cases hx⟩
/-- three numbers -/
structure Tr where
 x : Int
 y : Int
 z : Int
instance : Inhabited Tr := ⟨⟨0, 0, 0⟩⟩
def Tr.cells (t : Tr) : List Value := [.int .i64 t.x, .int .i64 t.y, .int .i64 t.z]
def Tr.ok (t : Tr) : Prop := I64 t.x ∧ I64 t.y ∧ I64 t.z
def TrsIn (W : World) (v : Value) (us : List Tr) : Prop :=
 ∃ p cap, v = .slice p us.length cap ∧ us.length ≤ cap ∧ us.length ≤ 140737488355328 ∧ (us = [] ∨ ∃ b off, p = some ⟨b, off, none⟩ ∧ ∀ i, i < us.length → ∀ j, j < 3 → W.cell? ⟨b, off + (i * 3 + j), none⟩ = (us.getD i default).cells[j]?) ∧ ∀ x ∈ us, x.ok
theorem und66p : Tryd.prog.underlying 66 = some (.slice 71) := by kernel_rfl
theorem sl66p : Tryd.prog.underlying 66 = some (.slice (Tryd.prog.elem 66)) := by kernel_rfl
theorem sz71p : (Tryd.prog.info? 71).map (·.size) = some 3 := by kernel_rfl
theorem ix_tr {w : World} {v : Value} {us : List Tr} (hin : TrsIn w v us) (k : Nat) (hk : k < us.length) : ∃ b j, (∀ w', (Instr.indexAt 66 v (.int .i64 (k : Nat))).run Tryd.prog w' = .ok (.pointer (some ⟨b, j, none⟩)) w') ∧ (us.getD k default).ok ∧ ∀ W, Below w.heap.size w W → ∀ (i : Nat) u, (us.getD k default).cells[i]? = some u → W.cell? ⟨b, j + i, none⟩ = some u := by
 obtain ⟨i3, hi3, hsz⟩ := Option.map_eq_some_iff.1 sz71p
 obtain ⟨p, cap, rfl, hl, _, h, hop⟩ := hin
 rcases h with rfl | ⟨b, off, rfl, hc⟩
 ·simp at hk
 ·have hm : us.getD k default ∈ us := by rw [List.getD_eq_getElem?_getD, List.getElem?_eq_getElem hk]; exact List.getElem_mem hk
  refine ⟨b, off + k * 3, fun w' => by simp [Instr.indexAt, asIntOf, run_underlying und66p, hk, sizeOf, typeInfo, hi3, hsz, add_none], hop _ hm, fun W hW i u hu => ?_⟩
  have hi : i < 3 := by
   have := (List.getElem?_eq_some_iff.1 hu).1
   simpa [Tr.cells] using this
  have h9 := hc k hk i hi
  rw [hu] at h9
  rw [Nat.add_assoc]
  exact cell_later hW h9
theorem run_lenTr {w w0 : World} {a : Act} {o : Oper} {v : Value} {us : List Tr} (h : TrsIn w0 v us) (x : Operand) (ho : o.op = .call { callee := .builtin .len, args := #[x], argTypes := #[66] }) (hx : a.eval x = v) : (execOp a.eval o).run Tryd.prog w = .ok (.value (.int .i64 (us.length : Nat))) w := by
 obtain ⟨p, cap, rfl, _⟩ := h
 exact run_lenZ sl66p x ho p _ _ hx
end Go.Proofs.YtpkkkkomdblpoaaDoor

namespace Go.Proofs.YtpkkkkomdblpoaaDoor
open Go.RowKit Go.Maps
open Cold

/-- the power on, no fuse: that is all -/
structure Rk (w W : World) (c : Nat → Colour) (gp gv : Nat) (sz : Int) (m : Pl) (rt : List Nat) (sl : Bool) (K : Nat) : Prop where
 v : VolW W c 2 gp gv 0 sz m rt sl
 tv : Tv m 0
 fu : m.fuse < 0
 f : Fr0 w W c 2 gv
 k : m.steps ≤ K
 s : ShapeOf m [] [60]
/-- what a call on the plant leaves -/
structure Go2 (m m' : Pl) : Prop where
 tv : Tv m' 0
 fu : m'.fuse < 0
 sh : m'.sh = m.sh
 few : m'.steps ≤ m.steps + 1
theorem append_go {m : Pl} (h : Tv m 0) (hf : m.fuse < 0) {b : List Nat} (hb : b.length = 64 ∧ ∀ c ∈ b, c < 256) : Go2 m (m.append (0 : Nat) b).2.2 := by
 have hw := Pl.append_wf h.wf ((0 : Nat) : Int) b hb.2
 have hs := append_steps m ((0 : Nat) : Int) b
 by_cases hr : (ctn m 0).length < m.size 0
 ·have e := h.append b hb.1 hr
  rw [if_neg (by omega)] at e
  rw [e] at hw hs ⊢
  have h1 := h.step (by omega : m.fuse ≠ 0)
  exact ⟨⟨hw, h1.on, h1.lt, h1.tape⟩, m.step_neg hf, hs.2, hs.1⟩
 ·have hl := ctn_len (m := m) h.tape
  have hlt := h.lt
  have e : m.append ((0 : Nat) : Int) b = (0, 3, m) := by
   unfold Pl.append
   rw [if_neg (by rw [h.on]; decide), if_neg (by
    rw [Int.toNat_natCast]
    exact fun hn => hn ⟨⟨by omega, by omega⟩, h.tape⟩), if_neg (fun hn => hn hb.1), Int.toNat_natCast, if_pos (by rw [hl]; omega)]
  rw [e]
  exact ⟨h, hf, rfl, Nat.le_succ _⟩
theorem flush_go {m : Pl} (h : Tv m 0) (hf : m.fuse < 0) : (m.flush (0 : Nat)).1 = 0 ∧ Go2 m (m.flush (0 : Nat)).2 := by
 obtain ⟨_, h2, h3, h4⟩ := flush_run h
 have h9 : (m.flush ((0 : Nat) : Int)).2.steps ≤ m.steps + 1 := by
  rw [h.flush]
  split
  ·exact m.step_le
  ·exact m.step_le
 rcases h4 with ⟨q1, q2, _, q4⟩ | ⟨_, _, _, q4⟩
 ·exact ⟨q1, ⟨h3, q2, by rw [h2.n]; exact h.lt, by rw [h2.tape]; exact h.tape⟩, q4 hf, h2.sh, h9⟩
 ·exact absurd hf q4
theorem rot_steps (m : Pl) (d p a y : Int) : (m.rot d p a y).2.steps = m.steps := by
 unfold Pl.rot
 split <;> rfl
theorem rot_go {m : Pl} (h : Tv m 0) (hf : m.fuse < 0) (d p a y : Int) : Go2 m (m.rot d p a y).2 := by
 have hw := Pl.rot_wf h.wf d p a y
 have e : (m.rot d p a y).2.on = m.on ∧ (m.rot d p a y).2.sh = m.sh ∧ (m.rot d p a y).2.fuse = m.fuse ∧ (m.rot d p a y).2.steps = m.steps := by
  unfold Pl.rot
  split
  ·exact ⟨rfl, rfl, rfl, rfl⟩
  ·exact ⟨rfl, rfl, rfl, rfl⟩
 refine ⟨⟨hw, by rw [e.1]; exact h.on, ?_, ?_⟩, by rw [e.2.2.1]; exact hf, e.2.1, by rw [e.2.2.2]; exact Nat.le_succ _⟩
 ·have := h.lt
  unfold Pl.n at this ⊢
  rw [e.2.1]
  exact this
 ·have := h.tape
  unfold Pl.tape at this ⊢
  rw [e.2.1]
  exact this
section
variable {w W W' : World} {c c' : Nat → Colour} {gp gv : Nat} {sz : Int} {m m' : Pl} {rt : List Nat} {sl : Bool} {K : Nat}
theorem Rk.bel (h : Rk w W c gp gv sz m rt sl K) (hb : Below W.heap.size W W') : Rk w W' c gp gv sz m rt sl K := ⟨h.v.below hb, h.tv, h.fu, h.f.sq (Sq.bel c hb), h.k, h.s⟩
theorem Rk.turn (h : Rk w W c gp gv sz m rt sl K) (s : SpT 2 W W' c c') (l : Live W' c' 2 gp m') (g : Go2 m m') : Rk w W' c' gp gv sz m' rt sl (K + 1) :=
 ⟨h.v.sh s l g.sh, g.tv, g.fu, h.f.sq ⟨s.cc, s.ch.mono fun b _ e => Or.inr e⟩, by have := g.few; have := h.k; omega, g.sh.trans h.s⟩
theorem Rk.next (h : Rk w W c gp gv sz m rt sl K) (n : Next W c 2 gp m' W') (g : Go2 m m') : ∃ c', SpT 2 W W' c c' ∧ Rk w W' c' gp gv sz m' rt sl (K + 1) := by
 obtain ⟨c', s, l⟩ := n.spT
 exact ⟨c', s, h.turn s l g⟩
/-- a volume's own look -/
theorem Rk.seen (h : Rk w W c gp gv sz m rt sl K) {rt2 : List Nat} {sl2 : Bool} (v : VolW W' c 2 gp gv 0 sz m rt2 sl2) (hc : Ch (· = gv) W W') : Rk w W' c gp gv sz m rt2 sl2 K := ⟨v, h.tv, h.fu, h.f.sq ⟨fun _ _ => rfl, hc.mono fun _ _ e => Or.inl e⟩, h.k, h.s⟩
/-- a row of the law's own is kept -/
theorem SpT.out {q T : Nat} {cs : List Value} (s : SpT 2 W W' c c') (h : Row W q T cs ∧ q ≠ gv ∧ (c q).1 ≠ 2) : Row W' q T cs ∧ q ≠ gv ∧ (c' q).1 ≠ 2 := ⟨(s.row h.1 h.2.2).1, h.2.1, (s.row h.1 h.2.2).2⟩
/-- a seal, where the power can't go off -/
theorem seal_go (h : Rk w W c gp gv sz m rt sl K) {er : Int} {m2 : Pl} {rt2 : List Nat} {sl2 : Bool} (s : SealP m 0 sz rt sl er m2 rt2 sl2) : er = 0 ∨ er = 3 := by
 rcases s with ⟨h1, _⟩ | ⟨h4, rt3, sl3, e2, h5, h6⟩
 ·exact Or.inr h1
 ·have he2 : e2 = 0 := by
   rcases h5 with ⟨_, _, _, e⟩ | ⟨_, ⟨_, e, _⟩ | ⟨_, e, _⟩ | ⟨_, _, e, _⟩⟩
   ·exact e
   ·exact e
   ·exact e
   ·rw [h.tv.on] at e; cases e
  rcases h6 with ⟨k1, _⟩ | ⟨_, _, k2, _⟩ | ⟨_, _, os, _, _, _, k6⟩
  ·exact absurd he2 k1
  ·exact Or.inr k2
  ·have hsz := h.v.size
   obtain ⟨k, h1, h2, _, o, wf, q⟩ := lays_run 0 (ends 0 (ctn m 0).length (rootO os)) m h.tv (ends_all 0 _ (rootO_is os).2) (by show _ + 2 ≤ _; omega)
   rcases q with ⟨_, q1, q2, q3⟩ | ⟨_, _, _, q3⟩
   ·have tv2 : Tv (m.lays ((0 : Nat) : Int) (ends 0 (ctn m 0).length (rootO os))).2 0 := ⟨wf, q2, by rw [o.n]; exact h.tv.lt, by rw [o.tape]; exact h.tv.tape⟩
    have hf := (flush_go tv2 (q3 h.fu)).1
    rcases k6 with ⟨z, _⟩ | ⟨_, _, ⟨z, _⟩ | ⟨_, z, _⟩⟩
    ·exact absurd q1 z
    ·exact absurd hf z
    ·exact Or.inl z
   ·exact absurd h.fu q3
end
end Go.Proofs.YtpkkkkomdblpoaaDoor

namespace Go.Proofs.YtpkkkkomdblpoaaDoor
open Go.RowKit Go.Maps
open Cold

/-- the ten bytes of the law's own object -/
def SBx : List Nat := [115, 111, 109, 101, 32, 98, 121, 116, 101, 115]
theorem run_lit10 {w : World} {a : Act} {o : Oper} (ho : o.op = .buildSlice 38 10 #[(0, .const (.int .u8 115)), (1, .const (.int .u8 111)), (2, .const (.int .u8 109)), (3, .const (.int .u8 101)), (4, .const (.int .u8 32)), (5, .const (.int .u8 98)), (6, .const (.int .u8 121)), (7, .const (.int .u8 116)), (8, .const (.int .u8 101)), (9, .const (.int .u8 115))]) : (execOp a.eval o).run Tryd.prog w = .ok (.value (whole w.heap.size 10)) (w.alloc (.cells (bcells SBx).toArray 5)) := by
 have hr : (Instr.buildSlice 38 10 #[(0, .int .u8 115), (1, .int .u8 111), (2, .int .u8 109), (3, .int .u8 101), (4, .int .u8 32), (5, .int .u8 98), (6, .int .u8 121), (7, .int .u8 116), (8, .int .u8 101), (9, .int .u8 115)]).run Tryd.prog w = .ok (whole w.heap.size 10) (w.alloc (.cells (bcells SBx).toArray 5)) := by kernel_rfl
 simp only [execOp, ho, List.map_toArray, List.map_cons, List.map_nil, Act.eval, hr, Sem.run_bind, Sem.run_pure, Result.andThen_ok]
theorem run_same38 {w : World} {a : Act} {o : Oper} (x : Operand) (ho : o.op = .convert 38 38 x) (hx : a.eval x = whole w.heap.size 10) : (execOp a.eval o).run Tryd.prog (w.alloc (.cells (bcells SBx).toArray 5)) = .ok (.value (whole w.heap.size 10)) (w.alloc (.cells (bcells SBx).toArray 5 (10, 11))) := by
 have hr := Lib.run_convert_bytes_const (P := Tryd.prog) w 38 5 (bcells SBx).toArray 10 10 Tryd.underlying38 Tryd.underlying5
 have hr2 : (convert 38 38 (whole w.heap.size 10)).run Tryd.prog (w.alloc (.cells (bcells SBx).toArray 5)) = .ok (whole w.heap.size 10) (w.alloc (.cells (bcells SBx).toArray 5 (10, 11))) := hr
 simp only [execOp, ho, hx, hr2, Sem.run_bind, Sem.run_pure, Result.andThen_ok]
theorem sb_in (w : World) : SliceIn (w.alloc (.cells (bcells SBx).toArray 5 (10, 11))) (whole w.heap.size 10) SBx ∧ Below w.heap.size w (w.alloc (.cells (bcells SBx).toArray 5 (10, 11))) := by
 refine ⟨⟨some ⟨w.heap.size, 0, none⟩, 10, rfl, ⟨Nat.le_refl _, by decide⟩, Or.inr ⟨w.heap.size, 0, rfl, fun j hj => ?_, lt256 SBx (by decide)⟩⟩, below_alloc w _⟩
 have hb : (w.alloc (.cells (bcells SBx).toArray 5 (10, 11))).heap[w.heap.size]? = some (.cells (bcells SBx).toArray 5 (10, 11)) := by
  show (w.heap.push _)[w.heap.size]? = _
  simp
 rw [Nat.zero_add]
 show World.cell? _ _ = _
 simp only [World.cell?, hb]
 have := bcells_at SBx j hj
 simpa using this
/-- a block of 64 out of any bytes -/
def b64 (ys : List Nat) : List Nat := ys.take (min ys.length 64) ++ (zr 64).drop (min ys.length 64)
theorem b64_is (ys : List Nat) (h : ∀ c ∈ ys, c < 256) : (b64 ys).length = 64 ∧ ∀ c ∈ b64 ys, c < 256 := by
 refine ⟨by simp [b64, zr]; omega, fun c hc => ?_⟩
 rcases List.mem_append.1 hc with hc | hc
 ·exact h c (List.mem_of_mem_take hc)
 ·exact zr_lt 64 c (List.mem_of_mem_drop hc)
theorem splice_b64 (ys : List Nat) : splice (bcells (zr 64)) 0 (bcells (ys.take (min ys.length 64))) = bcells (b64 ys) := by
 unfold splice b64
 rw [bcells_append, List.take_zero, List.nil_append, Nat.zero_add, bcells_length, List.length_take, Nat.min_eq_left (Nat.min_le_left _ _), bcells_drop]
theorem run_arrIx {w : World} {a : Act} {o : Oper} (x : Operand) (k : Nat) (hk : k < 3) (ho : o.op = .indexAddr 71 x (.const (.int .i64 (k : Nat)))) (g off : Nat) (hx : a.eval x = .pointer (some ⟨g, off, none⟩)) : (execOp a.eval o).run Tryd.prog w = .ok (.value (.pointer (some ⟨g, off + k, none⟩))) w := by
 obtain ⟨i3, hi3, hsz⟩ := Option.map_eq_some_iff.1 (show (Tryd.prog.info? 3).map (·.size) = some 1 by kernel_rfl)
 have e : (a.eval (.const (.int .i64 (k : Nat)))) = .int .i64 (k : Nat) := rfl
 have hr : (Instr.indexAt 71 (.pointer (some ⟨g, off, none⟩)) (.int .i64 (k : Nat))).run Tryd.prog w = .ok (.pointer (some ⟨g, off + k, none⟩)) w := by
  simp [Instr.indexAt, asIntOf, run_underlying Tryd.underlying71, hk, sizeOf, typeInfo, hi3, hsz, add_none, Instr.sureAddr]
 simp [execOp, ho, hx, e, hr]
/-- places in a row of one's own: none, or more of them behind -/
def PwIn (W : World) (base : Nat) (v : Value) (us : List Pq) : Prop := ∃ L, COwn 40 4 W base v L ∧ L = us.map Pq.cells ∧ ∀ x ∈ us, x.ok
theorem PwIn.later {W W' : World} {base : Nat} {v : Value} {us : List Pq} (h : PwIn W base v us) (hb : Below W.heap.size W W') : PwIn W' base v us := by
 obtain ⟨L, h1, h2, h3⟩ := h
 exact ⟨L, h1.later hb, h2, h3⟩
theorem pcells_is (x : Pq) : x.cells.length = 4 ∧ ∀ u ∈ x.cells, u.oneCell' = true := ⟨rfl, plC_one _ _ _ _⟩
theorem PwIn.app {w : World} {base : Nat} {v : Value} {us ms : List Pq} (h : PwIn w base v us) (hm : ∀ x ∈ ms, x.ok) (p : Option Addr) (cap : Nat) (hp : ms = [] ∨ ∃ g off, p = some ⟨g, off, none⟩ ∧ ∀ i, i < ms.length → ∀ j, j < 4 → w.cell? ⟨g, off + (i * 4 + j), none⟩ = (ms.getD i default).cells[j]?) (hsz : (us.length + ms.length) * 32 ≤ 140737488355328) (hbase : base ≤ w.heap.size) :
  ∃ v' w', (∀ ty, (Builtin.append_ #[56, 56] ty #[v, .slice p ms.length cap]).run Tryd.prog w = .ok v' w') ∧ PwIn w' base v' (us ++ ms) ∧ Below base w w' := by
 obtain ⟨i, hi, hz0, hz1, hz2⟩ := info_parts el56.info
 obtain ⟨L, h1, rfl, h3⟩ := h
 have hall : ∀ x ∈ us ++ ms, x.ok := fun x hx => (List.mem_append.1 hx).elim (h3 x) (hm x)
 have hgo : ∀ ad : Addr, p = some ad → (∀ j u, (ms.map Pq.cells).flatten[j]? = some u → w.cell? (ad.add j) = some u) → ∃ v' w', (∀ ty, (Builtin.append_ #[56, 56] ty #[v, .slice p ms.length cap]).run Tryd.prog w = .ok v' w') ∧ PwIn w' base v' (us ++ ms) ∧ Below base w w' := by
  rintro ad rfl hc
  have hM : CAll 4 (ms.map Pq.cells) := fun b hb => by
   obtain ⟨x, _, rfl⟩ := List.mem_map.1 hb
   exact pcells_is x
  have hone : ∀ u ∈ (ms.map Pq.cells).flatten, u.oneCell' = true := fun u hu => by
   obtain ⟨b, hb, hu⟩ := List.mem_flatten.1 hu
   exact (hM b hb).2 u hu
  have hfl := flatC hM
  rw [List.length_map] at hfl
  obtain ⟨v', w', hr, ho', hgr, _⟩ := run_append_own_at (P := Tryd.prog) w base 56 0 40 i (.agg (plC 0 0 0 false).toArray) 4 32 el56.sl hi hz0 hz1 hz2 rfl (by decide) v (us.map Pq.cells).length (us.map Pq.cells).flatten h1.2
   ad ms.length cap (ms.map Pq.cells).flatten (by rw [hfl]) hc hone (by unfold maxLen; rw [List.length_map]; omega) (by rw [List.length_map]; omega) hbase
  refine ⟨v', w', fun ty => hr, ⟨_, ⟨h1.1.append hM, ?_⟩, by rw [List.map_append], hall⟩, h1.belowG hgr hbase⟩
  have e9 : (us.map Pq.cells ++ ms.map Pq.cells).length = (us.map Pq.cells).length + ms.length := by simp
  rw [List.flatten_append, e9]
  exact ho'
 rcases hp with rfl | ⟨g, off, rfl, hc⟩
 ·cases p with
  | none =>
   refine ⟨v, w, fun ty => ?_, ⟨_, h1, by rw [List.append_nil], by simpa using h3⟩, Below.refl _ _⟩
   rcases h1.2.2 with ⟨rfl, h0⟩ | ⟨g, cap', cur, rfl, _, hg, hcap, hmax, hsz, htake⟩
   ·simp [Builtin.append_, run_underlying el56.sl, sizeOf, typeInfo, hi, Builtin.lenOf, Builtin.firstCells]
   ·rw [List.length_map] at hcap
    simp [Builtin.append_, run_underlying el56.sl, sizeOf, typeInfo, hi, Builtin.lenOf, Builtin.firstCells, hcap, storeCells]
  | some ad => exact hgo ad rfl (by intro j u hu; simp at hu)
 ·refine hgo _ rfl fun j u hu => ?_
  have hM : CAll 4 (ms.map Pq.cells) := fun b hb => by
   obtain ⟨x, _, rfl⟩ := List.mem_map.1 hb
   exact pcells_is x
  have hj := (List.getElem?_eq_some_iff.1 hu).1
  rw [flatC hM, List.length_map] at hj
  have e := flatC_at hM (j / 4) (j % 4) (by rw [List.length_map]; omega) (Nat.mod_lt _ (by decide))
  rw [Nat.div_add_mod' j 4, hu] at e
  have e2 : (ms.map Pq.cells).getD (j / 4) [] = (ms.getD (j / 4) default).cells := by
   have : j / 4 < ms.length := by omega
   simp [this]
  rw [add_none, e, e2, ← hc (j / 4) (by omega) (j % 4) (Nat.mod_lt _ (by decide)), Nat.div_add_mod' j 4]
theorem cown_src {W : World} {base : Nat} {v : Value} {L : List (List Value)} (h : COwn 40 4 W base v L) : ∃ p cap, v = .slice p L.length cap ∧ (L = [] ∨ ∃ g off, p = some ⟨g, off, none⟩ ∧ ∀ i, i < L.length → ∀ j, j < 4 → W.cell? ⟨g, off + (i * 4 + j), none⟩ = (L.getD i [])[j]?) := by
 rcases h.2.2 with ⟨rfl, h0⟩ | ⟨g, cap, cur, rfl, h3⟩
 ·exact ⟨none, 0, by rw [h0], Or.inl (List.length_eq_zero_iff.1 h0)⟩
 ·refine ⟨some ⟨g, 0, none⟩, cap, rfl, Or.inr ⟨g, 0, rfl, fun i hi j hj => ?_⟩⟩
  have hx := h.1.at i hi
  obtain ⟨u, hu⟩ : ∃ u, (L.getD i [])[j]? = some u := ⟨_, List.getElem?_eq_getElem (by rw [hx.1]; exact hj)⟩
  have e := h.2.cells (g := g) rfl (i * 4 + j) u (by rw [flatC_at h.1 i j hi hj]; exact hu)
  rw [add_none] at e
  rw [e, hu]
/-- the places of objects, as places -/
def pqO (os : List Ob) : List Pq := (List.range os.length).map fun k => ⟨(0 : Nat), (offO os k : Nat), (nb (os.getD k ([], [])).2.length : Nat), false⟩
theorem pqO_cells (os : List Ob) : plcs 0 os = (pqO os).map Pq.cells := by
 unfold plcs pqO
 rw [List.map_map]
 rfl
theorem pqO_ok {os : List Ob} (h : OkL os) (hw : wide os ≤ 4096) : ∀ x ∈ pqO os, x.ok := fun x hx => by
 obtain ⟨k, hk, rfl⟩ := List.mem_map.1 hx
 have hk := List.mem_range.1 hk
 have h1 := offO_le os k
 have h2 := nb_le (h k hk).2
 exact ⟨⟨by show (-9223372036854775808 : Int) ≤ ((0 : Nat) : Int); decide, by show ((0 : Nat) : Int) ≤ (9223372036854775807 : Int); decide⟩, ⟨by show (-9223372036854775808 : Int) ≤ (offO os k : Nat); omega, by show ((offO os k : Nat) : Int) ≤ _; omega⟩, ⟨by show (-9223372036854775808 : Int) ≤ (nb _ : Nat); omega, by show ((nb (os.getD k ([], [])).2.length : Nat) : Int) ≤ _; omega⟩⟩
theorem run_lenW {w w0 : World} {a : Act} {o : Oper} {base : Nat} {v : Value} {us : List Pq} (h : PwIn w0 base v us) (x : Operand) (ho : o.op = .call { callee := .builtin .len, args := #[x], argTypes := #[56] }) (hx : a.eval x = v) : (execOp a.eval o).run Tryd.prog w = .ok (.value (.int .i64 (us.length : Nat))) w := by
 obtain ⟨L, h1, rfl, _⟩ := h
 have := run_lenC el56 h1 x ho hx (w := w)
 rwa [List.length_map] at this
theorem PwIn.ix {W : World} {base : Nat} {v : Value} {us : List Pq} (h : PwIn W base v us) (k : Nat) (hk : k < us.length) : ∃ g, (∀ w', (Instr.indexAt 56 v (.int .i64 (k : Nat))).run Tryd.prog w' = .ok (.pointer (some ⟨g, k * 4, none⟩)) w') ∧ (us.getD k default).ok ∧ ∀ W', Below W.heap.size W W' → ∀ (i : Nat) u, (us.getD k default).cells[i]? = some u → W'.cell? ⟨g, k * 4 + i, none⟩ = some u := by
 obtain ⟨L, h1, rfl, h3⟩ := h
 obtain ⟨g, _, _, hx, hc⟩ := h1.ix el56 k (by rw [List.length_map]; exact hk)
 have e : (us.map Pq.cells).getD k [] = (us.getD k default).cells := by simp [hk]
 rw [e] at hc
 exact ⟨g, hx, h3 _ (getD_mem us k default hk), fun W' hb => hc W' (h1.later hb)⟩
end Go.Proofs.YtpkkkkomdblpoaaDoor

namespace Go.Proofs.YtpkkkkomdblpoaaDoor
open Go.RowKit Go.Maps
open Cold

section
variable {w W W' : World} {c : Nat → Colour} {gp gv : Nat} {sz : Int} {m : Pl} {rt : List Nat} {sl : Bool} {K : Nat}
theorem vlist_rk (h : Rk w W c gp gv sz m rt sl K) (hK : K ≤ 100) : Calls Tryd.prog 22 #[ptr gv] W fun e W' => Below W.heap.size W W' ∧ ∃ (us : List Pq) (p : Option Addr) (cap : Nat), e = .returned (.slice p us.length cap) ∧ (us = [] ∨ ∃ g off, p = some ⟨g, off, none⟩ ∧ ∀ i, i < us.length → ∀ j, j < 4 → W'.cell? ⟨g, off + (i * 4 + j), none⟩ = (us.getD i default).cells[j]?) ∧ (∀ x ∈ us, x.ok) ∧ us.length ≤ 4096 ∧ (us.length : Int) ≤ sz := by
 refine (vlist_any h.v (by have := h.k; omega)).mono ?_
 rintro e W' ⟨v, os, rfl, h1, h2, ⟨h3, _, _⟩ | ⟨_, h3, _⟩⟩
 ·have hw : wide os ≤ 4096 := Nat.le_trans (h3.le (Nat.zero_le _)) h.v.bound.1
  have hw2 := h3.le (Nat.zero_le _)
  have hw3 := h.v.bound.2.1
  have hl : (pqO os).length = os.length := by simp [pqO]
  rw [pqO_cells] at h1
  obtain ⟨p, cap, rfl, hs⟩ := cown_src h1
  rw [List.length_map] at hs ⊢
  refine ⟨h2, pqO os, p, cap, rfl, ?_, pqO_ok h3.okL hw, by rw [hl]; have := wide_len os; omega, by rw [hl]; have := wide_len os; omega⟩
  rcases hs with hs | ⟨g, off, hp, hs⟩
  ·exact Or.inl (List.map_eq_nil_iff.1 hs)
  ·refine Or.inr ⟨g, off, hp, fun i hi j hj => ?_⟩
   rw [hs i hi j hj]
   have e2 : ((pqO os).map Pq.cells).getD i [] = ((pqO os).getD i default).cells := by simp [hi]
   rw [e2]
 ·rw [h.tv.on] at h3
  cases h3
theorem vread_rk (h : Rk w W c gp gv sz m rt sl K) (hK : K ≤ 100) (x : Pq) (hx : x.ok) : Calls Tryd.prog 17 #[ptr gv, .agg x.cells.toArray] W fun e W' => Below W.heap.size W W' ∧ ∃ (id : List Nat) (vb : Value) (bs : List Nat) (er : Int), e = .returned (.tuple #[str id, vb, .int .i64 er]) ∧ SliceIn W' vb bs ∧ bs.length ≤ 512 ∧ (er = 0 ∨ er = 4 ∧ id = [] ∧ bs = []) := by
 refine (vread_any h.v (by have := h.k; omega) x.dv x.at_ x.ln x.bd hx.2.1 hx.2.2).mono ?_
 rintro e W' ⟨hb, id, vb, er, rfl, ⟨rfl, h1, h2, a, N, bs, _, _, h3, h4, h5, h6⟩ | ⟨_, _, _, _, h1, _⟩ | ⟨rfl, rfl, rfl, h1⟩⟩
 ·exact ⟨hb, id, vb, bs, 0, rfl, h5, h4.len, Or.inl rfl⟩
 ·rw [h.tv.on] at h1
  cases h1
 ·exact ⟨hb, [], _, [], 4, rfl, SliceIn.nilV W', by decide, Or.inr ⟨rfl, rfl, rfl⟩⟩
theorem vroot_rk (h : Rk w W c gp gv sz m rt sl K) (hK : K ≤ 100) : Calls Tryd.prog 20 #[ptr gv] W fun e W' => ∃ (v : Value) (rt2 : List Nat) (sl2 : Bool), e = .returned v ∧ Rk w W' c gp gv sz m rt2 sl2 K := by
 refine (root_any h.v (by have := h.k; omega)).mono ?_
 rintro e W' ⟨rt2, sl2, er, rfl, h1, h2, _⟩
 exact ⟨_, rt2, sl2, rfl, h.seen h1 h2⟩
theorem vseal_rk (h : Rk w W c gp gv sz m rt sl K) (hK : K ≤ 100) : Calls Tryd.prog 19 #[ptr gv] W fun e W' => ∃ er : Int, e = .returned (.int .i64 er) ∧ (er = 0 ∨ er = 3) ∧ Below w.heap.size w W' := by
 refine (seal_any h.v (by have := h.k; omega)).mono ?_
 rintro e W' ⟨c', er, m', rt', sl', rfl, h1, h2, h3, h4⟩
 exact ⟨er, rfl, seal_go h h4, (h.f.sq ⟨h1, h2⟩).bel⟩
end
end Go.Proofs.YtpkkkkomdblpoaaDoor

/- Plants in memory: blocks have colours, one for each device, so that what is one's is no other's. -/
import Derived.Test.YtgkmegcejekbcaaMaps
import Derived.Test.YtgkmegcejekbcaaMath
import Derived.Maps.AppendAt
namespace Go.Proofs.Ytgkmegcejekbcaa
open Go.RowKit Go.Maps

abbrev Colour := Nat × Nat
/-- nothing has turned but blocks of S, and what is new -/
structure Ch (S : Nat → Prop) (w w' : World) : Prop where
  os : w'.os = w.os
  tape : w'.tape = w.tape
  output : w'.output = w.output
  size : w.heap.size ≤ w'.heap.size
  block : ∀ k, k < w.heap.size → ¬ S k → w'.heap[k]? = w.heap[k]?
theorem Ch.refl (S : Nat → Prop) (w : World) : Ch S w w := ⟨rfl, rfl, rfl, Nat.le_refl _, fun _ _ _ => rfl⟩
theorem Ch.trans {S : Nat → Prop} {a b c : World} (h : Ch S a b) (k : Ch S b c) : Ch S a c :=
  ⟨k.os.trans h.os, k.tape.trans h.tape, k.output.trans h.output, Nat.le_trans h.size k.size, fun i hi hn => (k.block i (Nat.lt_of_lt_of_le hi h.size) hn).trans (h.block i hi hn)⟩
theorem Ch.trans' {S S' : Nat → Prop} {a b c : World} (h : Ch S a b) (k : Ch S' b c) (hs : ∀ i, i < a.heap.size → S' i → S i) : Ch S a c :=
  ⟨k.os.trans h.os, k.tape.trans h.tape, k.output.trans h.output, Nat.le_trans h.size k.size, fun i hi hn => (k.block i (Nat.lt_of_lt_of_le hi h.size) (fun hs' => hn (hs i hi hs'))).trans (h.block i hi hn)⟩
theorem Ch.mono {S S' : Nat → Prop} {w w' : World} (h : Ch S w w') (hs : ∀ i, i < w.heap.size → S i → S' i) : Ch S' w w' :=
  ⟨h.os, h.tape, h.output, h.size, fun i hi hn => h.block i hi (fun hs' => hn (hs i hi hs'))⟩
theorem Ch.of_below {S : Nat → Prop} {w w' : World} (h : Below w.heap.size w w') : Ch S w w' := ⟨h.os, h.tape, h.output, h.size, fun k hk _ => h.block k hk⟩
theorem Ch.below {S : Nat → Prop} {B : Nat} {w w' : World} (h : Ch S w w') (hB : B ≤ w.heap.size) (hS : ∀ i, i < B → ¬ S i) : Below B w w' :=
  ⟨h.os, h.tape, h.output, h.size, fun k hk => h.block k (by omega) (hS k hk)⟩
theorem Ch.drewN {S : Nat → Prop} {a w : World} (h : Ch S a w) (n : Nat) : Ch S a (w.drewN n) := ⟨h.os, h.tape, h.output, h.size, h.block⟩
theorem Ch.setCell {S : Nat → Prop} {a w : World} (h : Ch S a w) {g : Nat} (hg : S g ∨ a.heap.size ≤ g) (i : Nat) (v : Value) : Ch S a (w.setCell ⟨g, i, none⟩ v) :=
  ⟨h.os, h.tape, h.output, by simpa using h.size, fun k hk hn => (Below.heap_setCell w _ v k (by rintro rfl; rcases hg with hg | hg; exact hn hg; omega)).trans (h.block k hk hn)⟩
theorem Ch.setRow {S : Nat → Prop} {a w : World} (h : Ch S a w) {g : Nat} (hg : S g ∨ a.heap.size ≤ g) (xs : Array Value) : Ch S a (w.setRow g xs) :=
  ⟨h.os, h.tape, h.output, by simpa [World.setRow] using h.size, fun k hk hn => (Go.setRow_other w g k xs (by rintro rfl; rcases hg with hg | hg; exact hn hg; omega)).trans (h.block k hk hn)⟩
theorem Ch.alloc {S : Nat → Prop} {a w : World} (h : Ch S a w) (o : Obj) : Ch S a (w.alloc o) :=
  ⟨h.os, h.tape, h.output, by have := h.size; simp; omega, fun k hk hn => (Below.heap_alloc w o k (Nat.lt_of_lt_of_le hk h.size)).trans (h.block k hk hn)⟩
theorem Ch.grown {S : Nat → Prop} {a w w' : World} (h : Ch S a w) {row : Option Nat} (hg : w.grownBy w' row) (hr : ∀ k, row = some k → S k ∨ a.heap.size ≤ k) : Ch S a w' :=
  ⟨hg.os.trans h.os, hg.tape.trans h.tape, hg.output.trans h.output, Nat.le_trans h.size hg.size, fun k hk hn => (hg.block k (Nat.lt_of_lt_of_le hk h.size) (fun e => by rcases hr k e.symm with hs | hs; exact hn hs; omega)).trans (h.block k hk hn)⟩
theorem Ch.row {S : Nat → Prop} {w w' : World} (h : Ch S w w') {k : Nat} {t : TypeId} {cs : List Value} (hk : ¬ S k) (hr : Row w k t cs) : Row w' k t cs := by
  unfold Row
  rw [h.block k hr.lt hk]
  exact hr
theorem Ch.cell {S : Nat → Prop} {w w' : World} (h : Ch S w w') {b i : Nat} {v : Value} (hb : ¬ S b) (hc : w.cell? ⟨b, i, none⟩ = some v) : w'.cell? ⟨b, i, none⟩ = some v := by
  rw [← hc]
  exact World.cell?_of_block (w := w) (h.block b (block_lt_of_cell hc) hb)

/-- the cells of writes that wait -/
def wrCells (x : Wr) : List Value := .int .i64 (x.step : Nat) :: .int .i64 (x.place : Nat) :: bcells x.b
def wcells (l : List Wr) : List Value := l.flatMap wrCells

/-- what is flushed: the map at block b -/
def FlIn (w : World) (b : Nat) (tape : Bool) (fl : List (List Nat)) : Prop :=
  ∃ f n, MapAt secs w b n f ∧ (∀ p, p < fl.length → (f p).getD zeros = fl.getD p zeros) ∧ (tape = true → n = fl.length ∧ ∀ p, (f p).isSome = decide (p < fl.length))
/-- which write was the last to a place: the map at block b -/
def LtIn (w : World) (b : Nat) (wt : List Wr) : Prop := ∃ n, MapAt ints w b n fun p => (lastIdx wt p).map fun j => (j : Int)
/-- the writes that wait: the slice v, its block of colour k -/
def WtIn (w : World) (c : Nat → Colour) (k : Colour) (v : Value) (wt : List Wr) : Prop := w.ownsRow 0 87 66 v wt.length (wcells wt) ∧ ∀ b, v.ownBlock = some b → c b = k
def DevIn (w : World) (c : Nat → Colour) (k : Colour) (g : Nat) (tape : Bool) (size : Nat) (fl : List (List Nat)) (wt : List Wr) : Prop :=
  ∃ bm bl v, Row w g 76 [.bool tape, .int .i64 (size : Nat), .map (some bm), v, .map (some bl)] ∧ c g = k ∧ c bm = k ∧ c bl = k ∧ bm ≠ bl ∧ FlIn w bm tape fl ∧ WtIn w c k v wt ∧ LtIn w bl wt

theorem FlIn.kept {w w' : World} {b : Nat} {tape : Bool} {fl : List (List Nat)} (h : FlIn w b tape fl) (hb : w'.heap[b]? = w.heap[b]?) : FlIn w' b tape fl := by
  obtain ⟨f, n, h1, h2⟩ := h
  exact ⟨f, n, h1.kept hb, h2⟩
theorem LtIn.kept {w w' : World} {b : Nat} {wt : List Wr} (h : LtIn w b wt) (hb : w'.heap[b]? = w.heap[b]?) : LtIn w' b wt := by
  obtain ⟨n, h1⟩ := h
  exact ⟨n, h1.kept hb⟩
theorem FlIn.lt {w : World} {b : Nat} {tape : Bool} {fl : List (List Nat)} (h : FlIn w b tape fl) : b < w.heap.size := by
  obtain ⟨f, n, h1, _⟩ := h
  exact h1.lt
theorem LtIn.lt {w : World} {b : Nat} {wt : List Wr} (h : LtIn w b wt) : b < w.heap.size := by
  obtain ⟨n, h1⟩ := h
  exact h1.lt
theorem WtIn.kept {w w' : World} {c c' : Nat → Colour} {k : Colour} {v : Value} {wt : List Wr} (h : WtIn w c k v wt) (hb : ∀ b, b < w.heap.size → c b = k → w'.heap[b]? = w.heap[b]? ∧ c' b = k) : WtIn w' c' k v wt := by
  obtain ⟨⟨hl, h1⟩, h2⟩ := h
  rcases h1 with ⟨rfl, hn⟩ | ⟨g, cap, cur, rfl, h0, hg, h3⟩
  · exact ⟨⟨hl, Or.inl ⟨rfl, hn⟩⟩, fun b hb => by cases hb⟩
  · have hk := hb g (Array.getElem?_eq_some_iff.1 hg).1 (h2 g rfl)
    exact ⟨⟨hl, Or.inr ⟨g, cap, cur, rfl, h0, hk.1.trans hg, h3⟩⟩, fun b hb => by cases hb; exact hk.2⟩
/-- a device stays what it is while none of its blocks turns -/
theorem DevIn.kept {w w' : World} {c c' : Nat → Colour} {k : Colour} {g : Nat} {tape : Bool} {size : Nat} {fl : List (List Nat)} {wt : List Wr} (h : DevIn w c k g tape size fl wt)
    (hb : ∀ b, b < w.heap.size → c b = k → w'.heap[b]? = w.heap[b]? ∧ c' b = k) : DevIn w' c' k g tape size fl wt := by
  obtain ⟨bm, bl, v, hr, hg, hm, hl, hne, h1, h2, h3⟩ := h
  refine ⟨bm, bl, v, ?_, (hb g hr.lt hg).2, (hb bm h1.lt hm).2, (hb bl h3.lt hl).2, hne, h1.kept (hb bm h1.lt hm).1, h2.kept hb, h3.kept (hb bl h3.lt hl).1⟩
  unfold Row
  rw [(hb g hr.lt hg).1]
  exact hr

def plCells (db cap : Nat) (m : Pl) : List Value := [.slice (some ⟨db, 0, none⟩) m.n cap, .bool m.on, .int .i64 m.fuse, .int .i64 (m.steps : Nat), .int .i64 m.clock]
/-- the plant at block g, its blocks of the colours (t, ..), its devices at the blocks gs -/
structure PlantAt (w : World) (c : Nat → Colour) (t g db cap : Nat) (gs : Nat → Nat) (m : Pl) : Prop where
  row : Row w g 69 (plCells db cap m)
  cg : c g = (t, 0)
  cd : c db = (t, 0)
  ne : db ≠ g
  lt : db < w.heap.size
  cap : m.n ≤ cap
  cell : ∀ i, i < m.n → w.cell? ⟨db, i, none⟩ = some (.pointer (some ⟨gs i, 0, none⟩))
  dev : ∀ i, i < m.n → DevIn w c (t, i + 1) (gs i) (m.tape i) (m.size i) (m.fl i) (m.wt i)
def PlantIn (w : World) (c : Nat → Colour) (t g : Nat) (m : Pl) : Prop := ∃ (db cap : Nat) (gs : Nat → Nat), PlantAt w c t g db cap gs m
theorem PlantIn.lt {w : World} {c : Nat → Colour} {t g : Nat} {m : Pl} (h : PlantIn w c t g m) : g < w.heap.size := by
  obtain ⟨db, cap, gs, h⟩ := h
  exact h.row.lt
theorem PlantIn.kept {w w' : World} {c c' : Nat → Colour} {t g : Nat} {m : Pl} (h : PlantIn w c t g m) (hsz : w.heap.size ≤ w'.heap.size) (hb : ∀ b, b < w.heap.size → (c b).1 = t → w'.heap[b]? = w.heap[b]? ∧ c' b = c b) : PlantIn w' c' t g m := by
  obtain ⟨db, cap, gs, h⟩ := h
  refine ⟨db, cap, gs, ⟨?_, ?_, ?_, h.ne, Nat.lt_of_lt_of_le h.lt hsz, h.cap, fun i hi => ?_, fun i hi => (h.dev i hi).kept fun b hlt hk => ?_⟩⟩
  · unfold Row
    rw [(hb g h.row.lt (by rw [h.cg])).1]
    exact h.row
  · rw [(hb g h.row.lt (by rw [h.cg])).2, h.cg]
  · rw [(hb db h.lt (by rw [h.cd])).2, h.cd]
  · rw [← h.cell i hi]
    exact World.cell?_of_block (hb db h.lt (by rw [h.cd])).1
  · have := hb b hlt (by rw [hk])
    exact ⟨this.1, this.2.trans hk⟩
/-- .. while others' blocks turn -/
theorem PlantIn.ch {w w' : World} {c c' : Nat → Colour} {t g : Nat} {m : Pl} {S : Nat → Prop} (h : PlantIn w c t g m) (hc : Ch S w w') (hS : ∀ b, b < w.heap.size → S b → (c b).1 ≠ t) (hcc : ∀ b, b < w.heap.size → c' b = c b) : PlantIn w' c' t g m :=
  h.kept hc.size fun b hb ht => ⟨hc.block b hb (fun hs => hS b hb hs ht), hcc b hb⟩
theorem Ch.one {g : Nat} {w w' : World} (h : Ch (· = g) w w') (k : Nat) (hk : k < w.heap.size) (hne : k ≠ g) : w'.heap[k]? = w.heap[k]? := h.block k hk hne
/-- only the plant's own block has turned -/
theorem PlantAt.head {w w' : World} {c : Nat → Colour} {t g db cap : Nat} {gs : Nat → Nat} {m : Pl} (h : PlantAt w c t g db cap gs m) (m' : Pl) (h1 : m'.sh = m.sh) (h2 : m'.fl = m.fl) (h3 : m'.wts = m.wts)
    (hc : Ch (· = g) w w') (hr : Row w' g 69 (plCells db cap m')) : PlantAt w' c t g db cap gs m' := by
  have hn : m'.n = m.n := by unfold Pl.n; rw [h1]
  refine ⟨hr, h.cg, h.cd, h.ne, Nat.lt_of_lt_of_le h.lt hc.size, by rw [hn]; exact h.cap, fun i hi => ?_, fun i hi => ?_⟩
  · rw [← h.cell i (by omega)]
    exact World.cell?_of_block (hc.one db h.lt h.ne)
  · have e1 : m'.tape i = m.tape i := by unfold Pl.tape; rw [h1]
    have e2 : m'.size i = m.size i := by unfold Pl.size; rw [h1]
    have e3 : m'.wt i = m.wt i := by unfold Pl.wt; rw [h3]
    rw [e1, e2, e3, h2]
    refine (h.dev i (by omega)).kept fun b hb hk => ⟨hc.one b hb ?_, hk⟩
    rintro rfl
    rw [h.cg] at hk
    simp at hk
/-- only blocks of one device have turned -/
theorem PlantAt.device {w w' : World} {c c' : Nat → Colour} {t g db cap : Nat} {gs : Nat → Nat} {m : Pl} (h : PlantAt w c t g db cap gs m) (m' : Pl) (i : Nat) (h1 : m'.sh = m.sh) (h2 : ∀ j, j ≠ i → m'.fl j = m.fl j ∧ m'.wt j = m.wt j)
    (h3 : m'.on = m.on ∧ m'.fuse = m.fuse ∧ m'.steps = m.steps ∧ m'.clock = m.clock) (hc : Ch (fun b => c b = (t, i + 1)) w w') (hcc : ∀ b, b < w.heap.size → c' b = c b)
    (hd : i < m.n → DevIn w' c' (t, i + 1) (gs i) (m'.tape i) (m'.size i) (m'.fl i) (m'.wt i)) : PlantAt w' c' t g db cap gs m' := by
  have hn : m'.n = m.n := by unfold Pl.n; rw [h1]
  have hne : ∀ b, c b = (t, 0) → ¬ c b = (t, i + 1) := fun b e1 e2 => by rw [e1] at e2; simp at e2
  refine ⟨?_, by rw [hcc g h.row.lt]; exact h.cg, by rw [hcc db h.lt]; exact h.cd, h.ne, Nat.lt_of_lt_of_le h.lt hc.size, by rw [hn]; exact h.cap, fun j hj => ?_, fun j hj => ?_⟩
  · have := hc.row (hne g h.cg) h.row
    unfold plCells at this ⊢
    rw [hn, h3.1, h3.2.1, h3.2.2.1, h3.2.2.2]
    exact this
  · rw [← h.cell j (by omega)]
    exact World.cell?_of_block (hc.block db h.lt (hne db h.cd))
  · by_cases hji : j = i
    · subst hji
      exact hd (by omega)
    · have e1 : m'.tape j = m.tape j := by unfold Pl.tape; rw [h1]
      have e2 : m'.size j = m.size j := by unfold Pl.size; rw [h1]
      rw [e1, e2, (h2 j hji).1, (h2 j hji).2]
      refine (h.dev j (by omega)).kept fun b hb hk => ⟨hc.block b hb ?_, (hcc b hb).trans hk⟩
      intro e
      rw [e] at hk
      simp at hk
      omega
end Go.Proofs.Ytgkmegcejekbcaa

/- Numbers in bytes: how they are written and read (package frame). -/
import Derived.Test.YtncjmolhofnpbaaRows
import Derived.Laws.BitsAllLaws
import Derived.WalkKit
import Derived.WalkSpells
import Derived.WalkLawsBesides
import Derived.Laws.CopyOwn
import Derived.Laws.BytesArg
import Derived.OrdersHeld
namespace Go.Proofs.Ytncjmolhofnpbaa.Fr.Crc
/-- one shift by the polynomial -/
def step (r : BitVec 32) : BitVec 32 := if r.getLsbD 0 then (r >>> 1) ^^^ 0xedb88320#32 else r >>> 1
/-- n shifts -/
def steps : Nat → BitVec 32 → BitVec 32
  | 0, r => r
  | n + 1, r => steps n (step r)
/-- a byte -/
def byteStep (r : BitVec 32) (c : Nat) : BitVec 32 := steps 8 (r ^^^ BitVec.ofNat 32 c)
/-- bytes -/
def run (r : BitVec 32) (cs : List Nat) : BitVec 32 := cs.foldl byteStep r
/-- the table of the program -/
def tab : List Nat := [0, 498536548, 997073096, 651767980, 1994146192, 1802195444, 1303535960, 1342533948, 3988292384, 4027552580, 3604390888, 3412177804, 2607071920, 2262029012, 2685067896, 3183342108]
end Go.Proofs.Ytncjmolhofnpbaa.Fr.Crc
namespace Go.Proofs.Ytncjmolhofnpbaa.Fr
namespace Crc
/-- a word as Go's number -/
def U (a : BitVec 32) : Int := (a.toNat : Int)
/-- a word's lowest four bits -/
def low (a : BitVec 32) : Nat := a.toNat % 16
/-- what the table has for them -/
def tabAt (a : BitVec 32) : BitVec 32 := BitVec.ofNat 32 (tab.getD (low a) 0)
end Crc
end Go.Proofs.Ytncjmolhofnpbaa.Fr
namespace Go.Proofs.Ytncjmolhofnpbaa.Fr
open Go.RowKit
def intOf : Value → Int | .int _ q => q | _ => 0
/-- a row of bytes lies in memory -/
def BytesIn (w : World) (b off : Nat) (cs : List Nat) : Prop := (∀ j : Nat, j < cs.length → w.cell? ⟨b, off + j, none⟩ = some (.int .u8 (cs.getD j 0 : Nat))) ∧ ∀ j : Nat, cs.getD j 0 < 256
end Go.Proofs.Ytncjmolhofnpbaa.Fr
namespace Go.Proofs.Ytncjmolhofnpbaa.Fr.Frame
/-- the lowest s bytes of n, the highest first -/
def be : Nat → Nat → List Nat
  | 0, _ => []
  | s + 1, n => (n / 256 ^ s % 256) :: be s n
theorem be_length (s n : Nat) : (be s n).length = s := by
  induction s with
  | zero => rfl
  | succ s ih => simp [be, ih]
theorem be_lt (s n : Nat) : ∀ c ∈ be s n, c < 256 := by
  induction s with
  | zero => intro c hc; simp [be] at hc
  | succ s ih =>
    intro c hc
    simp only [be, List.mem_cons] at hc
    rcases hc with rfl | hc
    · omega
    · exact ih c hc
theorem getD_lt {cs : List Nat} (h : ∀ c ∈ cs, c < 256) (j : Nat) : cs.getD j 0 < 256 := by
  by_cases hj : j < cs.length
  · simpa [hj] using h _ (List.getElem_mem hj)
  · simp [hj]
theorem mem_lt {cs : List Nat} (h : ∀ j : Nat, cs.getD j 0 < 256) : ∀ c ∈ cs, c < 256 := by
  intro c hc
  obtain ⟨j, hj, rfl⟩ := List.getElem_of_mem hc
  simpa [hj] using h j
/-- the number of bytes, the highest first -/
def val (cs : List Nat) : Nat := cs.foldl (fun n c => n * 256 + c) 0
theorem foldl_val (cs : List Nat) : ∀ n, cs.foldl (fun n c => n * 256 + c) n = n * 256 ^ cs.length + val cs := by
  induction cs with
  | nil => intro n; simp [val]
  | cons c cs ih =>
    intro n
    simp only [List.foldl_cons, val]
    rw [ih, ih (0 * 256 + c), List.length_cons, Nat.pow_succ]
    rw [Nat.add_mul, Nat.add_mul, Nat.mul_assoc, Nat.mul_comm 256]
    simp only [Nat.zero_mul, Nat.zero_add]
    omega
theorem val_cons (c : Nat) (cs : List Nat) : val (c :: cs) = c * 256 ^ cs.length + val cs := by
  have := foldl_val cs (0 * 256 + c)
  rw [Nat.zero_mul, Nat.zero_add] at this
  show List.foldl (fun n c => n * 256 + c) (0 * 256 + c) cs = _
  rw [Nat.zero_mul, Nat.zero_add]
  exact this
theorem val_snoc (cs : List Nat) (c : Nat) : val (cs ++ [c]) = val cs * 256 + c := by simp [val]
theorem val_lt (cs : List Nat) (h : ∀ c ∈ cs, c < 256) : val cs < 256 ^ cs.length := by
  induction cs with
  | nil => simp [val]
  | cons c cs ih =>
    rw [val_cons, List.length_cons, Nat.pow_succ]
    have h1 := ih fun x hx => h x (List.mem_cons_of_mem _ hx)
    have h2 := h c (List.mem_cons_self ..)
    have h3 : (c + 1) * 256 ^ cs.length ≤ 256 * 256 ^ cs.length := Nat.mul_le_mul_right _ (by omega)
    rw [Nat.add_mul, Nat.one_mul] at h3
    rw [Nat.mul_comm (256 ^ cs.length)]
    omega
theorem val_be (s n : Nat) : val (be s n) = n % 256 ^ s := by
  induction s with
  | zero => simp [be, val]; omega
  | succ s ih =>
    rw [be, val_cons, be_length, ih, Nat.pow_succ, Nat.mul_comm (n / 256 ^ s % 256)]
    rw [Nat.mod_mul]
    omega
theorem be_val (cs : List Nat) (h : ∀ c ∈ cs, c < 256) : be cs.length (val cs) = cs := by
  have gen : ∀ (cs : List Nat) (k : Nat), (∀ c ∈ cs, c < 256) → be cs.length (k * 256 ^ cs.length + val cs) = cs := by
    intro cs
    induction cs with
    | nil => intro k _; rfl
    | cons c cs ih =>
      intro k h
      have hc := h c (List.mem_cons_self ..)
      have hr := fun x hx => h x (List.mem_cons_of_mem _ hx)
      have hv := val_lt cs hr
      have e : k * 256 ^ (c :: cs).length + val (c :: cs) = (k * 256 + c) * 256 ^ cs.length + val cs := by
        rw [val_cons, List.length_cons, Nat.pow_succ, Nat.add_mul, Nat.mul_assoc k, Nat.mul_comm 256]
        omega
      rw [e, List.length_cons, be, ih _ hr]
      have hpos : 0 < 256 ^ cs.length := Nat.pow_pos (by decide)
      have e2 : ((k * 256 + c) * 256 ^ cs.length + val cs) / 256 ^ cs.length = k * 256 + c := by
        rw [Nat.mul_comm, Nat.mul_add_div hpos, Nat.div_eq_of_lt hv]
        omega
      rw [e2]
      congr 1
      omega
  have := gen cs 0 h
  simpa using this
/-- a step of the loop that writes them -/
theorem be_succ (s n : Nat) : be (s + 1) n = (n / 256 ^ s % 256) :: be s n := rfl
end Go.Proofs.Ytncjmolhofnpbaa.Fr.Frame
namespace Go.Proofs.Ytncjmolhofnpbaa.Fr
open Go.RowKit
/-- a slice value that holds just these bytes -/
def SliceIn (w : World) (v : Value) (cs : List Nat) : Prop :=
  ∃ p cap, v = .slice p cs.length cap ∧ (cs.length ≤ cap ∧ cs.length ≤ 9223372036854775807) ∧ (cs = [] ∨ ∃ b off, p = some ⟨b, off, none⟩ ∧ BytesIn w b off cs)
/-- bytes as cells -/
def bcells (cs : List Nat) : List Value := cs.map fun c => Value.int .u8 (c : Nat)
theorem bcells_length (cs : List Nat) : (bcells cs).length = cs.length := by simp [bcells]
theorem bcells_append (a b : List Nat) : bcells (a ++ b) = bcells a ++ bcells b := by simp [bcells]
theorem bcells_at (cs : List Nat) (j : Nat) (h : j < cs.length) : (bcells cs)[j]? = some (.int .u8 (cs.getD j 0 : Nat)) := by simp [bcells, h]
theorem bcells_one (cs : List Nat) : ∀ v ∈ bcells cs, v.oneCell' = true := by
  intro v hv
  obtain ⟨c, _, rfl⟩ := List.mem_map.1 hv
  rfl
/-- bytes that the call has made, in a block from base on that is this slice's alone -/
def BOwn (w : World) (base : Nat) (v : Value) (cs : List Nat) : Prop := w.ownsRow base 5 1 v cs.length (bcells cs)
theorem add_none (b o j : Nat) : (⟨b, o, none⟩ : Addr).add j = ⟨b, o + j, none⟩ := by unfold Addr.add; split <;> simp_all
theorem info5 : (Try.prog.info? 5).map (fun i => (i.zero, i.size, i.bytes)) = some (some (.int .u8 0), 1, 1) := by kernel_rfl
theorem size5 : (Try.prog.info? 5).map (·.size) = some 1 := by kernel_rfl
theorem elem22 : Try.prog.elem 28 = 5 := by kernel_rfl
theorem BytesIn.later {B : Nat} {w wx : World} {b off : Nat} {cs : List Nat} (hb : Below B w wx) (hlt : cs ≠ [] → b < B) (h : BytesIn w b off cs) : BytesIn wx b off cs := by
  refine ⟨fun j hj => ?_, h.2⟩
  have hb' : b < B := hlt (by rintro rfl; simp at hj)
  rw [hb.cell (p := ⟨b, off + j, none⟩) hb']
  exact h.1 j hj
theorem BytesIn.lt {w : World} {b off : Nat} {cs : List Nat} (h : BytesIn w b off cs) (hne : cs ≠ []) : b < w.heap.size :=
  block_lt_of_cell (h.1 0 (by cases cs <;> simp_all))
theorem SliceIn.later {w wx : World} {v : Value} {cs : List Nat} (hb : Below w.heap.size w wx) (h : SliceIn w v cs) : SliceIn wx v cs := by
  obtain ⟨p, cap, rfl, hl, h⟩ := h
  refine ⟨p, cap, rfl, hl, ?_⟩
  rcases h with h | ⟨b, off, rfl, h⟩
  · exact Or.inl h
  · exact Or.inr ⟨b, off, rfl, h.later hb h.lt⟩
theorem SliceIn.bytes {w : World} {v : Value} {cs : List Nat} (h : SliceIn w v cs) (j : Nat) : cs.getD j 0 < 256 := by
  obtain ⟨p, cap, rfl, hl, h⟩ := h
  rcases h with rfl | ⟨b, off, rfl, _, hb⟩
  · simp
  · exact hb j
theorem SliceIn.nil (w : World) : SliceIn w (.slice none 0 0) [] := ⟨none, 0, rfl, ⟨Nat.le_refl _, by decide⟩, Or.inl rfl⟩
theorem BOwn.slice {w : World} {base : Nat} {v : Value} {cs : List Nat} (h : BOwn w base v cs) (hb : ∀ c ∈ cs, c < 256) : SliceIn w v cs := by
  rcases h.2 with ⟨rfl, h0⟩ | ⟨g, cap, cur, rfl, _, hg, hcap, hmax, hsz, htake⟩
  · obtain rfl : cs = [] := List.length_eq_zero_iff.1 h0
    exact SliceIn.nil w
  · unfold maxLen at hmax
    refine ⟨_, cap, rfl, ⟨hcap, by omega⟩, Or.inr ⟨g, 0, rfl, fun j hj => ?_, Frame.getD_lt hb⟩⟩
    have h2 := h.cells (g := g) rfl j _ (bcells_at cs j hj)
    rw [add_none] at h2
    exact h2
theorem BOwn.nil (w : World) (base : Nat) : BOwn w base (.slice none 0 0) [] := World.ownsRow_nil w base 5 1
theorem BOwn.new (w : World) (base : Nat) (hb : base ≤ w.heap.size) : BOwn (w.alloc (.cells #[] 5)) base (.slice (some ⟨w.heap.size, 0, none⟩) 0 0) [] := World.ownsRow_made w #[] 0 hb (Nat.zero_le _) rfl
theorem BOwn.later {w w' : World} {B base : Nat} {v : Value} {cs : List Nat} (h : BOwn w base v cs) (hb : Below B w w') (hB : w.heap.size ≤ B) : BOwn w' base v cs := by
  refine World.ownsRow.kept h (row := none) ⟨hb.os, hb.tape, hb.output, hb.size, fun k hk _ => hb.block k (by omega)⟩ ?_
  cases hv : v.ownBlock with
  | none => exact Or.inl rfl
  | some k => exact Or.inr (by simp)
theorem BOwn.weaken {w : World} {base base' : Nat} {v : Value} {cs : List Nat} (h : BOwn w base v cs) (hb : base' ≤ base) : BOwn w base' v cs := by
  refine ⟨h.1, ?_⟩
  rcases h.2 with h | ⟨g, cap, cur, h1, h2, h3⟩
  · exact Or.inl h
  · exact Or.inr ⟨g, cap, cur, h1, Nat.le_trans hb h2, h3⟩
theorem BOwn.apart {w w' : World} {B B' : Nat} {v v' : Value} {cs cs' : List Nat} (h : BOwn w B v cs) (h' : BOwn w' B' v' cs') (hs : w.heap.size ≤ B') : v.ownBlock = none ∨ v.ownBlock ≠ v'.ownBlock := by
  cases hv : v.ownBlock with
  | none => exact Or.inl rfl
  | some k =>
    refine Or.inr ?_
    intro e
    have h1 := h.lt k hv
    have h2 := h'.lt k e.symm
    omega
theorem BOwn.apart' {w w' : World} {B B' : Nat} {v v' : Value} {cs cs' : List Nat} (h : BOwn w B v cs) (h' : BOwn w' B' v' cs') (hs : w.heap.size ≤ B') : v'.ownBlock = none ∨ v'.ownBlock ≠ v.ownBlock := by
  cases hv : v'.ownBlock with
  | none => exact Or.inl rfl
  | some k =>
    refine Or.inr ?_
    intro e
    have h1 := h.lt k e.symm
    have h2 := h'.lt k hv
    omega
/-- what an own block's turning leaves -/
theorem BOwn.below {w w' : World} {base : Nat} {v : Value} {cs : List Nat} (h : BOwn w base v cs) (hg : w.grownBy w' v.ownBlock) (hb : base ≤ w.heap.size) : Below base w w' :=
  (Below.refl base w).grown hg hb fun k hk => (h.lt k hk).1
theorem sub_in {w : World} {cs : List Nat} {p : Option Addr} {cap : Nat} (hl : cs.length ≤ cap ∧ cs.length ≤ 9223372036854775807) (hin : cs = [] ∨ ∃ b off, p = some ⟨b, off, none⟩ ∧ BytesIn w b off cs)
    (l h m : Nat) (h1 : l ≤ h) (h2 : h ≤ cs.length) (h3 : h ≤ m) : SliceIn w (sliced p l h m 1) ((cs.take h).drop l) := by
  have hlen : ((cs.take h).drop l).length = h - l := by simp; omega
  unfold sliced
  by_cases hz : h = l
  · have e : (cs.take h).drop l = [] := List.length_eq_zero_iff.1 (by omega)
    rw [e]
    refine ⟨if m = l then p else p.map (·.add (l * 1)), m - l, ?_, ⟨by simp, by simp⟩, Or.inl rfl⟩
    rw [show h - l = ([] : List Nat).length by simp; omega]
  · rcases hin with rfl | ⟨b, off, rfl, hc, hb⟩
    · simp at h2
      omega
    · refine ⟨_, m - l, by rw [hlen], ⟨by omega, by omega⟩, Or.inr ⟨b, off + l, ?_, fun j hj => ?_, fun j => ?_⟩⟩
      · rw [if_neg (by omega), Option.map_some, Nat.mul_one, add_none]
      · rw [hlen] at hj
        have e : ((cs.take h).drop l).getD j 0 = cs.getD (l + j) 0 := by simp [show l + j < h by omega]
        rw [e, Nat.add_assoc]
        exact hc (l + j) (by omega)
      · refine Frame.getD_lt (fun c hc' => ?_) j
        exact Frame.mem_lt hb c (List.mem_of_mem_take (List.mem_of_mem_drop hc'))
/-- which cut it is -/
def SubOf (lo hi mx : Option Value) (n l h : Nat) : Prop :=
  ((lo = none ∧ l = 0) ∨ ∃ L : Int, lo = some (.int .i64 L) ∧ L = (l : Int)) ∧ ((hi = none ∧ mx = none ∧ h = n) ∨ ∃ H : Int, hi = some (.int .i64 H) ∧ H = (h : Int) ∧ (mx = none ∨ mx = some (.int .i64 H))) ∧ l ≤ h ∧ h ≤ n
theorem run_sub {w : World} {v : Value} {cs : List Nat} (hin : SliceIn w v cs) {lo hi mx : Option Value} {l h : Nat} (hs : SubOf lo hi mx cs.length l h) :
    ∃ v', (∀ w', (Instr.slice 28 v lo hi mx).run Try.prog w' = .ok v' w') ∧ SliceIn w v' ((cs.take h).drop l) := by
  obtain ⟨p, cap, rfl, hl, hin⟩ := hin
  obtain ⟨hlo, hhi, h1, h2⟩ := hs
  obtain ⟨i, hi5, hsz⟩ := Option.map_eq_some_iff.1 size5
  have hsize : ∀ w' : World, (sizeOf 5).run Try.prog w' = .ok 1 w' := fun w' => by simp [sizeOf, typeInfo, hi5, hsz]
  have hu := Try.underlying28
  have key : ∀ m : Nat, h ≤ m → ((∀ w', (Instr.slice 28 (.slice p cs.length cap) lo hi mx).run Try.prog w' = .ok (sliced p l h m 1) w') → ∃ v', (∀ w', (Instr.slice 28 (.slice p cs.length cap) lo hi mx).run Try.prog w' = .ok v' w') ∧ SliceIn w v' ((cs.take h).drop l)) :=
    fun m hm hr => ⟨_, hr, sub_in hl hin l h m h1 h2 hm⟩
  have hu' : Try.prog.underlying 28 = some (.slice (Try.prog.elem 28)) := by rw [elem22]; exact hu
  rcases hlo with ⟨rfl, rfl⟩ | ⟨L, rfl, rfl⟩
  · rcases hhi with ⟨rfl, rfl, rfl⟩ | ⟨H, rfl, rfl, rfl | rfl⟩
    · exact key cap hl.1 fun w' => by rw [run_slice_all _ _ _ _ _ hu', elem22, hsize]; rfl
    · exact key cap (by omega) fun w' => by rw [run_slice_h _ _ _ _ _ hu' _ _ (by omega) (by omega), elem22, hsize]; rfl
    · exact key h (Nat.le_refl _) fun w' => by rw [run_slice_hm _ _ _ _ _ hu' _ _ _ _ (by omega) (by omega) (by omega), elem22, hsize]; rfl
  · rcases hhi with ⟨rfl, rfl, rfl⟩ | ⟨H, rfl, rfl, rfl | rfl⟩
    · exact key cap hl.1 fun w' => by rw [run_slice_l _ _ _ _ _ hu' _ _ (by omega) (by omega), elem22, hsize]; rfl
    · exact key cap (by omega) fun w' => by rw [run_slice_lh _ _ _ _ _ hu' _ _ _ _ (by omega) (by omega) (by omega), elem22, hsize]; rfl
    · exact key h (Nat.le_refl _) fun w' => by rw [run_slice_lhm _ _ _ _ _ hu' _ _ _ _ _ _ (by omega) (by omega) (by omega) (by omega), elem22, hsize]; rfl
section
variable {w : World} {ops : Array Oper} {rest : List Oper} {o : Oper} {a : Act} {Q : Exit → Act → World → Prop}
/-- an operation whose run is known -/
theorem wpList_value (hgd : Region.wanted o (yielded ops a.tmps) = true) (v : Value) (w' : World) (hrun : (execOp a.eval o).run Try.prog w = .ok (.value v) w') (h : wpList Try.prog ops Q rest (a.put o.dst v) w') : wpList Try.prog ops Q (o :: rest) a w :=
  BigFrame.wpList_want hgd fun K hK => by
    unfold Oper.wp
    rw [hrun]
    exact hK _ _ h
/-- the length -/
theorem run_len {v : Value} {cs : List Nat} (hin : SliceIn w v cs) (ty : TypeId) (w' : World) : (Builtin.len_ #[28] ty #[v]).run Try.prog w' = .ok (goInt cs.length) w' := by
  obtain ⟨p, cap, rfl, hl, hin⟩ := hin
  have hu' : Try.prog.underlying 28 = some (.slice (Try.prog.elem 28)) := by rw [elem22]; exact Try.underlying28
  exact run_len_slice w' _ _ _ _ _ hu'
theorem wpList_len {w0 : World} (x : Operand) (hgd : Region.wanted o (yielded ops a.tmps) = true) (ho : o.op = .call { callee := .builtin .len, args := #[x], argTypes := #[28] }) (v : Value) (cs : List Nat) (hx : a.eval x = v) (hin : SliceIn w0 v cs)
    (h : wpList Try.prog ops Q rest (a.put o.dst (.int .i64 (cs.length : Nat))) w) : wpList Try.prog ops Q (o :: rest) a w := by
  refine wpList_value hgd _ w ?_ h
  have hr := run_len hin o.type w
  simp only [execOp, ho, resolve, invoke, builtin, Sem.run_bind, Sem.run_pure, Result.andThen_ok, List.map_toArray, List.map_cons, List.map_nil, hx, hr]
  rfl
/-- a slice of bytes behind one that the call has made -/
theorem wpList_append (sv x : Operand) (hgd : Region.wanted o (yielded ops a.tmps) = true) (ho : o.op = .call { callee := .builtin .append, args := #[sv, x], argTypes := #[28, 28] })
    (base : Nat) (v vx : Value) (cs ys : List Nat) (hs : a.eval sv = v) (hown : BOwn w base v cs) (hx : a.eval x = vx) (hin : SliceIn w vx ys)
    (hsz : cs.length + ys.length ≤ 140737488355328) (hbase : base ≤ w.heap.size)
    (h : ∀ v' w', BOwn w' base v' (cs ++ ys) → Below base w w' → wpList Try.prog ops Q rest (a.put o.dst v') w') : wpList Try.prog ops Q (o :: rest) a w := by
  obtain ⟨i, hi, hz0, hz1, hz2⟩ := info_parts info5
  obtain ⟨p, cap, rfl, hl, hin⟩ := hin
  have hgo : ∀ ad : Addr, (∀ j u, (bcells ys)[j]? = some u → w.cell? (ad.add j) = some u) → p = some ad → wpList Try.prog ops Q (o :: rest) a w := by
    rintro ad hnews rfl
    obtain ⟨v', w', hr, ho', hg, _⟩ := run_append_own (P := Try.prog) (w := w) base 28 o.type 5 i (.int .u8 0) 1 1 Try.underlying28 hi hz0 hz1 hz2 rfl (by decide) v cs.length (bcells cs) hown
      ad ys.length cap (bcells ys) (by simp [bcells_length]) hnews (bcells_one ys) (by unfold maxLen; omega) (by omega) hbase
    refine wpList_value hgd v' w' ?_ (h v' w' ?_ ((Below.refl base w).grown hg hbase fun k hk => (hown.lt k hk).1))
    · simp only [execOp, ho, resolve, invoke, builtin, Sem.run_bind, Sem.run_pure, Result.andThen_ok, List.map_toArray, List.map_cons, List.map_nil, hs, hx, hr]
    · unfold BOwn
      rw [bcells_append, List.length_append]
      exact ho'
  rcases hin with rfl | ⟨b, off, rfl, hc, _⟩
  · cases p with
    | none =>
      have hrun : (Builtin.append_ #[28, 28] o.type #[v, .slice none ([] : List Nat).length cap]).run Try.prog w = .ok v w := by
        rcases hown.2 with ⟨rfl, h0⟩ | ⟨g, cap', cur, rfl, _, hg, hcap, hmax, hsz, htake⟩
        · simp [Builtin.append_, run_underlying Try.underlying28, sizeOf, typeInfo, hi, Builtin.lenOf, Builtin.firstCells]
        · simp [Builtin.append_, run_underlying Try.underlying28, sizeOf, typeInfo, hi, Builtin.lenOf, Builtin.firstCells, hcap, storeCells]
      refine wpList_value hgd v w ?_ (h v w ?_ (Below.refl _ _))
      · simp only [execOp, ho, resolve, invoke, builtin, Sem.run_bind, Sem.run_pure, Result.andThen_ok, List.map_toArray, List.map_cons, List.map_nil, hs, hx, hrun]
      · rw [List.append_nil]
        exact hown
    | some ad => exact hgo ad (by intro j u hu; simp [bcells] at hu) rfl
  · refine hgo ⟨b, off, none⟩ (fun j u hu => ?_) rfl
    have hj : j < ys.length := by
      have := (List.getElem?_eq_some_iff.1 hu).1
      rwa [bcells_length] at this
    rw [add_none, hc j hj, ← hu, bcells_at ys j hj]
/-- a literal of no bytes, of one, .. -/
theorem lit_in (w : World) (cs : List Nat) (hb : ∀ c ∈ cs, c < 256) (hl : cs.length ≤ 1000000) : SliceIn (w.alloc (.cells (bcells cs).toArray 5)) (.slice (some ⟨w.heap.size, 0, none⟩) cs.length cs.length) cs := by
  refine ⟨_, _, rfl, ⟨Nat.le_refl _, by omega⟩, Or.inr ⟨w.heap.size, 0, rfl, fun j hj => ?_, Frame.getD_lt hb⟩⟩
  have e : ∀ o : Obj, (w.alloc o).heap[w.heap.size]? = some o := fun o => by
    show (w.heap.push o)[w.heap.size]? = _
    simp
  unfold World.cell?
  rw [e]
  simp [bcells, hj]
theorem run_lit0 : (Instr.buildSlice 28 0 #[]).run Try.prog w = .ok (.slice (some ⟨w.heap.size, 0, none⟩) 0 0) (w.alloc (.cells #[] 5)) := by kernel_rfl
theorem run_lit1 (y : Nat) : (Instr.buildSlice 28 1 #[(0, .int .u8 (y : Nat))]).run Try.prog w = .ok (.slice (some ⟨w.heap.size, 0, none⟩) [y].length [y].length) (w.alloc (.cells (bcells [y]).toArray 5)) := by kernel_rfl
theorem wpList_lit0 (hgd : Region.wanted o (yielded ops a.tmps) = true) (ho : o.op = .buildSlice 28 0 #[]) (base : Nat) (hb : base ≤ w.heap.size)
    (h : ∀ v' w', BOwn w' base v' [] → Below w.heap.size w w' → wpList Try.prog ops Q rest (a.put o.dst v') w') : wpList Try.prog ops Q (o :: rest) a w :=
  wpList_value hgd _ _ (by simp [execOp, ho, run_lit0]) (h _ (w.alloc (.cells #[] 5)) (BOwn.new w _ hb) ((Below.refl _ _).alloc (Nat.le_refl _) _))
theorem wpList_lit1 (x : Operand) (hgd : Region.wanted o (yielded ops a.tmps) = true) (ho : o.op = .buildSlice 28 1 #[(0, x)]) (y : Nat) (hy : y < 256) (X : Int) (hx : a.eval x = .int .u8 X) (hX : X = (y : Int))
    (h : ∀ v' w', SliceIn w' v' [y] → Below w.heap.size w w' → wpList Try.prog ops Q rest (a.put o.dst v') w') : wpList Try.prog ops Q (o :: rest) a w := by
  subst hX
  refine wpList_value hgd _ _ (by simp only [execOp, ho, List.map_toArray, List.map_cons, List.map_nil, hx, run_lit1, Sem.run_bind, Sem.run_pure, Result.andThen_ok]) (h _ (w.alloc (.cells (bcells [y]).toArray 5)) (lit_in w [y] (by simpa using hy) (by simp)) ((Below.refl _ _).alloc (Nat.le_refl _) _))
/-- make([]byte, 0, n) -/
theorem wpList_make0 (l c : Operand) (hgd : o.guard = none) (ho : o.op = .makeSlice 28 l c) (base n : Nat) (C : Int) (hl : a.eval l = .int .i64 0) (hc : a.eval c = .int .i64 C) (hC : C = (n : Int)) (hn : n ≤ 281474976710656) (hb : base ≤ w.heap.size)
    (h : ∀ v' w', BOwn w' base v' [] → Below base w w' → wpList Try.prog ops Q rest (a.put o.dst v') w') : wpList Try.prog ops Q (o :: rest) a w := by
  obtain ⟨i, hi, hz0, hz1, hz2⟩ := info_parts info5
  refine wpList_make_own w hgd l c 28 ho base 5 i (.int .u8 0) 1 Try.underlying28 hi hz0 hz1 .i64 .i64 C n hl hc hC (by rw [hz2]; omega) (by unfold maxLen; omega) hb ?_
  intro w' hown hg
  exact h _ w' hown ((Below.refl base w).grown hg hb fun k hk => by cases hk)
end
end Go.Proofs.Ytncjmolhofnpbaa.Fr
namespace Go.Proofs.Ytncjmolhofnpbaa.Fr
open Go.RowKit
theorem append_snoc_be (done : List Nat) (s n size : Nat) (h : done ++ Frame.be (s + 1) n = Frame.be size n) : (done ++ [n / 256 ^ s % 256]) ++ Frame.be s n = Frame.be size n := by
  rw [← h, Frame.be_succ, List.append_assoc]
  rfl
theorem byte_at (n t : Nat) : (n : Int) / 2 ^ (8 * t) % 256 = ((n / 256 ^ t % 256 : Nat) : Int) := by
  have e : (256 : Nat) ^ t = 2 ^ (8 * t) := by rw [Nat.pow_mul]
  rw [e, Int.natCast_emod, Int.natCast_ediv, Int.natCast_pow]
  rfl
set_option maxHeartbeats 400000 in
theorem lay_any (v : Value) (cs : List Nat) (n size base : Nat) (w : World) (h : BOwn w base v cs) (hbase : base ≤ w.heap.size) (hs : size ≤ 8) (hsz : cs.length + size ≤ 140737488355328) :
    Calls Try.prog 37 #[v, .int .u64 (n : Nat), .int .i64 (size : Nat)] w fun e w' => ∃ v', e = .returned v' ∧ BOwn w' base v' (cs ++ Frame.be size n) ∧ Below base w w' := by
  have HO : Hid (BOwn w base v cs) := h
  have HB : Hid (base ≤ w.heap.size) := hbase
  clear h hbase
  go_enter Try.func37, Try.ntmps37
  go_wp2
  go_loopw [0, 7] (fun x i W => ∃ s : Nat, ∃ done : List Nat, s ≤ size ∧ i = .int .i64 ((s : Int) - 1) ∧ BOwn W base x (cs ++ done) ∧ done ++ Frame.be s n = Frame.be size n ∧ Below base w W) (fun _ i _ => (intOf i + 1).toNat)
  case atStart => exact ⟨size, [], Nat.le_refl _, rfl, by rw [List.append_nil]; exact HO.out, rfl, Below.refl _ _⟩
  case round =>
    obtain ⟨s, done, hss, rfl, hx, hd, hbl⟩ := hrel
    have HX : Hid (BOwn wr base u0 (cs ++ done)) := hx
    have HD : Hid (done ++ Frame.be s n = Frame.be size n) := hd
    have HBL : Hid (Below base w wr) := hbl
    clear hx hd hbl
    by_cases h0 : s = 0
    · subst h0
      have HE : Hid (cs ++ done = cs ++ Frame.be size n) := by
        have := HD.out
        rw [Frame.be, List.append_nil] at this
        show _ = _
        rw [this]
      go_wp2
      go_ret
      exact ⟨u0, rfl, by rw [← HE.out]; exact HX.out, HBL.out⟩
    · obtain ⟨t, rfl⟩ : ∃ t, s = t + 1 := ⟨s - 1, by omega⟩
      have HL : Hid (done.length + 1 ≤ size) := by
        have := congrArg List.length HD.out
        rw [List.length_append, Frame.be_length, Frame.be_length] at this
        show _ ≤ _
        omega
      rw [show ((t + 1 : Nat) : Int) - 1 = (t : Int) by omega]
      go_wp2_with (first
        | (refine wpList_lit1 (.tmp 19) rfl rfl (n / 256 ^ t % 256) (Nat.mod_lt _ (by decide)) _ rfl (byte_at n t) ?_; intro v1 w1 s1 b1; have B1 : Hid (Below wr.heap.size wr w1) := b1; clear b1)
        | (refine wpList_append (.tmp 14) (.tmp 20) rfl rfl base u0 v1 (cs ++ done) [n / 256 ^ t % 256] rfl (HX.out.later B1.out (Nat.le_refl _)) rfl s1 (by have := HL.out; rw [List.length_append]; simp; omega) (Nat.le_trans HB.out (Nat.le_trans HBL.out.size B1.out.size)) ?_; intro v2 w2 o2 b2; have O2 : Hid (BOwn w2 base v2 (cs ++ (done ++ [n / 256 ^ t % 256]))) := (by rw [← List.append_assoc]; exact o2); have B2 : Hid (Below base w w2) := HBL.out.trans ((B1.out.mono (Nat.le_trans HB.out HBL.out.size)).trans b2); clear o2 b2 s1 B1))
      refine ⟨⟨t, done ++ [n / 256 ^ t % 256], by omega, by go_num, O2.out, append_snoc_be done t n size HD.out, B2.out⟩, ?_⟩
      simp [intOf]
end Go.Proofs.Ytncjmolhofnpbaa.Fr
namespace Go.Proofs.Ytncjmolhofnpbaa.Fr
open Go.RowKit
theorem u64_step (n c : Nat) (hn : n < 72057594037927936) (hc : c < 256) : bits BinOp.or IntKind.u64 (IntKind.u64.wrap ((n : Int) * 256)) (IntKind.u64.wrap (c : Int)) = ((n * 256 + c : Nat) : Int) := by
  have e1 : IntKind.u64.wrap ((n : Int) * 256) = ((n * 256 : Nat) : Int) := by rw [IntKind.wrap_u64]; omega
  have e2 : IntKind.u64.wrap (c : Int) = (c : Int) := by rw [IntKind.wrap_u64]; omega
  rw [e1, e2, u64_or_nat _ _ (by omega) (by omega)]
  have := Nat.two_pow_add_eq_or_of_lt (i := 8) (b := c) (by omega) n
  rw [show (2 : Nat) ^ 8 = 256 from rfl] at this
  rw [Nat.mul_comm n, this]
theorem val_take_lt (cs : List Nat) (hb : ∀ j : Nat, cs.getD j 0 < 256) (k : Nat) (hk : k ≤ 7) : Frame.val (cs.take k) < 72057594037927936 := by
  have h1 := Frame.val_lt (cs.take k) fun c hc => Frame.mem_lt hb c (List.mem_of_mem_take hc)
  have h2 : (cs.take k).length ≤ 7 := by simp; omega
  have h3 : 256 ^ (cs.take k).length ≤ 256 ^ 7 := Nat.pow_le_pow_right (by decide) h2
  omega
theorem val_take_succ (cs : List Nat) (k : Nat) (h : k < cs.length) : Frame.val (cs.take (k + 1)) = Frame.val (cs.take k) * 256 + cs[k] := by
  rw [List.take_succ_eq_append_getElem h, Frame.val_snoc]
set_option maxHeartbeats 400000 in
theorem value_some (b off cap : Nat) (cs : List Nat) (w : World) (hl : cs.length ≤ 8) (h : BytesIn w b off cs) :
    Calls Try.prog 45 #[.slice (some ⟨b, off, none⟩) cs.length cap] w fun e w' => e = .returned (.int .u64 (Frame.val cs : Nat)) ∧ w' = w := by
  obtain ⟨hc, hb⟩ := h
  go_enter Try.func45, Try.ntmps45
  go_wp2
  go_loop [3, 5, 8] (fun n c i => ∃ k : Nat, k ≤ cs.length ∧ i = .int .i64 k ∧ n = .int .u64 (Frame.val (cs.take k) : Nat)) (fun _ _ i => cs.length - (intOf i).toNat)
  case atStart => exact ⟨0, Nat.zero_le _, rfl, rfl⟩
  case round =>
    obtain ⟨k, hk, rfl, rfl⟩ := hrel
    by_cases hlt : k < cs.length
    · have hck := hc k hlt
      have HS : Hid (bits BinOp.or IntKind.u64 (IntKind.u64.wrap ((Frame.val (cs.take k) : Nat) * 256)) (IntKind.u64.wrap (cs[k] : Nat)) = ((Frame.val (cs.take (k + 1)) : Nat) : Int)) := by
        have h1 := u64_step (Frame.val (cs.take k)) cs[k] (val_take_lt cs hb k (by omega)) (Frame.mem_lt hb _ (List.getElem_mem hlt))
        rw [← val_take_succ cs k hlt] at h1
        exact h1
      clear hc hb
      go_wp2
      refine ⟨⟨k + 1, by omega, by go_num, by rw [HS.out]⟩, ?_⟩
      simp [intOf]; omega
    · go_wp2
      go_ret
      exact ⟨by rw [show k = cs.length by omega, List.take_length]; rfl, rfl⟩
set_option maxHeartbeats 400000 in
theorem value_none (p : Option Addr) (cap : Nat) (w : World) :
    Calls Try.prog 45 #[.slice p 0 cap] w fun e w' => e = .returned (.int .u64 0) ∧ w' = w := by
  go_enter Try.func45, Try.ntmps45
  go_wp2
  go_loop [3, 5, 8] (fun n c i => i = .int .i64 0 ∧ n = .int .u64 0) (fun _ _ i => 0)
  case atStart => exact ⟨rfl, rfl⟩
  case round =>
    obtain ⟨rfl, rfl⟩ := hrel
    go_wp2
    go_ret
    exact ⟨rfl, rfl⟩
theorem value_any (v : Value) (cs : List Nat) (w : World) (h : SliceIn w v cs) (hl : cs.length ≤ 8) :
    Calls Try.prog 45 #[v] w fun e w' => e = .returned (.int .u64 (Frame.val cs : Nat)) ∧ w = w' := by
  obtain ⟨p, cap, rfl, hl', h⟩ := h
  rcases h with rfl | ⟨b, off, rfl, h⟩
  · exact (value_none p cap w).mono fun e w' h => ⟨h.1, h.2.symm⟩
  · exact (value_some b off cap cs w hl h).mono fun e w' h => ⟨h.1, h.2.symm⟩
theorem sizeHolds_yes (s : Int) (w : World) (h1 : 1 ≤ s) (h2 : s ≤ 8) : Calls Try.prog 35 #[.int .i64 s] w fun e w' => e = .returned (.bool true) ∧ w = w' := by
  go_enter Try.func35, Try.ntmps35
  go_wp2
  go_ret
  exact ⟨rfl, rfl⟩
section
variable {w : World} {ops : Array Oper} {rest : List Oper} {o : Oper} {a : Act} {Q : Exit → Act → World → Prop}
/-- make([]byte, n) -/
theorem wpList_makeN (l c : Operand) (hgd : o.guard = none) (ho : o.op = .makeSlice 28 l c) (base n : Nat) (L C : Int) (hl : a.eval l = .int .i64 L) (hc : a.eval c = .int .i64 C) (hL : L = (n : Int)) (hC : C = (n : Int)) (hn : n ≤ 281474976710656) (hb : base ≤ w.heap.size)
    (h : ∀ v' w', BOwn w' base v' (List.replicate n 0) → Below w.heap.size w w' → wpList Try.prog ops Q rest (a.put o.dst v') w') : wpList Try.prog ops Q (o :: rest) a w := by
  obtain ⟨i, hi, hz0, hz1, hz2⟩ := info_parts info5
  refine wpList_make_full w hgd l c 28 ho base 5 i (.int .u8 0) 1 Try.underlying28 hi hz0 hz1 .i64 .i64 L C n hl hc hL hC (by rw [hz2]; omega) (by unfold maxLen; omega) hb ?_
  intro w' hown hg
  refine h _ w' ?_ ((Below.refl w.heap.size w).grown hg (Nat.le_refl _) fun k hk => by cases hk)
  unfold BOwn
  have e : bcells (List.replicate n 0) = (madeCells (Value.int IntKind.u8 0).cells (n * 1)).toList := by
    apply List.ext_getElem
    · rw [bcells_length]
      simp [madeCells, Value.cells]
    · intro j h1 h2
      simp [bcells, madeCells, Value.cells, Nat.mod_one]
  rw [e, List.length_replicate]
  exact hown
/-- the whole of a row of the call's own written over -/
theorem wpList_copyFull (d s : Operand) (hgd : o.guard = none) (ho : o.op = .call { callee := .builtin .copy, args := #[d, s], argTypes := #[28, 28] })
    (base : Nat) (v vx : Value) (zs cs : List Nat) (hd : a.eval d = v) (hown : BOwn w base v zs) (hs : a.eval s = vx) (hin : SliceIn w vx cs) (hlen : zs.length = cs.length)
    (h : ∀ w' r, BOwn w' base v cs → w.grownBy w' v.ownBlock → wpList Try.prog ops Q rest (a.put o.dst r) w') : wpList Try.prog ops Q (o :: rest) a w := by
  obtain ⟨p, cap, rfl, hl, hin⟩ := hin
  by_cases h0 : cs = []
  · subst h0
    obtain rfl : zs = [] := List.length_eq_zero_iff.1 hlen
    have hg0 : w.grownBy w v.ownBlock := World.grownBy.refl w _
    rcases hown.2 with ⟨rfl, _⟩ | ⟨g, cap', cur, rfl, _⟩
    · exact wpList_copy_nothing hgd d s 28 28 ho 5 Try.underlying28 size5 none p 0 0 _ cap hd hs rfl (h w _ hown hg0)
    · exact wpList_copy_nothing hgd d s 28 28 ho 5 Try.underlying28 size5 _ p _ _ _ cap hd hs rfl (h w _ hown hg0)
  · rcases hin with rfl | ⟨b, off, rfl, hc, _⟩
    · exact absurd rfl h0
    have hpos : 0 < cs.length := by cases cs <;> simp_all
    rcases hown.2 with ⟨rfl, hz⟩ | ⟨g, cap', cur, rfl, hbg, hg, hcap, hmax, hsz, htake⟩
    · omega
    refine wpList_copy_own hgd d s 28 28 ho 5 Try.underlying28 size5 g 0 zs.length cap' ⟨b, off, none⟩ cs.length cap hd hs cur 5 hg (bcells cs) (by rw [bcells_length, hlen]; exact (Nat.min_self _).symm) (fun j u hu => ?_) (by rw [bcells_length]; omega) (bcells_one cs) ?_
    · have hj : j < cs.length := by
        have := (List.getElem?_eq_some_iff.1 hu).1
        rwa [bcells_length] at this
      rw [add_none, hc j hj, ← hu, bcells_at cs j hj]
    · refine h _ _ ⟨by rw [bcells_length]; omega, Or.inr ⟨g, cap', _, by rw [hlen], hbg, setRow_heap w g _ _ 5 (0, 0) hg, by omega, hmax, ?_, ?_⟩⟩ ⟨rfl, rfl, rfl, by simp, fun k _ hk => setRow_other w g k _ (fun e => hk (by rw [e]; rfl))⟩
      · simp [bcells_length]
        omega
      · simp [bcells_length]
theorem wpList_string (x : Operand) (hgd : Region.wanted o (yielded ops a.tmps) = true) (ho : o.op = .convert 28 9 x) (v : Value) (cs : List Nat) (hx : a.eval x = v) (hin : SliceIn w v cs)
    (h : wpList Try.prog ops Q rest (a.put o.dst (.string (strOfNums (cs.map Int.ofNat)))) w) : wpList Try.prog ops Q (o :: rest) a w := by
  refine wpList_value hgd _ w ?_ h
  have hr : (convert 28 9 v).run Try.prog w = .ok (.string (strOfNums (cs.map Int.ofNat))) w := by
    obtain ⟨p, cap, rfl, hl, hin⟩ := hin
    rcases hin with rfl | ⟨b, off, rfl, hc, _⟩
    · cases p with
      | none => exact run_convert_bytes_nil w 28 5 Try.underlying28 Try.underlying5 _ _ 9 Try.underlying9
      | some ad =>
        rw [run_convert_bytes_string w 28 9 5 (some ad) _ cap Try.underlying28 Try.underlying5 Try.underlying9]
        simp [Conv.bytesToString, strOfNums, loadCells]
        rfl
    · refine run_convert_bytes_arg w 28 5 Try.underlying28 Try.underlying5 b off cs.length cap (cs.map Int.ofNat) (by simp) (fun i hi => ?_) 9 Try.underlying9
      rw [hc i hi]
      simp [hi]
  simp [execOp, ho, hx, hr]
set_option maxRecDepth 100000 in
/-- append, and where its result lies: where it lay, or in a new block -/
theorem wpList_append_apart (sv x : Operand) (hgd : Region.wanted o (yielded ops a.tmps) = true) (ho : o.op = .call { callee := .builtin .append, args := #[sv, x], argTypes := #[28, 28] })
    (base : Nat) (v vx : Value) (cs ys : List Nat) (hs : a.eval sv = v) (hown : BOwn w base v cs) (hsome : v.ownBlock ≠ none) (hx : a.eval x = vx) (hin : SliceIn w vx ys)
    (hsz : cs.length + ys.length ≤ 140737488355328) (hbase : base ≤ w.heap.size)
    (h : ∀ v' w', BOwn w' base v' (cs ++ ys) → w.grownBy w' v.ownBlock → (v'.ownBlock = v.ownBlock ∨ v'.ownBlock = some w.heap.size) → wpList Try.prog ops Q rest (a.put o.dst v') w') : wpList Try.prog ops Q (o :: rest) a w := by
  obtain ⟨i, hi, hz0, hz1, hz2⟩ := info_parts info5
  obtain ⟨p, cap, rfl, hl, hin⟩ := hin
  rcases hown.2 with ⟨rfl, h0⟩ | ⟨g, cap', cur, rfl, hbg, hg, hcap, hmax, hcs, htake⟩
  · exact absurd rfl hsome
  have hgo : ∀ ad : Addr, (∀ j u, (bcells ys)[j]? = some u → w.cell? (ad.add j) = some u) → p = some ad → wpList Try.prog ops Q (o :: rest) a w := by
    rintro ad hnews rfl
    have hnl : (bcells ys).length = ys.length * i.size := by rw [bcells_length, hz1]; omega
    obtain ⟨v', w', hr, ho', hgr, _⟩ := run_append_own (P := Try.prog) (w := w) base 28 o.type 5 i (.int .u8 0) 1 1 Try.underlying28 hi hz0 hz1 hz2 rfl (by decide) _ cs.length (bcells cs) hown
      ad ys.length cap (bcells ys) (by simp [bcells_length]) hnews (bcells_one ys) (by unfold maxLen; omega) (by omega) hbase
    have hblk : v'.ownBlock = (Value.slice (some ⟨g, 0, none⟩) cs.length cap').ownBlock ∨ v'.ownBlock = some w.heap.size := by
      by_cases hroom : cs.length + ys.length ≤ cap'
      · have hr2 := run_append_room (P := Try.prog) w 28 o.type 5 i Try.underlying28 hi g cs.length cap' cur hg ad ys.length cap (bcells ys) hnl hnews (bcells_one ys) hroom (by rw [hnl, hz1, hcs]; omega)
        rw [hr] at hr2
        left
        injection hr2 with e1 e2
        rw [e1]
        rfl
      · have hr2 := run_append_grow (P := Try.prog) w 28 o.type 5 i (.int .u8 0) Try.underlying28 hi hz0 ⟨g, 0, none⟩ cs.length cap' (bcells cs) (by rw [bcells_length, hz1]; omega) (hown.cells (g := g) rfl) ad ys.length cap (bcells ys) hnl hnews (by omega) (by omega) (growslice_fits (by omega) (by rw [hz2]; omega))
        rw [hr] at hr2
        right
        injection hr2 with e1 e2
        rw [e1]
        rfl
    refine wpList_value hgd v' w' ?_ (h v' w' ?_ hgr hblk)
    · simp only [execOp, ho, resolve, invoke, builtin, Sem.run_bind, Sem.run_pure, Result.andThen_ok, List.map_toArray, List.map_cons, List.map_nil, hs, hx, hr]
    · unfold BOwn
      rw [bcells_append, List.length_append]
      exact ho'
  rcases hin with rfl | ⟨b, off, rfl, hc, _⟩
  · cases p with
    | none =>
      have hrun : (Builtin.append_ #[28, 28] o.type #[.slice (some ⟨g, 0, none⟩) cs.length cap', .slice none ([] : List Nat).length cap]).run Try.prog w = .ok (.slice (some ⟨g, 0, none⟩) cs.length cap') w := by
        simp [Builtin.append_, run_underlying Try.underlying28, sizeOf, typeInfo, hi, Builtin.lenOf, Builtin.firstCells, hcap, storeCells]
      refine wpList_value hgd _ w ?_ (h _ w ?_ ⟨rfl, rfl, rfl, Nat.le_refl _, fun _ _ _ => rfl⟩ (Or.inl rfl))
      · simp only [execOp, ho, resolve, invoke, builtin, Sem.run_bind, Sem.run_pure, Result.andThen_ok, List.map_toArray, List.map_cons, List.map_nil, hs, hx, hrun]
      · rw [List.append_nil]
        exact hown
    | some ad => exact hgo ad (by intro j u hu; simp [bcells] at hu) rfl
  · refine hgo ⟨b, off, none⟩ (fun j u hu => ?_) rfl
    have hj : j < ys.length := by
      have := (List.getElem?_eq_some_iff.1 hu).1
      rwa [bcells_length] at this
    rw [add_none, hc j hj, ← hu, bcells_at ys j hj]
/-- an element's address -/
theorem wpList_index (x i : Operand) (hgd : Region.wanted o (yielded ops a.tmps) = true) (ho : o.op = .indexAddr 28 x i) (v : Value) (cs : List Nat) (hx : a.eval x = v) (hin : SliceIn w v cs) (k : Nat) (hk : k < cs.length) (I : Int) (hi : a.eval i = .int .i64 I) (hI : I = (k : Int))
    (h : ∀ b j, v.ownBlock = some b → (∀ g n c, v = .slice (some ⟨g, 0, none⟩) n c → b = g ∧ j = k) → w.cell? ⟨b, j, none⟩ = some (.int .u8 (cs.getD k 0 : Nat)) → wpList Try.prog ops Q rest (a.put o.dst (.pointer (some ⟨b, j, none⟩))) w) : wpList Try.prog ops Q (o :: rest) a w := by
  subst hI
  obtain ⟨p, cap, rfl, hl, hin⟩ := hin
  rcases hin with rfl | ⟨b, off, rfl, hc, _⟩
  · simp at hk
  obtain ⟨i5, hi5, hsz⟩ := Option.map_eq_some_iff.1 size5
  refine wpList_value hgd (.pointer (some ⟨b, off + k, none⟩)) w ?_ (h b (off + k) rfl (fun g n c e => ?_) (hc k hk))
  · have hr : (Instr.indexAt 28 (.slice (some ⟨b, off, none⟩) cs.length cap) (.int .i64 (k : Nat))).run Try.prog w = .ok (.pointer (some ⟨b, off + k, none⟩)) w := by
      simp [Instr.indexAt, asIntOf, run_underlying Try.underlying28, hk, sizeOf, typeInfo, hi5, hsz, add_none]
    simp only [execOp, ho, hx, hi, hr, Sem.run_bind, Sem.run_pure, Result.andThen_ok]
  · injection e with e1 e2 e3
    injection e1 with e1
    injection e1 with e4 e5
    exact ⟨e4, by omega⟩
end
theorem BOwn.set {w : World} {base : Nat} {v : Value} {cs : List Nat} (h : BOwn w base v cs) (g : Nat) (hg : v.ownBlock = some g) (k c : Nat) :
    BOwn (w.setCell ⟨g, k, none⟩ (.int .u8 (c : Nat))) base v (cs.set k c) ∧ w.grownBy (w.setCell ⟨g, k, none⟩ (.int .u8 (c : Nat))) v.ownBlock ∧ w.frozen? ⟨g, k, none⟩ = false := by
  rcases h.2 with ⟨rfl, h0⟩ | ⟨g', cap, cur, rfl, hb, hgg, hcap, hmax, hsz, htake⟩
  · cases hg
  obtain rfl : g' = g := by injection hg
  refine ⟨?_, ?_, ?_⟩
  · rw [setCell_eq_setRow w g' k cur 5 (0, 0) _ hgg]
    refine ⟨by rw [bcells_length]; omega, Or.inr ⟨g', cap, _, by rw [List.length_set], hb, setRow_heap w g' _ _ 5 (0, 0) hgg, by rw [List.length_set]; exact hcap, hmax, by simp [hsz], ?_⟩⟩
    rw [List.length_set, Array.toList_setIfInBounds, List.take_set, htake]
    simp [bcells, List.map_set]
  · exact ⟨rfl, rfl, rfl, by simp, fun j _ hne => Below.heap_setCell w _ _ j (fun e => hne (by rw [e]; rfl))⟩
  · simp [World.frozen?, hgg]
section
variable {w : World} {ops : Array Oper} {rest : List Oper} {o : Oper} {a : Act} {Q : Exit → Act → World → Prop}
/-- an element's address in a row of the call's own: it may be written -/
theorem wpList_indexOwn (x i : Operand) (hgd : Region.wanted o (yielded ops a.tmps) = true) (ho : o.op = .indexAddr 28 x i) (base : Nat) (v : Value) (cs : List Nat) (hx : a.eval x = v) (hown : BOwn w base v cs) (hb : ∀ c ∈ cs, c < 256) (k : Nat) (hk : k < cs.length) (I : Int) (hi : a.eval i = .int .i64 I) (hI : I = (k : Int))
    (h : ∀ g, w.cell? ⟨g, k, none⟩ = some (.int .u8 (cs.getD k 0 : Nat)) → w.frozen? ⟨g, k, none⟩ = false → Hid (∀ c : Nat, BOwn (w.setCell ⟨g, k, none⟩ (.int .u8 (c : Nat))) base v (cs.set k c) ∧ w.grownBy (w.setCell ⟨g, k, none⟩ (.int .u8 (c : Nat))) v.ownBlock) → wpList Try.prog ops Q rest (a.put o.dst (.pointer (some ⟨g, k, none⟩))) w) : wpList Try.prog ops Q (o :: rest) a w := by
  refine wpList_index x i hgd ho v cs hx (hown.slice hb) k hk I hi hI ?_
  intro b j hbk hbj hc
  rcases hown.2 with ⟨rfl, h0⟩ | ⟨g, cap, cur, rfl, _⟩
  · omega
  obtain ⟨rfl, rfl⟩ := hbj g _ _ rfl
  exact h b hc (hown.set b rfl j 0).2.2 (fun c => ⟨(hown.set b rfl j c).1, (hown.set b rfl j c).2.1⟩)
end
end Go.Proofs.Ytncjmolhofnpbaa.Fr
namespace Go.Proofs.Ytncjmolhofnpbaa.Fr
open Go.RowKit
set_option maxHeartbeats 400000 in
theorem told_any (v : Value) (cs : List Nat) (w : World) (h : SliceIn w v cs) (hsz : cs.length ≤ 281474976710656) :
    Calls Try.prog 36 #[v] w fun e w' => ∃ v', e = .returned v' ∧ BOwn w' w.heap.size v' cs ∧ Below w.heap.size w w' := by
  go_enter Try.func36, Try.ntmps36
  go_wp2_with (first
    | (refine wpList_len (.tmp 4) rfl rfl v cs rfl h ?_)
    | (refine wpList_makeN (.tmp 5) (.tmp 5) rfl rfl w.heap.size cs.length _ _ rfl rfl rfl rfl hsz (Nat.le_refl _) ?_; intro v1 w1 o1 b1; have O1 : Hid (BOwn w1 w.heap.size v1 (List.replicate cs.length 0)) := o1; have B1 : Hid (Below w.heap.size w w1) := b1; clear o1 b1)
    | (refine wpList_copyFull (.tmp 7) (.tmp 8) rfl rfl w.heap.size v1 v (List.replicate cs.length 0) cs rfl O1.out rfl (h.later B1.out) (by simp) ?_; intro w2 r o2 g2; have O2 : Hid (BOwn w2 w.heap.size v1 cs) := o2; have B2 : Hid (Below w.heap.size w w2) := B1.out.trans (O1.out.below g2 B1.out.size); clear o2 g2))
  go_ret
  exact ⟨_, rfl, O2.out, B2.out⟩
theorem str_inj {xs ys : List Nat} (hx : ∀ c ∈ xs, c < 256) (hy : ∀ c ∈ ys, c < 256) : (strOfNums (xs.map Int.ofNat) = strOfNums (ys.map Int.ofNat)) ↔ xs = ys := by
  constructor
  · intro h
    have h1 := congrArg (fun s => s.data.toList) h
    simp only [strOfNums_data, List.map_map] at h1
    have key : ∀ zs : List Nat, (∀ c ∈ zs, c < 256) → (zs.map ((fun n : Int => UInt8.ofNat n.toNat) ∘ Int.ofNat)).map UInt8.toNat = zs := by
      intro zs hz
      rw [List.map_map]
      conv => rhs; rw [← List.map_id zs]
      apply List.map_congr_left
      intro c hc
      have := hz c hc
      simp [Function.comp]
      omega
    rw [← key xs hx, ← key ys hy, h1]
  · intro h
    rw [h]
theorem grown_trans {w w1 w2 : World} {r : Option Nat} (h : w.grownBy w1 r) (k : w1.grownBy w2 r) : w.grownBy w2 r :=
  ⟨k.os.trans h.os, k.tape.trans h.tape, k.output.trans h.output, Nat.le_trans h.size k.size, fun i hi hne => (k.block i (Nat.lt_of_lt_of_le hi h.size) hne).trans (h.block i hi hne)⟩
theorem grown_below {w w1 : World} {r : Option Nat} (h : Below w.heap.size w w1) : w.grownBy w1 r :=
  ⟨h.os, h.tape, h.output, h.size, fun i hi _ => h.block i hi⟩
theorem grown_last {w w1 w2 : World} {r r' : Option Nat} (h : w.grownBy w1 r) (k : w1.grownBy w2 r') (hr : r' = r ∨ ∃ n, r' = some n ∧ w.heap.size ≤ n) : w.grownBy w2 r := by
  refine ⟨k.os.trans h.os, k.tape.trans h.tape, k.output.trans h.output, Nat.le_trans h.size k.size, fun i hi hne => (k.block i (Nat.lt_of_lt_of_le hi h.size) ?_).trans (h.block i hi hne)⟩
  rcases hr with rfl | ⟨n, rfl, hn⟩
  · exact hne
  · intro e
    injection e with e
    omega
end Go.Proofs.Ytncjmolhofnpbaa.Fr
namespace Go.Proofs.Ytncjmolhofnpbaa.Fr
open Go.RowKit
theorem below_append {a b c : World} (h : Below a.heap.size a b) (k : Below b.heap.size b c) : Below a.heap.size a c := h.trans (k.mono h.size)
set_option maxHeartbeats 400000 in
theorem number_yes (v : Value) (cs : List Nat) (n size : Nat) (w : World) (h : SliceIn w v cs) (h1 : 1 ≤ size) (h8 : size ≤ 8) (hsz : cs.length + size ≤ 140737488355328) :
    Calls Try.prog 21 #[v, .int .u64 (n : Nat), .int .i64 (size : Nat)] w fun e w' => ∃ v', e = .returned v' ∧ BOwn w' w.heap.size v' (cs ++ Frame.be size n) ∧ Below w.heap.size w w' := by
  go_enter Try.func21, Try.ntmps21
  go_wp2_with (first
    | (go_at_call 35; refine (sizeHolds_yes _ _ (by omega) (by omega)).mono ?_; rintro e w' ⟨rfl, rfl⟩)
    | (refine wpList_len (.tmp 12) rfl rfl v cs rfl h ?_)
    | (refine wpList_make0 (.const (.int .i64 0)) (.tmp 15) rfl rfl w.heap.size (cs.length + size) _ rfl rfl (by omega) (by omega) (Nat.le_refl _) ?_; intro v1 w1 o1 b1; have O1 : Hid (BOwn w1 w.heap.size v1 []) := o1; have B1 : Hid (Below w.heap.size w w1) := b1; clear o1 b1)
    | (refine wpList_append (.tmp 16) (.tmp 17) rfl rfl w.heap.size v1 v [] cs rfl O1.out rfl (h.later B1.out) (by simp; omega) B1.out.size ?_; intro v2 w2 o2 b2; have O2 : Hid (BOwn w2 w.heap.size v2 cs) := o2; have B2 : Hid (Below w.heap.size w w2) := B1.out.trans b2; clear o2 b2 O1 B1)
    | (go_at_call 37; refine (lay_any v2 cs n size w.heap.size w2 O2.out B2.out.size h8 hsz).mono ?_; rintro e w3 ⟨v3, rfl, o3, b3⟩; have O3 : Hid (BOwn w3 w.heap.size v3 (cs ++ Frame.be size n)) := o3; have B3 : Hid (Below w.heap.size w w3) := B2.out.trans b3; clear o3 b3 O2 B2))
  go_ret
  exact ⟨_, rfl, O3.out, B3.out⟩
end Go.Proofs.Ytncjmolhofnpbaa.Fr
namespace Go.Proofs.Ytncjmolhofnpbaa.Fr
open Go.RowKit
section
variable {ops : Array Oper} {Q : Exit → Act → World → Prop} {a : Act} {w : World} {listed : Array Bool} {fuel : Nat} {S : World → Prop} {o : Oper}
theorem takeH {i : Nat} (d : Option Tmp) {oi : Oper} {v : Value} (hi : ops[i]? = some oi) (hd : oi.dst = d)
    (hs : Region.noSelect ops = true) (hf : Region.free .any ops listed i = true) (hr : (Region.ready .any ops listed).contains i = true)
    (hQ : ∀ c a w, Q (.panic c) (a.put d v) w → Q (.panic c) a w) (hy : YieldsIf Try.prog ops S oi v a) (hS : S w)
    (h : wpAnyH Try.prog .any ops Q S fuel (listed.setIfInBounds i true) (a.put d v) w) : wpAnyH Try.prog .any ops Q S (fuel + 1) listed a w := by
  subst hd
  exact wpAnyH_take hi hs hf hr hQ hy hS h
theorem oneH {i : Nat} (hr : Region.ready .any ops listed = [i]) (h : wpOp Try.prog ops Q i (fun a' w' => S w' ∧ wpAnyH Try.prog .any ops Q S fuel (listed.setIfInBounds i true) a' w') a w) : wpAnyH Try.prog .any ops Q S (fuel + 1) listed a w :=
  wpAnyH_all (rs := [i]) hr (by simp) fun j hj => by obtain rfl := List.mem_singleton.1 hj; exact h
theorem opCallA {i : Nat} (d : Option Tmp) {K : Act → World → Prop} (hi : ops[i]? = some o) (hd : o.dst = d) (hgd : o.guard = none) (f : Nat) (args : Array Value) (hrun : (execOp a.eval o).run Try.prog w = .ok (.enter f args) w) (h : Calls Try.prog f args w fun e w' => ∃ v, e = .returned v ∧ K (a.put d v) w') : wpOp Try.prog ops Q i K a w := by
  subst hd
  unfold wpOp
  have hw : Region.wanted o (yielded ops a.tmps) = true := by simp [Region.wanted, hgd]
  simp only [hi, hw, if_true, Oper.wp, hrun, Oper.upon]
  refine .inl (Calls.mono h fun e w' he => ?_)
  obtain ⟨v, rfl, hK⟩ := he
  exact hK
theorem yRun (hgd : o.guard = none) (v : Value) (hr : ∀ w, S w → (execOp a.eval o).run Try.prog w = .ok (.value v) w) : YieldsIf Try.prog ops S o v a :=
  Or.inl ⟨by simp [Region.wanted, hgd], hr⟩
theorem yMove (hgd : o.guard = none) (x : Operand) (ho : o.op = .move x) (v : Value) (hv : a.eval x = v) : YieldsIf Try.prog ops S o v a :=
  yRun hgd v fun w _ => by simp [execOp, ho, hv]
theorem yAssign (hgd : o.guard = none) (x : Operand) (ho : o.op = .assign x) (v : Value) (hv : a.eval x = v) : YieldsIf Try.prog ops S o v a :=
  yRun hgd v fun w _ => by simp [execOp, ho, hv]
theorem ySub (hgd : o.guard = none) (x : Operand) (lo hi mx : Option Operand) (ho : o.op = .slice 28 x lo hi mx) (v v' : Value) (hx : a.eval x = v) (hr : ∀ w', (Instr.slice 28 v (lo.map a.eval) (hi.map a.eval) (mx.map a.eval)).run Try.prog w' = .ok v' w') : YieldsIf Try.prog ops S o v' a :=
  yRun hgd v' fun w _ => by
    have hu' : Try.prog.underlying 28 = some (.slice (Try.prog.elem 28)) := by rw [elem22]; exact Try.underlying28
    simp [execOp, ho, hx, run_sliceAt_slice _ _ _ _ _ _ hu', hr]
def EntersF (f : Nat) : Prop := ∀ args w, (callFunc f args).run Try.prog w = .ok (.enter f args) w
theorem enters {f : Nat} {fn : Func} (hf : Try.prog.funcs[f]? = some fn) (hn : (fn.name == "runtime.NumGoroutine") = false) (hb : fn.body.isNone = false) : EntersF f := by
  intro args w
  have h1 : fn.name ≠ "runtime.NumGoroutine" := by simpa using hn
  have hb' : fn.body ≠ none := by intro hn; rw [hn] at hb; cases hb
  simp [callFunc, hf, h1, hb', mark]
theorem en23 : EntersF 45 := enters Try.func45 (by kernel_rfl) (by kernel_rfl)
theorem en24 : EntersF 36 := enters Try.func36 (by kernel_rfl) (by kernel_rfl)
theorem run_call {f : Nat} (ef : EntersF f) (xs : List Operand) (ts : Array TypeId) (ho : o.op = .call { callee := .value (.func f), args := xs.toArray, argTypes := ts }) (vs : List Value) (hv : xs.map a.eval = vs) : (execOp a.eval o).run Try.prog w = .ok (.enter f vs.toArray) w := by
  subst hv
  have hen := ef (xs.map a.eval).toArray w
  simp [execOp, ho, resolve, BigFrame.eval_func, Deferred.ofValue, invoke, hen]
end
theorem below_drawn (w : World) (n : Nat) : Below w.heap.size w { w with drawn := n } := ⟨rfl, rfl, rfl, Nat.le_refl _, fun _ _ => rfl⟩
theorem take_all_drop (cs : List Nat) (l : Nat) : (cs.take cs.length).drop l = cs.drop l := by rw [List.take_length]
end Go.Proofs.Ytncjmolhofnpbaa.Fr
namespace Go.Proofs.Ytncjmolhofnpbaa.Fr
open Go.RowKit
theorem sub_h {w : World} {v : Value} {cs : List Nat} (h : SliceIn w v cs) (n : Nat) (hn : n ≤ cs.length) : ∃ v', (∀ w', (Instr.slice 28 v none (some (.int .i64 (n : Nat))) (some (.int .i64 (n : Nat)))).run Try.prog w' = .ok v' w') ∧ SliceIn w v' (cs.take n) := by
  obtain ⟨v', hr, hs⟩ := run_sub h (lo := none) (hi := some (.int .i64 (n : Nat))) (mx := some (.int .i64 (n : Nat))) (l := 0) (h := n) ⟨Or.inl ⟨rfl, rfl⟩, Or.inr ⟨_, rfl, rfl, Or.inr rfl⟩, Nat.zero_le _, hn⟩
  exact ⟨v', hr, hs⟩
theorem sub_l {w : World} {v : Value} {cs : List Nat} (h : SliceIn w v cs) (n : Nat) (hn : n ≤ cs.length) : ∃ v', (∀ w', (Instr.slice 28 v (some (.int .i64 (n : Nat))) none none).run Try.prog w' = .ok v' w') ∧ SliceIn w v' (cs.drop n) := by
  obtain ⟨v', hr, hs⟩ := run_sub h (lo := some (.int .i64 (n : Nat))) (hi := none) (mx := none) (l := n) (h := cs.length) ⟨Or.inr ⟨_, rfl, rfl⟩, Or.inl ⟨rfl, rfl, rfl⟩, hn, Nat.le_refl _⟩
  exact ⟨v', hr, by rw [take_all_drop] at hs; exact hs⟩
theorem sub_lh {w : World} {v : Value} {cs : List Nat} (h : SliceIn w v cs) (l n : Nat) (hl : l ≤ n) (hn : n ≤ cs.length) : ∃ v', (∀ w', (Instr.slice 28 v (some (.int .i64 (l : Nat))) (some (.int .i64 (n : Nat))) (some (.int .i64 (n : Nat)))).run Try.prog w' = .ok v' w') ∧ SliceIn w v' ((cs.take n).drop l) :=
  run_sub h ⟨Or.inr ⟨_, rfl, rfl⟩, Or.inr ⟨_, rfl, rfl, Or.inr rfl⟩, hl, hn⟩
/-- what Take reads -/
def TakeS (w : World) (va vb : Value) (xs ys : List Nat) (W : World) : Prop := SliceIn W va xs ∧ SliceIn W vb ys ∧ Below w.heap.size w W
set_option maxHeartbeats 400000 in
theorem take_yes (v : Value) (cs : List Nat) (size : Nat) (w : World) (h : SliceIn w v cs) (h1 : 1 ≤ size) (h8 : size ≤ 8) (hl : size ≤ cs.length) (hsz : cs.length ≤ 281474976710656) :
    Calls Try.prog 44 #[v, .int .i64 (size : Nat)] w fun e w' => ∃ v', e = .returned (.tuple #[.int .u64 (Frame.val (cs.take size) : Nat), v', .int .i64 0]) ∧ BOwn w' w.heap.size v' (cs.drop size) ∧ Below w.heap.size w w' := by
  obtain ⟨va, ra, sa⟩ := sub_h h size hl
  obtain ⟨vb, rb, sb⟩ := sub_l h size hl
  have HA : Hid (∀ w', (Instr.slice 28 v none (some (.int .i64 (size : Nat))) (some (.int .i64 (size : Nat)))).run Try.prog w' = .ok va w') := ra
  have HBr : Hid (∀ w', (Instr.slice 28 v (some (.int .i64 (size : Nat))) none none).run Try.prog w' = .ok vb w') := rb
  have HSa : Hid (SliceIn w va (cs.take size)) := sa
  have HSb : Hid (SliceIn w vb (cs.drop size)) := sb
  clear ra rb sa sb
  go_enter Try.func44, Try.ntmps44
  go_wp2_with (first
    | (go_at_call 35; refine (sizeHolds_yes _ _ (by omega) (by omega)).mono ?_; rintro e w' ⟨rfl, rfl⟩)
    | (refine wpList_len (.tmp 12) rfl rfl v cs rfl h ?_))
  refine wp_region_held (S := TakeS w va vb (cs.take size) (cs.drop size)) (by kernel_rfl) ?_
  show wpAnyH _ _ _ _ _ 12 (Array.replicate 12 false) _ _
  have hS : TakeS w va vb (cs.take size) (cs.drop size) { w with drawn := w.drawn + 1 } := ⟨HSa.out.later (below_drawn w _), HSb.out.later (below_drawn w _), below_drawn w _⟩
  refine takeH (i := 0) (some 16) rfl rfl (by kernel_rfl) (by kernel_rfl) (by kernel_rfl) (fun _ _ _ h => h) (yMove rfl (.tmp 0) rfl v rfl) hS ?_
  simp only [Act.put, List.setIfInBounds_toArray, List.set_cons_succ, List.set_cons_zero]
  refine takeH (i := 1) (some 17) rfl rfl (by kernel_rfl) (by kernel_rfl) (by kernel_rfl) (fun _ _ _ h => h) (yMove rfl (.tmp 1) rfl (.int .i64 (size : Nat)) rfl) hS ?_
  simp only [Act.put, List.setIfInBounds_toArray, List.set_cons_succ, List.set_cons_zero]
  refine takeH (i := 2) (some 18) rfl rfl (by kernel_rfl) (by kernel_rfl) (by kernel_rfl) (fun _ _ _ h => h) (yMove rfl (.tmp 1) rfl (.int .i64 (size : Nat)) rfl) hS ?_
  simp only [Act.put, List.setIfInBounds_toArray, List.set_cons_succ, List.set_cons_zero]
  refine takeH (i := 3) (some 19) rfl rfl (by kernel_rfl) (by kernel_rfl) (by kernel_rfl) (fun _ _ _ h => h) (ySub rfl (.tmp 16) none (some (.tmp 17)) (some (.tmp 18)) rfl v va rfl HA.out) hS ?_
  simp only [Act.put, List.setIfInBounds_toArray, List.set_cons_succ, List.set_cons_zero]
  refine takeH (i := 5) (some 21) rfl rfl (by kernel_rfl) (by kernel_rfl) (by kernel_rfl) (fun _ _ _ h => h) (yMove rfl (.tmp 0) rfl v rfl) hS ?_
  simp only [Act.put, List.setIfInBounds_toArray, List.set_cons_succ, List.set_cons_zero]
  refine takeH (i := 6) (some 22) rfl rfl (by kernel_rfl) (by kernel_rfl) (by kernel_rfl) (fun _ _ _ h => h) (yMove rfl (.tmp 1) rfl (.int .i64 (size : Nat)) rfl) hS ?_
  simp only [Act.put, List.setIfInBounds_toArray, List.set_cons_succ, List.set_cons_zero]
  refine takeH (i := 7) (some 23) rfl rfl (by kernel_rfl) (by kernel_rfl) (by kernel_rfl) (fun _ _ _ h => h) (ySub rfl (.tmp 21) (some (.tmp 22)) none none rfl v vb rfl HBr.out) hS ?_
  simp only [Act.put, List.setIfInBounds_toArray, List.set_cons_succ, List.set_cons_zero]
  refine oneH (i := 4) (by kernel_rfl) ?_
  refine opCallA (some 20) rfl rfl rfl 45 _ (run_call en23 [.tmp 19] _ rfl [va] rfl) ?_
  refine (value_any va (cs.take size) _ hS.1 (by simp; omega)).mono ?_
  rintro e w1 ⟨rfl, hw1⟩
  rw [← hw1]
  refine ⟨_, rfl, hS, ?_⟩
  clear hw1
  simp only [Act.put, List.setIfInBounds_toArray, List.set_cons_succ, List.set_cons_zero]
  refine oneH (i := 8) (by kernel_rfl) ?_
  refine opCallA (some 24) rfl rfl rfl 36 _ (run_call en24 [.tmp 23] _ rfl [vb] rfl) ?_
  refine (told_any vb (cs.drop size) _ hS.2.1 (by simp; omega)).mono ?_
  rintro e w2 ⟨v2, rfl, o2, b2⟩
  have hS2 : TakeS w va vb (cs.take size) (cs.drop size) w2 := ⟨hS.1.later b2, hS.2.1.later b2, below_append hS.2.2 b2⟩
  have O2 : Hid (BOwn w2 w.heap.size v2 (cs.drop size)) := o2.weaken hS.2.2.size
  refine ⟨_, rfl, hS2, ?_⟩
  clear hS o2 b2
  simp only [Act.put, List.setIfInBounds_toArray, List.set_cons_succ, List.set_cons_zero]
  refine takeH (i := 9) (some 4) rfl rfl (by kernel_rfl) (by kernel_rfl) (by kernel_rfl) (fun _ _ _ h => h) (yAssign rfl (.tmp 20) rfl (.int .u64 (Frame.val (cs.take size) : Nat)) rfl) hS2 ?_
  simp only [Act.put, List.setIfInBounds_toArray, List.set_cons_succ, List.set_cons_zero]
  refine takeH (i := 10) (some 5) rfl rfl (by kernel_rfl) (by kernel_rfl) (by kernel_rfl) (fun _ _ _ h => h) (yAssign rfl (.tmp 24) rfl v2 rfl) hS2 ?_
  simp only [Act.put, List.setIfInBounds_toArray, List.set_cons_succ, List.set_cons_zero]
  refine takeH (i := 11) (some 6) rfl rfl (by kernel_rfl) (by kernel_rfl) (by kernel_rfl) (fun _ _ _ h => h) (yAssign rfl (.const (.int .i64 0)) rfl (.int .i64 0) rfl) hS2 ?_
  simp only [Act.put, List.setIfInBounds_toArray, List.set_cons_succ, List.set_cons_zero]
  refine wpAnyH_done (by kernel_rfl) ?_ _
  have B2 : Hid (Below w.heap.size w w2) := hS2.2.2
  clear hS2
  go_wp2
  go_ret3
  exact ⟨v2, rfl, O2.out, B2.out⟩
set_option maxHeartbeats 400000 in
theorem take_short (v : Value) (cs : List Nat) (size : Nat) (w : World) (h : SliceIn w v cs) (h1 : 1 ≤ size) (h8 : size ≤ 8) (hl : cs.length < size) :
    Calls Try.prog 44 #[v, .int .i64 (size : Nat)] w fun e w' => e = .returned (.tuple #[.int .u64 0, .slice none 0 0, .int .i64 40]) ∧ w = w' := by
  go_enter Try.func44, Try.ntmps44
  go_wp2_with (first
    | (go_at_call 35; refine (sizeHolds_yes _ _ (by omega) (by omega)).mono ?_; rintro e w' ⟨rfl, rfl⟩)
    | (refine wpList_len (.tmp 12) rfl rfl v cs rfl h ?_))
  go_ret3
  exact ⟨rfl, rfl⟩
end Go.Proofs.Ytncjmolhofnpbaa.Fr

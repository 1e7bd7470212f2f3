/- The walk of the document's own More, bit by bit, over bytes in memory. Layer 9: whatever a disk has. Layer 9: sectors that a law makes, and a disk that it writes. Layer 9: PagerWhatever, walked. Layer 9: eight bytes that come in. For every eight bytes that are laid into a disk's first sectors with their sum set right, and every list of sectors that are written over it: Format makes a pager of it, without pages, and it serves: the law PagerWhatever returns true and changes nothing that was there. Condition: the table crc.halves starts as the program's text lays it (the card ties it). -/
import Derived.Test.YtcpnlccajcpjmaaDoorZ14
import Derived.Test.YtcpnlccajcpjmaaDoorZ35
import Derived.Test.YtcpnlccajcpjmaaDoorZ36
namespace Go.Proofs.YtcpnlccajcpjmaaDoor.Fr
open Go.RowKit

attribute [local go_sem] Crc.U_byte in
set_option maxHeartbeats 400000 in
theorem ref_some (s : BitVec 32) (b off cap : Nat) (cs : List Nat) (w : World) (hmax : cs.length ≤ 9223372036854775807)
    (hc : BytesIn w b off cs)  :
    Calls Tryd.prog 61 #[.int .u32 (Crc.U s), .slice (some ⟨b, off, none⟩) cs.length cap] w fun e w' => e = .returned (.int .u32 (Crc.U (Crc.more s cs))) ∧ w' = w := by
  obtain ⟨hc, hb⟩ := hc
  go_enter Tryd.func61, Tryd.ntmps61
  go_wp2
  go_loop [5, 6, 7] (fun r i _ => ∃ k : Nat, k ≤ cs.length ∧ i = .int .i64 k ∧ r = .int .u32 (Crc.U (Crc.run (~~~ s) (cs.take k)))) (fun _ i _ => cs.length - (intOf i).toNat)
  case atStart => exact ⟨0, Nat.zero_le _, rfl, by rw [Crc.U_not]; rfl⟩
  case round =>
    obtain ⟨k, hk, rfl, rfl⟩ := hrel
    by_cases hlt : k < cs.length
    · have hck := hc k hlt
      clear hc hb
      go_wp2
      go_loop [5, 7] (fun r i => ∃ m : Nat, m ≤ 8 ∧ i = .int .i64 m ∧ r = .int .u32 (Crc.U (Crc.steps m (Crc.run (~~~ s) (cs.take k) ^^^ BitVec.ofNat 32 cs[k])))) (fun _ i => 8 - (intOf i).toNat)
      case atStart => exact ⟨0, Nat.zero_le _, rfl, rfl⟩
      case round =>
        obtain ⟨m, hm, rfl, rfl⟩ := hrel
        by_cases hmt : m < 8
        · have hss := Crc.steps_succ m (Crc.run (~~~ s) (cs.take k) ^^^ BitVec.ofNat 32 cs[k])
          generalize Crc.steps m (Crc.run (~~~ s) (cs.take k) ^^^ BitVec.ofNat 32 cs[k]) = x at *
          have HS : Hid (Crc.steps (m + 1) (Crc.run (~~~ s) (cs.take k) ^^^ BitVec.ofNat 32 cs[k]) = Crc.step x) := hss
          clear hss hck
          have hbt := Crc.U_mod2 x
          cases hbit : x.getLsbD 0
          · rw [hbit] at hbt
            have HB : Hid (Crc.U x / (2 : Int) = Crc.U (Crc.step x)) := Crc.U_even x hbit
            clear hbit
            go_wp2
            go_round
            case rel => exact ⟨m + 1, by omega, by go_num, by rw [HS.out, HB.out]⟩
            case measure => simp [intOf]; omega
          · rw [hbit] at hbt
            have HB : Hid (bits .xor .u32 (Crc.U x / (2 : Int)) 3988292384 = Crc.U (Crc.step x)) := Crc.U_odd x hbit
            clear hbit
            go_wp2
            go_round
            case rel => exact ⟨m + 1, by omega, by go_num, by rw [HS.out, HB.out]⟩
            case measure => simp [intOf]; omega
        · have e8 : m = 8 := by omega
          subst e8
          go_wp2
          go_round
          case rel => exact ⟨k + 1, by omega, by go_num, by rw [List.take_succ_eq_append_getElem hlt, Crc.run_snoc]; rfl⟩
          case measure => simp [intOf]; omega
    · go_wp2
      go_ret
      refine ⟨?_, rfl⟩
      rw [Crc.U_not, show k = cs.length by omega, List.take_length]
      rfl
set_option maxHeartbeats 400000 in
theorem ref_none (s : BitVec 32) (p : Option Addr) (cap : Nat) (w : World) :
    Calls Tryd.prog 61 #[.int .u32 (Crc.U s), .slice p 0 cap] w fun e w' => e = .returned (.int .u32 (Crc.U s)) ∧ w' = w := by
  go_enter Tryd.func61, Tryd.ntmps61
  go_wp2
  go_loop [5, 6, 7] (fun r i _ => i = .int .i64 0 ∧ r = .int .u32 (bits .xor .u32 IntKind.u32.max (Crc.U s))) (fun _ _ _ => 0)
  case atStart => exact ⟨rfl, rfl⟩
  case round =>
    obtain ⟨rfl, rfl⟩ := hrel
    go_wp2
    go_ret
    exact ⟨by rw [Crc.U_not, Crc.U_not, BitVec.not_not]; rfl, rfl⟩

theorem ref_any0 (v : Value) (cs : List Nat) (w : World) (h : SliceIn w v cs) :
    Calls Tryd.prog 61 #[.int .u32 0, v] w fun e w' => e = .returned (.int .u32 (Frame.crc cs : Nat)) ∧ w = w' := by
  rw [show (0 : Int) = Crc.U 0#32 by decide, ← U_crc]
  obtain ⟨p, cap, rfl, hl, h⟩ := h
  rcases h with rfl | ⟨b, off, rfl, h⟩
  · rw [Crc.more_nil]
    exact (ref_none 0#32 p cap w).mono fun e w' h => ⟨h.1, h.2.symm⟩
  · exact (ref_some 0#32 b off cap cs w hl.2 h).mono fun e w' h => ⟨h.1, h.2.symm⟩

theorem refsum_any (v : Value) (cs : List Nat) (w : World) (h : SliceIn w v cs) :
    Calls Tryd.prog 32 #[v] w fun e w' => e = .returned (.int .u32 (Frame.crc cs : Nat)) ∧ w = w' := by
  go_enter Tryd.func32, Tryd.ntmps32
  go_wp2_with fail
  refine (ref_any0 v cs _ h).mono ?_
  rintro e w' ⟨rfl, rfl⟩
  go_wp2
  go_ret
  exact ⟨rfl, rfl⟩

/-! lay -/
end Go.Proofs.YtcpnlccajcpjmaaDoor.Fr

namespace Go.Proofs.YtcpnlccajcpjmaaDoor
open Go.RowKit Go.Maps

theorem secAt_join8 (f : Nat → List Nat) (h : ∀ j, (f j).length = 64) : ∀ k j, j < k → secAt (join8 f k) j = f j := by
  intro k
  induction k with
  | zero => intro j hj; exact absurd hj (Nat.not_lt_zero _)
  | succ k ih =>
    intro j hj
    have hl := join8_length f h k
    rw [join8]
    rcases Nat.lt_or_ge j k with h1 | h1
    · have h2 := ih j h1
      unfold secAt at h2 ⊢
      rw [List.drop_append_of_le_length (by omega), List.take_append_of_le_length (by rw [List.length_drop]; omega)]
      exact h2
    · have e : j = k := by omega
      subst e
      unfold secAt
      rw [← hl, List.drop_left, List.take_of_length_le (by rw [h j]; exact Nat.le_refl _)]
/-- whatever a disk has: where it has a pager, it is one -/
theorem PgO.of_last {m : Pl} {i n : Nat} {L : Hd} (hlv : Lv m i) (hw : m.wt i = []) (hpg : n = pagesN (m.size i)) (hpos : 1 ≤ n) (h : lastOf (m.rd i) n = some L) : PgO m i n L L.used (pageAt m i) := by
  have hh := PgH.of_last hlv.wf hw h
  have hs : ∀ p j, j < 8 → secAt (pageAt m i p) j = m.rd i (placeP p j) := fun p j hj => secAt_join8 (fun j => m.rd i (placeP p j)) (fun j => (Pl.rd_sec hlv.wf i _).1) 8 j hj
  refine ⟨⟨hlv.wf, hlv.lt, hlv.disk, hpg, hpos, hh, fun p hp hb j hj => ?_, fun p => ⟨join8_length _ (fun j => (Pl.rd_sec hlv.wf i _).1) 8, join8_lt (fun j => (Pl.rd_sec hlv.wf i _).2) 8⟩⟩, hlv.on, hh.lwf.used, hh.holds.1, fun p hp hb j hj => (hs p j hj).symm⟩
  rw [hs p j hj]
  exact Firm.of_rd hw
theorem rot_same (m : Pl) (d p a y : Int) : (m.rot d p a y).2.sh = m.sh ∧ (m.rot d p a y).2.on = m.on ∧ (m.rot d p a y).2.fuse = m.fuse ∧ (m.rot d p a y).2.steps = m.steps ∧ ∀ i, (m.rot d p a y).2.wt i = m.wt i := by
  unfold Pl.rot
  split <;> exact ⟨rfl, rfl, rfl, rfl, fun _ => rfl⟩
section
variable {w W W' : World} {c : Nat → Colour} {gp g : Nat} {m m' : Pl} {ds ts : List Nat} {i n : Nat} {L : Hd} {U : List Nat} {X : Nat → List Nat} {K : Nat}
theorem PlW.lv (h : PlW w W c g m ds ts K) (hi : i < ds.length) (hon : m.on = true) : Lv m i := ⟨h.live.2.1, hon, by rw [h.shape.n]; omega, (h.shape.disk i hi).1⟩
theorem PlW.rot (h : PlW w W c g m ds ts K) (d p a y : Int) : Calls Tryd.prog 30 #[ptr g, .int .i64 d, .int .i64 p, .int .i64 a, .int .i64 y] W fun e W' => ∃ b c' m', e = .returned (.bool b) ∧ PlW w W' c' g m' ds ts K ∧ m'.on = m.on ∧ m'.fuse = m.fuse ∧ ∀ i, m'.wt i = m.wt i := by
  obtain ⟨h1, h2, h3, h4, h5⟩ := rot_same m d p a y
  refine (h.live.rot d p a y).mono fun e W' he => ?_
  obtain ⟨c', _, _, k3⟩ := h.nx he.2.nx h1 (K' := K) (by rw [h4]; exact h.le) 0
  exact ⟨_, c', _, he.1, k3, h2, h3, h5⟩
theorem PlW.openAny (h : PlW w W c g m ds ts K) (hK : K ≤ 1000000000000) (hi : 0 < ds.length) (hlv : Lv m 0) (hw : m.wt 0 = []) (hn : n = pagesN (ds.getD 0 0)) (hn1 : 1 ≤ n) : Calls Tryd.prog 13 #[ptr g, .int .i64 0] W fun e W' => (e = .returned (.tuple #[.pointer none, .int .i64 4]) ∧ Below W.heap.size W W') ∨ ∃ gp L, e = .returned (.tuple #[ptr gp, .int .i64 0]) ∧ Below W.heap.size W W' ∧ PgW w W' c gp g m ds ts 0 n L L.used (pageAt m 0) K := by
  cases hl : lastOf (m.rd 0) n with
  | none => exact (h.openNone (i := 0) hK hi hlv.on hn hn1 hl).mono fun e W' he => Or.inl he
  | some L =>
    refine (h.openZ hK hi (PgO.of_last hlv hw (by rw [(h.shape.disk 0 hi).2]; exact hn) hn1 hl)).mono ?_
    rintro e W' ⟨gp, h1, h2, h3⟩
    exact Or.inr ⟨gp, L, h1, h2, h3⟩
theorem PgW.rootB (h : PgW w W c gp g m ds ts i n L U X K) : -1 ≤ L.root ∧ L.root < n := by
  have hp := h.o.c.pos
  have h3 := h.n384
  rcases h.o.c.h.holds.2 with h1 | h1
  · omega
  · have hb := hasP_bound h1
    refine ⟨by omega, ?_⟩
    rcases Int.lt_or_le L.root n with h2 | h2
    · exact h2
    · have e : L.root = ((L.root.toNat : Nat) : Int) := by omega
      have h4 := h.o.c.h.holds.1 L.root.toNat (by omega) (by omega)
      rw [e, hasP_nat L.used _ (by omega), h4] at h1
      cases h1
theorem PgW.reads (h : PgW w W c gp g m ds ts i n L U X K) (hK : K ≤ 1000000000000) (p : Int) : Calls Tryd.prog 28 #[ptr gp, .int .i64 p] W fun e W' => ∃ (pv : Option Addr) (nv cv : Nat) (er : Int), e = .returned (.tuple #[.slice pv nv cv, .int .i64 er]) ∧ PgW w W' c gp g m ds ts i n L U X K ∧ ((er = 90 ∧ nv = 0) ∨ (er = 4 ∧ nv = 0) ∨ (er = 0 ∧ nv ≤ 500)) := by
  refine (h.read hK p).mono ?_
  rintro e W' ⟨h1, ⟨_, h2⟩ | ⟨_, _, h2⟩ | ⟨v, _, h3, h4, h5⟩⟩
  · exact ⟨none, 0, 0, 90, h2, h.bel h1, Or.inl ⟨rfl, rfl⟩⟩
  · exact ⟨none, 0, 0, 4, h2, h.bel h1, Or.inr (Or.inl ⟨rfl, rfl⟩)⟩
  · obtain ⟨q, rfl, _, _⟩ := h4
    refine ⟨_, _, _, 0, h5, h.bel h1, Or.inr (Or.inr ⟨rfl, ?_⟩)⟩
    unfold readV at h3
    have h6 := of_decide_eq_true (Bool.and_eq_true _ _ ▸ h3).1
    unfold imBytes
    rw [List.length_take]
    omega
theorem PgW.putAny (h : PgW w W c gp g m ds ts i n L U X K) (hK : K ≤ 1000000000000) (hf : m.fuse < 0) (v : Value) (b : List Nat) (hv : SliceIn W v b) : Calls Tryd.prog 15 #[ptr gp, v] W fun e W' => ∃ (k : Nat) (er : Int) (c' : Nat → Colour) (m' : Pl) (U' : List Nat) (X' : Nat → List Nat), e = .returned (.tuple #[.int .i64 (k : Nat), .int .i64 er]) ∧ m'.fuse < 0 ∧ PgW w W' c' gp g m' ds ts i n L U' X' (K + 8) := by
  refine (h.putC hK hf v b hv).mono ?_
  rintro e W' ⟨c', _, ⟨_, h2, h3⟩ | ⟨_, _, h2, h3⟩ | ⟨p, m', _, _, h2, h4, h3⟩⟩
  · exact ⟨0, 5, c', m, U, X, h2, hf, h3.mono (by omega)⟩
  · exact ⟨0, 3, c', m, U, X, h2, hf, h3.mono (by omega)⟩
  · exact ⟨p, 0, c', m', _, _, h2, h4, h3⟩
end
theorem rootNone (U : List Nat) : rootOk U (-1) = true := rfl
/-- turns of three numbers -/
def TurnsIn (W : World) (v : Value) (bs : List (Int × Int × Int)) : Prop :=
  ∃ p cap, v = .slice p bs.length cap ∧ bs.length ≤ 9223372036854775807 ∧ (bs = [] ∨ ∃ b off, p = some ⟨b, off, none⟩ ∧ ∀ i, i < bs.length → W.cell? ⟨b, off + i * 3 + 0, none⟩ = some (.int .i64 (bs.getD i default).1) ∧ W.cell? ⟨b, off + i * 3 + 1, none⟩ = some (.int .i64 (bs.getD i default).2.1) ∧ W.cell? ⟨b, off + i * 3 + 2, none⟩ = some (.int .i64 (bs.getD i default).2.2))
theorem TurnsIn.at {w : World} {p : Option Addr} {n cap : Nat} {bs : List (Int × Int × Int)} (h : TurnsIn w (.slice p n cap) bs) (i : Nat) (hi : i < bs.length) : ∃ (b off : Nat) (x0 x1 x2 : Int), p = some ⟨b, off, none⟩ ∧ ∀ W, Below w.heap.size w W → W.cell? ⟨b, off + i * 3 + 0, none⟩ = some (.int .i64 x0) ∧ W.cell? ⟨b, off + i * 3 + 1, none⟩ = some (.int .i64 x1) ∧ W.cell? ⟨b, off + i * 3 + 2, none⟩ = some (.int .i64 x2) := by
  obtain ⟨p', cap', h1, _, h3⟩ := h
  injection h1 with h1 h1'
  subst h1
  rcases h3 with h3 | ⟨b, off, h4, h5⟩
  · rw [h3] at hi; exact absurd hi (Nat.not_lt_zero _)
  · obtain ⟨h6, h7, h8⟩ := h5 i hi
    refine ⟨b, off, (bs.getD i default).1, (bs.getD i default).2.1, (bs.getD i default).2.2, h4, fun W hW => ?_⟩
    have hk := hW.block b (block_lt_of_cell h6)
    exact ⟨(World.cell?_of_block hk).trans h6, (World.cell?_of_block hk).trans h7, (World.cell?_of_block hk).trans h8⟩
theorem TurnsIn.len {w : World} {p : Option Addr} {n cap : Nat} {bs : List (Int × Int × Int)} (h : TurnsIn w (.slice p n cap) bs) : n = bs.length ∧ n ≤ 9223372036854775807 := by
  obtain ⟨p', cap', h1, h2, _⟩ := h
  injection h1 with h1 h3 h4
  exact ⟨h3, by omega⟩
theorem sl56 : Tryd.prog.underlying 56 = some (.slice (Tryd.prog.elem 56)) := by kernel_rfl
theorem info58 : (Tryd.prog.info? 58).map (·.size) = some 3 := by kernel_rfl
theorem info3s : (Tryd.prog.info? 3).map (·.size) = some 1 := by kernel_rfl
theorem arr58 : Tryd.prog.underlying 58 = some (.array 3 3) := by kernel_rfl
section
variable {w : World} {a : Act} {o : Oper}
theorem run_ix56 (x i : Operand) (ho : o.op = .indexAddr 56 x i) (g off n cap j : Nat) (hx : a.eval x = .slice (some ⟨g, off, none⟩) n cap) (hi : a.eval i = .int .i64 (j : Nat)) (hj : j < n) : (execOp a.eval o).run Tryd.prog w = .ok (.value (.pointer (some ⟨g, off + j * 3, none⟩))) w := by
  obtain ⟨i5, hi5, hsz⟩ := Option.map_eq_some_iff.1 info58
  simp [execOp, ho, hx, hi, Instr.indexAt, asIntOf, run_underlying Tryd.underlying56, hj, sizeOf, typeInfo, hi5, hsz, add_none]
theorem run_ix58 (x i : Operand) (ho : o.op = .indexAddr 58 x i) (g off j : Nat) (hx : a.eval x = .pointer (some ⟨g, off, none⟩)) (hi : a.eval i = .int .i64 (j : Nat)) (hj : j < 3) : (execOp a.eval o).run Tryd.prog w = .ok (.value (.pointer (some ⟨g, off + j, none⟩))) w := by
  obtain ⟨i5, hi5, hsz⟩ := Option.map_eq_some_iff.1 info3s
  simp [execOp, ho, hx, hi, Instr.indexAt, asIntOf, run_underlying arr58, Instr.sureAddr, hj, sizeOf, typeInfo, hi5, hsz, add_none]
end
end Go.Proofs.YtcpnlccajcpjmaaDoor

namespace Go.Proofs.YtcpnlccajcpjmaaDoor
open Go.RowKit Go.Maps

theorem arr60 : Tryd.prog.underlying 60 = some (.array 8 5) := by kernel_rfl
theorem s5b : (Tryd.prog.info? 5).map (·.size) = some 1 := by kernel_rfl
def S64 (s : List Nat) : Prop := s.length = 64 ∧ ∀ c ∈ s, c < 256
section
variable {w : World} {a : Act} {o : Oper}
theorem run_rem14 (x : Operand) (ho : o.op = .binOp .rem 3 x (.const (.int .i64 14)) 3) (p : Nat) (hx : a.eval x = .int .i64 (p : Nat)) : (execOp a.eval o).run Tryd.prog w = .ok (.value (.int .i64 ((p % 14 : Nat) : Int))) w := by
  have e : (a.eval (.const (.int .i64 14))) = .int .i64 14 := rfl
  simp only [execOp, ho, hx, e]
  simp [go_sem]
  exact Int.tmod_eq_emod_of_nonneg (by omega)
theorem run_shr32 (x : Operand) (k : Nat) (hk : k = 8 ∨ k = 16 ∨ k = 24) (ho : o.op = .binOp .shr 62 x (.const (.int .u64 (k : Nat))) 64) (n : Nat) (hx : a.eval x = .int .u32 (n : Nat)) : (execOp a.eval o).run Tryd.prog w = .ok (.value (.int .u32 ((n / 2 ^ k : Nat) : Int))) w := by
  have e : (a.eval (.const (.int .u64 (k : Nat)))) = .int .u64 (k : Nat) := rfl
  have hb : (binOp .shr 62 (.int .u32 (n : Nat)) (.int .u64 (k : Nat))).run Tryd.prog w = .ok (.int .u32 ((n / 2 ^ k : Nat) : Int)) w := by
    rcases hk with rfl | rfl | rfl <;> simp [go_sem]
  have e2 : (eqGuard .shr 62 x (.const (.int .u64 (k : Nat))) (.int .u32 (n : Nat)) (.int .u64 (k : Nat))).run Tryd.prog w = .ok () w := rfl
  simp only [execOp, ho, hx, e, e2, hb, Sem.run_bind, Sem.run_pure, Result.andThen_ok]
theorem run_byte32 (x : Operand) (ho : o.op = .convert 62 5 x) (n : Nat) (hx : a.eval x = .int .u32 (n : Nat)) : (execOp a.eval o).run Tryd.prog w = .ok (.value (.int .u8 ((n % 256 : Nat) : Int))) w := by
  have h : (convert 62 5 (.int .u32 (n : Nat))).run Tryd.prog w = .ok (.int .u8 ((n % 256 : Nat) : Int)) w := by
    simp [go_sem, IntKind.wrap, IntKind.signed, IntKind.bits]
  simp only [execOp, ho, hx, h, Sem.run_bind, Sem.run_pure, Result.andThen_ok]
end
/-- a byte laid -/
theorem Loc.putb {w0 W : World} {b : Nat} {s : List Nat} (h : Loc w0 W [(b, 5, bcells s)]) (hs : S64 s) (j : Nat) (hj : j < 64) (x : Nat) (hx : x < 256) : ∃ W' s', (∀ (a : Act) (o : Oper) (p q : Operand), o.op = .store 5 p q → a.eval p = .pointer (some ⟨b, 0 + j, none⟩) → a.eval q = .int .u8 (x : Nat) → (execOp a.eval o).run Tryd.prog W = .ok .skip W') ∧ Loc w0 W' [(b, 5, bcells s')] ∧ S64 s' := by
  refine ⟨_, s.set j x, fun a o p q ho hp hq => (run_put1 s5b p q ho h 0 rfl (0 + j) hp _ hq ⟨rfl, rfl⟩ (by rw [bcells_length, hs.1]; omega)).1, ?_, ?_⟩
  · have h2 := h.put 0 rfl (0 + j) (.int .u8 (x : Nat))
    have e : (bcells s).set (0 + j) (.int .u8 (x : Nat)) = bcells (s.set j x) := by
      unfold bcells
      rw [Nat.zero_add, List.map_set]
    rw [e] at h2
    exact h2
  · refine ⟨by rw [List.length_set]; exact hs.1, fun c hc => ?_⟩
    rcases List.mem_or_eq_of_mem_set hc with h1 | h1
    · exact hs.2 c h1
    · omega
/-- bytes copied, as many as there is room for -/
theorem Loc.copyb {w0 W : World} {b : Nat} {s : List Nat} (h : Loc w0 W [(b, 5, bcells s)]) (hs : S64 s) (v : Value) (cs : List Nat) (hv : SliceIn W v cs) : ∃ W' s' k, (∀ (a : Act) (o : Oper) (p q : Operand), o.op = .call { callee := .builtin .copy, args := #[p, q], argTypes := #[38, 38] } → a.eval p = .slice (some ⟨b, 0, none⟩) 64 64 → a.eval q = v → (execOp a.eval o).run Tryd.prog W = .ok (.value (.int .i64 (k : Nat))) W') ∧ Loc w0 W' [(b, 5, bcells s')] ∧ S64 s' := by
  have hlt := hv.lt256
  obtain ⟨p, cap, rfl, hl, hin⟩ := hv
  rcases hin with rfl | ⟨sb, so, rfl, hb⟩
  · refine ⟨W, s, 0, fun a o d q ho hp hq => ?_, h, hs⟩
    have hr := run_copy_none (P := Tryd.prog) W 38 38 o.type 5 (some ⟨b, 0, none⟩) p 64 64 0 cap Tryd.underlying38 info5 (by show min 0 64 = 0; omega)
    have hs' : a.eval q = .slice p 0 cap := hq
    simp [execOp, ho, resolve, invoke, builtin, hp, hs', hr, Result.andThen, goInt]
  · obtain ⟨c, hc⟩ : ∃ c, c = cs.take 64 := ⟨_, rfl⟩
    have hcl : c.length = min cs.length 64 := by rw [hc, List.length_take]; omega
    have hsrc : ∀ j, j < c.length → W.cell? ⟨sb, so + j, none⟩ = some (.int .u8 (c.getD j 0 : Nat)) := fun j hj => by
      rw [hb.1 j (by omega), hc, List.getD_eq_getElem?_getD, List.getD_eq_getElem?_getD, List.getElem?_take_of_lt (by omega)]
    have hx : splice (bcells s) 0 (bcells c) = bcells (c ++ s.drop c.length) := by
      simp [splice, bcells, List.map_drop]
    have h2 := h.lay 0 rfl 0 (bcells c)
    rw [hx] at h2
    refine ⟨_, c ++ s.drop c.length, c.length, fun a o d q ho hp hq => ?_, h2, ?_⟩
    · have h3 := (run_copyL d q ho h 0 rfl 0 64 64 sb so cs.length cap c.length hp hq c rfl (by first | (rw [hcl]; done) | (rw [hcl]; rfl)) hsrc (by rw [bcells_length, hs.1]; omega)).1
      rw [hx] at h3
      exact h3
    · refine ⟨by rw [List.length_append, List.length_drop, hs.1]; omega, fun y hy => ?_⟩
      rcases List.mem_append.1 hy with h1 | h1
      · rw [hc] at h1
        exact hlt y (List.mem_of_mem_take h1)
      · exact hs.2 y (List.mem_of_mem_drop h1)
theorem Loc.sl {w0 W : World} {b : Nat} {s : List Nat} (h : Loc w0 W [(b, 5, bcells s)]) (hs : S64 s) : SliceIn W (.slice (some ⟨b, 0, none⟩) 64 64) s := by
  have hr := h.at 0 rfl
  refine ⟨some ⟨b, 0, none⟩, 64, by rw [hs.1], ⟨by rw [hs.1]; exact Nat.le_refl _, by rw [hs.1]; decide⟩, Or.inr ⟨b, 0, rfl, fun j hj => ?_, lt256 s hs.2⟩⟩
  rw [Nat.zero_add, hr.at j _ (bcells_at s j hj)]
section
variable {w W W' : World} {c : Nat → Colour} {g : Nat} {m : Pl} {K : Nat}
/-- a plant of one disk, on, with no fuse -/
structure Calm (w W : World) (c : Nat → Colour) (g : Nat) (m : Pl) (K : Nat) : Prop where
  pl : PlW w W c g m [66] [] K
  on : m.on = true
  fuse : m.fuse < 0
theorem Calm.lv (h : Calm w W c g m K) : Lv m 0 ∧ m.size 0 = 66 := ⟨h.pl.lv (by decide) h.on, (h.pl.shape.disk 0 (by decide)).2⟩
theorem Calm.bel (h : Calm w W c g m K) (hb : Below W.heap.size W W') : Calm w W' c g m K := ⟨h.pl.bel hb, h.on, h.fuse⟩
theorem Calm.mono {K' : Nat} (h : Calm w W c g m K) (hk : K ≤ K') : Calm w W c g m K' := ⟨h.pl.mono hk, h.on, h.fuse⟩
theorem Calm.readS (h : Calm w W c g m K) (hK : K ≤ 1000000000000) (p : Nat) (hp : p < 66) : Calls Tryd.prog 31 #[ptr g, .int .i64 0, .int .i64 (p : Nat)] W fun e W' => ∃ b s, e = .returned (.tuple #[.slice (some ⟨b, 0, none⟩) 64 64, .int .i64 0]) ∧ S64 s ∧ Loc W W' [(b, 5, bcells s)] := by
  have hle := h.pl.le
  have hd := h.pl.dk (i := 0) (by decide) h.on hK
  refine (h.pl.live.read (by omega) h.on 0 p hd.ltn (by rw [hd.len]; exact hp)).mono ?_
  rintro e W' ⟨b, rfl, h1, h2, h3⟩
  exact ⟨b, _, rfl, Pl.rd_sec h.pl.live.2.1 0 p, (Loc.nil (Below.refl _ W)).add h2 h1 h3⟩
theorem Calm.writeS (h : Calm w W c g m K) (hK : K ≤ 1000000000000) (p : Nat) (hp : p < 66) (v : Value) (s : List Nat) (hv : SliceIn W v s) (hs : S64 s) : Calls Tryd.prog 33 #[ptr g, .int .i64 0, .int .i64 (p : Nat), v] W fun e W' => e = .returned (.int .i64 0) ∧ ∃ c' m', Calm w W' c' g m' (K + 1) := by
  have hle := h.pl.le
  have hlv := h.lv
  have hf := h.fuse
  refine (h.pl.live.write (by omega) 0 (p : Int) v s hv).mono fun e W' he => ?_
  have e1 : m.write 0 (p : Int) s = (0, m.step.wait 0 p s) := by
    have h1 := hlv.1.write p s hs (by rw [hlv.2]; exact hp)
    rw [if_neg (by omega)] at h1
    exact h1
  have h1 := he.1
  have h2 := he.2.nx
  rw [e1] at h1 h2
  obtain ⟨c', _, _, k3⟩ := h.pl.nx h2 (m' := m.step.wait 0 p s) m.step_sh (K' := K + 1) (by have := m.step_le; show m.step.steps ≤ _; omega) 0
  exact ⟨h1, c', _, ⟨k3, (m.step_on (by omega)).trans h.on, m.step_neg hf⟩⟩
theorem Calm.flushS (h : Calm w W c g m K) (hK : K ≤ 1000000000000) : Calls Tryd.prog 34 #[ptr g, .int .i64 0] W fun e W' => e = .returned (.int .i64 0) ∧ ∃ c' m', Calm w W' c' g m' (K + 1) ∧ m'.wt 0 = [] := by
  have hle := h.pl.le
  have hlv := h.lv
  have hf := h.fuse
  refine (h.pl.live.flush (by omega) 0).mono fun e W' he => ?_
  have e1 : m.flush 0 = (0, m.step.flushed 0) := by
    have h1 := hlv.1.flush
    rw [if_neg (by omega)] at h1
    exact h1
  have h1 := he.1
  have h2 := he.2.nx
  rw [e1] at h1 h2
  obtain ⟨c', _, _, k3⟩ := h.pl.nx h2 (m' := m.step.flushed 0) m.step_sh (K' := K + 1) (by have := m.step_le; show m.step.steps ≤ _; omega) 0
  exact ⟨h1, c', _, ⟨k3, (m.step_on (by omega)).trans h.on, m.step_neg hf⟩, by rw [Pl.wt_flushed, if_pos rfl]⟩
theorem Calm.formatS (h : Calm w W c g m K) (hK : K ≤ 1000000000000) (hw : m.wt 0 = []) : Calls Tryd.prog 11 #[ptr g, .int .i64 0] W fun e W' => e = .returned (.int .i64 0) ∧ ∃ c' m' L X, PlW w W' c' g m' [66] [] (K + 6) ∧ PgO m' 0 8 L L.used X ∧ m'.fuse < 0 ∧ L.used = noneP ∧ L.root = -1 := by
  have hlv := h.lv
  have hf := h.fuse
  cases hl : lastOf (m.rd 0) 8 with
  | none =>
    refine (h.pl.formatNew (i := 0) (n := 8) (X := zX) hK (by decide) hlv.1 h.fuse (by decide) (by decide) hl zX_imgs 0).mono ?_
    rintro e W' ⟨rfl, c', m', _, h2, h3, _, h5⟩
    exact ⟨rfl, c', m', noHd 1, zX, h2, h3, h5, rfl, rfl⟩
  | some L =>
    refine (h.pl.formatOld (i := 0) hK (by decide) (PgO.of_last hlv.1 hw (by rw [hlv.2]; decide) (by decide) hl) 0).mono ?_
    rintro e W' ⟨c', m', _, h2, ⟨h3, h4, _, h5⟩ | ⟨h3, _⟩⟩
    · exact ⟨h3, c', m', noHd (nextNum L.num), _, h2.mono (by omega), h4, h5 hf, rfl, rfl⟩
    · omega
theorem Calm.openS (h : Calm w W c g m K) (hK : K ≤ 1000000000000) (hw : m.wt 0 = []) : Calls Tryd.prog 13 #[ptr g, .int .i64 0] W fun e W' => ∃ (pv : Value) (er : Int), e = .returned (.tuple #[pv, .int .i64 er]) ∧ Calm w W' c g m K ∧ ((pv = .pointer none ∧ er = 4) ∨ ∃ gq, pv = ptr gq) := by
  refine (h.pl.openAny (n := 8) hK (by decide) h.lv.1 hw (by decide) (by decide)).mono ?_
  rintro e W' (⟨rfl, h1⟩ | ⟨gq, L, rfl, h1, _⟩)
  · exact ⟨_, _, rfl, h.bel h1, Or.inl ⟨rfl, rfl⟩⟩
  · exact ⟨_, _, rfl, h.bel h1, Or.inr ⟨gq, rfl⟩⟩
end
theorem exW : leastP (hdU noneP) noneP 8 = some 0 ∧ roomTo (hdU noneP) noneP 8 = 8 ∧ rootOk (withP noneP 0) 0 = true := by decide
end Go.Proofs.YtcpnlccajcpjmaaDoor

namespace Go.Proofs.YtcpnlccajcpjmaaDoor
open Go.RowKit Go.Maps

theorem run_sub6 {w : World} {a : Act} {o : Oper} (x : Operand) (ho : o.op = .slice 38 x none (some (.const (.int .i64 58))) none) (v v' : Value) (hx : a.eval x = v) (hr : (Instr.slice 38 v none (some (.int .i64 58)) none).run Tryd.prog w = .ok v' w) : (execOp a.eval o).run Tryd.prog w = .ok (.value v') w := by
  have e : a.eval (.const (.int .i64 58)) = .int .i64 58 := rfl
  simp [execOp, ho, hx, run_sliceAt_slice _ _ _ _ _ _ sl38, e, hr]
theorem made64 : (madeCells (Value.int .u8 0).cells (64 * 1)).toList = bcells (List.replicate 64 0) := by first | rfl | kernel_rfl
theorem frSlice {w : World} {v : Value} {cs : List Nat} (h : SliceIn w v cs) : Fr.SliceIn w v cs := h
set_option maxHeartbeats 16000000 in
set_option maxRecDepth 100000 in
theorem pagerWhatever_any (w : World) (ht : Fr.TabIn w) (gen : List Nat) (hg : gen.length = 8 ∧ ∀ c ∈ gen, c < 256) (p1 : Option Addr) (n1 cap1 : Nat) (secs : List (List Nat)) (hb : RowsIn w (.slice p1 n1 cap1) secs) : Calls Tryd.prog 8 #[.agg (bcells gen).toArray, .slice p1 n1 cap1] w fun e w' => e = .returned (.bool true) ∧ Below w.heap.size w w' := by
  have HT : Hid (Fr.TabIn w) := ht
  have HG : Hid (gen.length = 8 ∧ ∀ c ∈ gen, c < 256) := hg
  have HR1 : Hid (RowsIn w (.slice p1 n1 cap1) secs) := hb
  have HN1 : Hid (n1 = secs.length ∧ n1 ≤ 9223372036854775807) := hb.len
  obtain ⟨PQ, hPQ⟩ : ∃ PQ : Ending → World → Prop, PQ = fun (e : Ending) (w' : World) => e = .returned (.bool true) ∧ Below w.heap.size w w' := ⟨_, rfl⟩
  have HPQ : Hid (PQ = fun (e : Ending) (w' : World) => e = .returned (.bool true) ∧ Below w.heap.size w w') := hPQ
  rw [← hPQ]
  clear hPQ ht hg hb
  go_enter Tryd.func8, Tryd.ntmps8
  go_upto_region 0 with fail
  refine wp_region_lit ?_
  refine wl rfl (ptr w.heap.size) _ (run_boxA (.tmp 0) rfl (bcells gen) rfl) ?_
  have HBX : Hid (Row (w.alloc (.cells (bcells gen).toArray 60)) w.heap.size 60 (bcells gen) ∧ Below w.heap.size w (w.alloc (.cells (bcells gen).toArray 60))) := ⟨Row.new w 60 _, below_alloc w _⟩
  obtain ⟨W0, hW_⟩ : ∃ W, W = w.alloc (.cells (bcells gen).toArray 60) := ⟨_, rfl⟩
  obtain ⟨qg, hq_⟩ : ∃ q, q = w.heap.size := ⟨_, rfl⟩
  rw [← hW_] at HBX
  rw [← hW_, ← hq_]
  have HB0 : Hid (Row W0 qg 60 (bcells gen) ∧ Below w.heap.size w W0) := by rw [hq_]; exact HBX.out
  clear hW_ hq_ HBX
  simp only [Act.put, List.setIfInBounds_toArray, List.set_cons_succ, List.set_cons_zero]
  refine wl rfl (.bool false) _ (run_asZ (.const (.bool false)) rfl (.bool false) rfl) ?_
  simp only [Act.put, List.setIfInBounds_toArray, List.set_cons_succ, List.set_cons_zero]
  refine wpList_nil ?_
  go_upto_region 1 with fail
  refine wp_region_lit ?_
  refine wpList_callW eN9 [] _ rfl rfl [] rfl ?_
  refine (shown_any W0 (Fr.TabIn.later HB0.out.2 HT.out)).mono ?_
  rintro e W1 ⟨rfl, b_⟩
  refine ⟨_, rfl, ?_⟩
  have HB1 : Hid (Below W0.heap.size W0 W1) := b_
  clear b_
  simp only [Act.put, List.setIfInBounds_toArray, List.set_cons_succ, List.set_cons_zero]
  refine wl rfl (.bool true) _ (run_asZ (.tmp 23) rfl (.bool true) rfl) ?_
  simp only [Act.put, List.setIfInBounds_toArray, List.set_cons_succ, List.set_cons_zero]
  refine wpList_nil ?_
  go_upto_region 2 with fail
  refine wp_region_lit ?_
  refine wl rfl (.slice (some ⟨W1.heap.size, 0, none⟩) 1 1) _ (run_lit28 (.const (.int .i64 66)) rfl 66 rfl) ?_
  have HI : Hid (IntsIn (W1.alloc (.cells #[.int .i64 66] 3)) (.slice (some ⟨W1.heap.size, 0, none⟩) 1 1) [((66 : Nat) : Int)] ∧ Below W1.heap.size W1 (W1.alloc (.cells #[.int .i64 66] 3))) := ⟨ints_lit W1 66, below_alloc W1 _⟩
  obtain ⟨W2, hW_⟩ : ∃ W, W = W1.alloc (.cells #[.int .i64 66] 3) := ⟨_, rfl⟩
  obtain ⟨q0, hq_⟩ : ∃ q, q = W1.heap.size := ⟨_, rfl⟩
  rw [← hW_] at HI ⊢
  rw [← hq_] at ⊢
  have HI2 : Hid (IntsIn W2 (.slice (some ⟨q0, 0, none⟩) 1 1) [((66 : Nat) : Int)] ∧ Below W1.heap.size W1 W2) := by rw [hq_]; exact HI.out
  clear hW_ hq_ HI
  simp only [Act.put, List.setIfInBounds_toArray, List.set_cons_succ, List.set_cons_zero]
  refine wl rfl (.agg #[.slice (some ⟨q0, 0, none⟩) 1 1, .slice none 0 0]) _ (run_build30 (.tmp 25) rfl _ _ _ rfl) ?_
  simp only [Act.put, List.setIfInBounds_toArray, List.set_cons_succ, List.set_cons_zero]
  refine wpList_callW eN10 [.tmp 26] _ rfl rfl [(.agg #[.slice (some ⟨q0, 0, none⟩) 1 1, .slice none 0 0])] rfl ?_
  refine (PlW.new (HB1.out.trans (HI2.out.2.mono HB1.out.size)) (Fr.TabIn.later HB0.out.2 HT.out) 66 ⟨by decide, by decide⟩ _ HI2.out.1).mono ?_
  rintro e W3 ⟨g, c3, rfl, b_, h_⟩
  refine ⟨_, rfl, ?_⟩
  have H3 : Hid (PlW W0 W3 c3 g (newPl [((66 : Nat) : Int)] []) [66] [] 0) := h_
  clear h_ b_ HI2 HB1
  simp only [Act.put, List.setIfInBounds_toArray, List.set_cons_succ, List.set_cons_zero]
  refine wl rfl (.tuple #[(ptr g), (.int .i64 0)]) _ (run_mvZ (.tmp 27) rfl (.tuple #[(ptr g), (.int .i64 0)]) rfl) ?_
  simp only [Act.put, List.setIfInBounds_toArray, List.set_cons_succ, List.set_cons_zero]
  refine wl rfl (ptr g) _ (run_extZ (.tmp 24) 0 rfl #[(ptr g), (.int .i64 0)] rfl (ptr g) rfl) ?_
  simp only [Act.put, List.setIfInBounds_toArray, List.set_cons_succ, List.set_cons_zero]
  refine wl rfl (.int .i64 0) _ (run_extZ (.tmp 24) 1 rfl #[(ptr g), (.int .i64 0)] rfl (.int .i64 0) rfl) ?_
  simp only [Act.put, List.setIfInBounds_toArray, List.set_cons_succ, List.set_cons_zero]
  refine wl rfl (ptr g) _ (run_asZ (.tmp 28) rfl (ptr g) rfl) ?_
  simp only [Act.put, List.setIfInBounds_toArray, List.set_cons_succ, List.set_cons_zero]
  refine wl rfl (.int .i64 0) _ (run_asZ (.tmp 29) rfl (.int .i64 0) rfl) ?_
  simp only [Act.put, List.setIfInBounds_toArray, List.set_cons_succ, List.set_cons_zero]
  refine wpList_nil ?_
  go_upto_region 3 with fail
  refine wp_region_lit ?_
  refine wl rfl (.bool true) _ (run_mvZ (.tmp 5) rfl (.bool true) rfl) ?_
  simp only [Act.put, List.setIfInBounds_toArray, List.set_cons_succ, List.set_cons_zero]
  refine wl rfl (.bool false) _ (run_not (.tmp 30) 4 rfl true rfl) ?_
  simp only [Act.put, List.setIfInBounds_toArray, List.set_cons_succ, List.set_cons_zero]
  refine wl rfl (.bool false) _ (run_mvZ (.tmp 31) rfl (.bool false) rfl) ?_
  simp only [Act.put, List.setIfInBounds_toArray, List.set_cons_succ, List.set_cons_zero]
  refine wl (by kernel_rfl) (ptr g) _ (run_mvZ (.tmp 6) rfl (ptr g) rfl) ?_
  simp only [Act.put, List.setIfInBounds_toArray, List.set_cons_succ, List.set_cons_zero]
  refine wl (by kernel_rfl) (.bool false) _ (run_binOp' (.tmp 33) (.const (.pointer none)) rfl _ _ _ rfl rfl rfl (by kernel_rfl)) ?_
  simp only [Act.put, List.setIfInBounds_toArray, List.set_cons_succ, List.set_cons_zero]
  refine wl rfl (.bool false) _ (run_pickZ (.tmp 32) (.const (.bool true)) (.tmp 34) rfl false (.bool false) rfl rfl) ?_
  simp only [Act.put, List.setIfInBounds_toArray, List.set_cons_succ, List.set_cons_zero]
  refine wl rfl (.bool false) _ (run_mvZ (.tmp 35) rfl (.bool false) rfl) ?_
  simp only [Act.put, List.setIfInBounds_toArray, List.set_cons_succ, List.set_cons_zero]
  refine wl (by kernel_rfl) (.int .i64 0) _ (run_mvZ (.tmp 7) rfl (.int .i64 0) rfl) ?_
  simp only [Act.put, List.setIfInBounds_toArray, List.set_cons_succ, List.set_cons_zero]
  refine wl (by kernel_rfl) (.bool false) _ (run_neZ (.tmp 37) (.const (.int .i64 0)) rfl (0) (0) rfl rfl false rfl) ?_
  simp only [Act.put, List.setIfInBounds_toArray, List.set_cons_succ, List.set_cons_zero]
  refine wl rfl (.bool false) _ (run_pickZ (.tmp 36) (.const (.bool true)) (.tmp 38) rfl false (.bool false) rfl rfl) ?_
  simp only [Act.put, List.setIfInBounds_toArray, List.set_cons_succ, List.set_cons_zero]
  refine wpList_nil ?_
  go_upto_region 5 with fail
  refine wp_region_lit ?_
  refine wl rfl (ptr g) _ (run_mvZ (.tmp 6) rfl (ptr g) rfl) ?_
  simp only [Act.put, List.setIfInBounds_toArray, List.set_cons_succ, List.set_cons_zero]
  refine wpList_callW eN11 [.tmp 40, .const (.int .i64 0)] _ rfl rfl [(ptr g), .int .i64 0] rfl ?_
  refine (PlW.first (n := 8) ⟨by decide, by decide⟩ (by decide) (by decide) H3.out).mono ?_
  rintro e W4 ⟨rfl, c4, m4, h_, o_, f_⟩
  refine ⟨_, rfl, ?_⟩
  have H4 : Hid (Calm W0 W4 c4 g m4 (6 + 0)) := ⟨h_, o_.on, f_⟩
  clear h_ o_ f_ H3
  simp only [Act.put, List.setIfInBounds_toArray, List.set_cons_succ, List.set_cons_zero]
  refine wl rfl (.int .i64 0) _ (run_asZ (.tmp 41) rfl (.int .i64 0) rfl) ?_
  simp only [Act.put, List.setIfInBounds_toArray, List.set_cons_succ, List.set_cons_zero]
  refine wpList_nil ?_
  go_upto_region 6 with fail
  refine wp_region_lit ?_
  refine wl rfl (.int .i64 0) _ (run_mvZ (.tmp 8) rfl (.int .i64 0) rfl) ?_
  simp only [Act.put, List.setIfInBounds_toArray, List.set_cons_succ, List.set_cons_zero]
  refine wl rfl (.bool false) _ (run_neZ (.tmp 42) (.const (.int .i64 0)) rfl (0) (0) rfl rfl false rfl) ?_
  simp only [Act.put, List.setIfInBounds_toArray, List.set_cons_succ, List.set_cons_zero]
  refine wpList_nil ?_
  go_upto_region 8 with fail
  refine wp_region_lit ?_
  refine wl rfl (.int .i64 0) _ (run_asZ (.const (.int .i64 0)) rfl (.int .i64 0) rfl) ?_
  simp only [Act.put, List.setIfInBounds_toArray, List.set_cons_succ, List.set_cons_zero]
  refine wpList_nil ?_
  go_wp2_with fail
  go_loopw [9] (fun vk W => ∃ (k : Nat) (c : Nat → Colour) (m : Pl), vk = .int .i64 (k : Nat) ∧ k ≤ 2 ∧ Calm W0 W c g m (6 + k)) (fun vk _ => 2 - (intOf vk).toNat)
  case atStart => exact ⟨0, c4, m4, rfl, by decide, H4.out⟩
  case round =>
    obtain ⟨k, c, m, rfl, hk2, hst⟩ := hrel
    have HS : Hid (Calm W0 wr c g m (6 + k)) := hst
    clear hst H4
    obtain ⟨WK, hWK⟩ : ∃ W : World, W = wr := ⟨_, rfl⟩
    subst hWK
    by_cases hk : k < 2
    · have h1 : decide ((k : Int) < (2 : Int)) = true := decide_eq_true (by omega)
      go_upto_region 9 with fail
      refine wp_region_lit ?_
      refine wl rfl (.int .i64 (k : Nat)) _ (run_mvZ (.tmp 9) rfl (.int .i64 (k : Nat)) rfl) ?_
      simp only [Act.put, List.setIfInBounds_toArray, List.set_cons_succ, List.set_cons_zero]
      refine wl rfl (.bool true) _ (run_lssZ (.tmp 44) (.const (.int .i64 2)) rfl _ _ rfl rfl true h1) ?_
      simp only [Act.put, List.setIfInBounds_toArray, List.set_cons_succ, List.set_cons_zero]
      refine wpList_nil ?_
      go_upto_region 11 with fail
      refine wp_region_lit ?_
      refine wl rfl (ptr g) _ (run_mvZ (.tmp 6) rfl (ptr g) rfl) ?_
      simp only [Act.put, List.setIfInBounds_toArray, List.set_cons_succ, List.set_cons_zero]
      refine wl rfl (.int .i64 (k : Nat)) _ (run_mvZ (.tmp 9) rfl (.int .i64 (k : Nat)) rfl) ?_
      simp only [Act.put, List.setIfInBounds_toArray, List.set_cons_succ, List.set_cons_zero]
      refine wpList_callW eN31 [.tmp 49, .const (.int .i64 0), .tmp 50] _ rfl rfl [(ptr g), .int .i64 0, (.int .i64 (k : Nat))] rfl ?_
      refine (Calm.readS HS.out (by omega) k (by omega)).mono ?_
      rintro e W5 ⟨b, s, rfl, s_, l_⟩
      refine ⟨_, rfl, ?_⟩
      have H5 : Hid (S64 s ∧ Loc WK W5 [(b, 5, bcells s)]) := ⟨s_, l_⟩
      clear s_ l_
      simp only [Act.put, List.setIfInBounds_toArray, List.set_cons_succ, List.set_cons_zero]
      refine wl rfl (.tuple #[(.slice (some ⟨b, 0, none⟩) 64 64), (.int .i64 0)]) _ (run_mvZ (.tmp 51) rfl (.tuple #[(.slice (some ⟨b, 0, none⟩) 64 64), (.int .i64 0)]) rfl) ?_
      simp only [Act.put, List.setIfInBounds_toArray, List.set_cons_succ, List.set_cons_zero]
      refine wl rfl (.slice (some ⟨b, 0, none⟩) 64 64) _ (run_extZ (.tmp 48) 0 rfl #[(.slice (some ⟨b, 0, none⟩) 64 64), (.int .i64 0)] rfl (.slice (some ⟨b, 0, none⟩) 64 64) rfl) ?_
      simp only [Act.put, List.setIfInBounds_toArray, List.set_cons_succ, List.set_cons_zero]
      refine wl rfl (.int .i64 0) _ (run_extZ (.tmp 48) 1 rfl #[(.slice (some ⟨b, 0, none⟩) 64 64), (.int .i64 0)] rfl (.int .i64 0) rfl) ?_
      simp only [Act.put, List.setIfInBounds_toArray, List.set_cons_succ, List.set_cons_zero]
      refine wl rfl (.slice (some ⟨b, 0, none⟩) 64 64) _ (run_asZ (.tmp 52) rfl (.slice (some ⟨b, 0, none⟩) 64 64) rfl) ?_
      simp only [Act.put, List.setIfInBounds_toArray, List.set_cons_succ, List.set_cons_zero]
      refine wl rfl (.int .i64 0) _ (run_asZ (.tmp 53) rfl (.int .i64 0) rfl) ?_
      simp only [Act.put, List.setIfInBounds_toArray, List.set_cons_succ, List.set_cons_zero]
      refine wpList_nil ?_
      go_upto_region 12 with fail
      refine wp_region_lit ?_
      refine wl rfl (.int .i64 0) _ (run_mvZ (.tmp 11) rfl (.int .i64 0) rfl) ?_
      simp only [Act.put, List.setIfInBounds_toArray, List.set_cons_succ, List.set_cons_zero]
      refine wl rfl (.bool false) _ (run_neZ (.tmp 54) (.const (.int .i64 0)) rfl (0) (0) rfl rfl false rfl) ?_
      simp only [Act.put, List.setIfInBounds_toArray, List.set_cons_succ, List.set_cons_zero]
      refine wpList_nil ?_
      go_upto_region 14 with fail
      refine wp_region_lit ?_
      refine wl rfl (.int .i64 0) _ (run_asZ (.const (.int .i64 0)) rfl (.int .i64 0) rfl) ?_
      simp only [Act.put, List.setIfInBounds_toArray, List.set_cons_succ, List.set_cons_zero]
      refine wpList_nil ?_
      clear h1
      go_wp2_with fail
      go_loopw [12] (fun vi W => ∃ (i : Nat) (s : List Nat), vi = .int .i64 (i : Nat) ∧ i ≤ 8 ∧ S64 s ∧ Loc WK W [(b, 5, bcells s)]) (fun vi _ => 8 - (intOf vi).toNat)
      case atStart => exact ⟨0, s, rfl, by decide, H5.out⟩
      case round =>
        obtain ⟨i, s, rfl, hi8, hst⟩ := hrel
        have HL : Hid (S64 s ∧ Loc WK wr [(b, 5, bcells s)]) := hst
        clear hst H5
        by_cases hi : i < 8
        · have h1 : decide ((i : Int) < (8 : Int)) = true := decide_eq_true (by omega)
          go_upto_region 15 with fail
          refine wp_region_lit ?_
          refine wl rfl (.int .i64 (i : Nat)) _ (run_mvZ (.tmp 12) rfl (.int .i64 (i : Nat)) rfl) ?_
          simp only [Act.put, List.setIfInBounds_toArray, List.set_cons_succ, List.set_cons_zero]
          refine wl rfl (.bool true) _ (run_lssZ (.tmp 56) (.const (.int .i64 8)) rfl _ _ rfl rfl true h1) ?_
          simp only [Act.put, List.setIfInBounds_toArray, List.set_cons_succ, List.set_cons_zero]
          refine wpList_nil ?_
          obtain ⟨x, hx⟩ : ∃ x, x = gen.getD i 0 := ⟨_, rfl⟩
          have hx2 : x < 256 := by rw [hx]; exact lt256 gen HG.out.2 i
          have HC : Hid (wr.cell? ⟨qg, 0 + i, none⟩ = some (.int .u8 (x : Nat))) := by
            have h2 := ((HS.out.bel HL.out.2.below).pl.below.block qg HB0.out.1.lt)
            have h3 := HB0.out.1.at i _ (bcells_at gen i (by rw [HG.out.1]; exact hi))
            show _ = _
            rw [Nat.zero_add, hx, ← h3]
            exact World.cell?_of_block h2
          obtain ⟨W6, s6, hr6, hl6, hs6⟩ := HL.out.2.putb HL.out.1 i (by omega) x hx2
          have H6 : Hid (S64 s6 ∧ Loc WK W6 [(b, 5, bcells s6)]) := ⟨hs6, hl6⟩
          clear hl6 hs6 hx
          go_upto_region 17 with fail
          refine wp_region_lit ?_
          refine wl rfl (.slice (some ⟨b, 0, none⟩) 64 64) _ (run_mvZ (.tmp 10) rfl (.slice (some ⟨b, 0, none⟩) 64 64) rfl) ?_
          simp only [Act.put, List.setIfInBounds_toArray, List.set_cons_succ, List.set_cons_zero]
          refine wl rfl (.int .i64 (i : Nat)) _ (run_mvZ (.tmp 12) rfl (.int .i64 (i : Nat)) rfl) ?_
          simp only [Act.put, List.setIfInBounds_toArray, List.set_cons_succ, List.set_cons_zero]
          refine wl rfl (.int .i64 (i : Nat)) _ (run_mvZ (.tmp 12) rfl (.int .i64 (i : Nat)) rfl) ?_
          simp only [Act.put, List.setIfInBounds_toArray, List.set_cons_succ, List.set_cons_zero]
          refine wl rfl (.pointer (some ⟨qg, 0 + i, none⟩)) _ (run_ixA arr60 (.tmp 2) (.tmp 62) rfl qg 0 i rfl rfl hi) ?_
          simp only [Act.put, List.setIfInBounds_toArray, List.set_cons_succ, List.set_cons_zero]
          refine wl rfl (.int .u8 (x : Nat)) _ (run_load1 o5 (.tmp 63) rfl qg (0 + i) rfl (.int .u8 (x : Nat)) HC.out) ?_
          simp only [Act.put, List.setIfInBounds_toArray, List.set_cons_succ, List.set_cons_zero]
          refine wl rfl (.pointer (some ⟨b, 0 + i, none⟩)) _ (run_ixS (.tmp 60) (.tmp 61) rfl b 0 64 64 i rfl rfl (by omega)) ?_
          simp only [Act.put, List.setIfInBounds_toArray, List.set_cons_succ, List.set_cons_zero]
          refine wlS rfl rfl W6 (hr6 _ _ (.tmp 65) (.tmp 64) rfl rfl rfl) ?_
          refine wpList_nil ?_
          clear hr6 HC HL
          go_wp2_with fail
          refine ⟨⟨i + 1, s6, by go_num, by omega, H6.out⟩, ?_⟩
          simp [intOf]; omega
        · have h1 : decide ((i : Int) < (8 : Int)) = false := decide_eq_false (by omega)
          go_upto_region 15 with fail
          refine wp_region_lit ?_
          refine wl rfl (.int .i64 (i : Nat)) _ (run_mvZ (.tmp 12) rfl (.int .i64 (i : Nat)) rfl) ?_
          simp only [Act.put, List.setIfInBounds_toArray, List.set_cons_succ, List.set_cons_zero]
          refine wl rfl (.bool false) _ (run_lssZ (.tmp 56) (.const (.int .i64 8)) rfl _ _ rfl rfl false h1) ?_
          simp only [Act.put, List.setIfInBounds_toArray, List.set_cons_succ, List.set_cons_zero]
          refine wpList_nil ?_
          clear h1 hi hi8
          obtain ⟨v6, hr6, hv6⟩ := run_bsub (HL.out.2.sl HL.out.1) (lo := none) (hi := some (.int .i64 58)) (mx := none) (l := 0) (h := 58) ⟨Or.inl ⟨rfl, rfl⟩, Or.inr ⟨58, rfl, rfl, Or.inl rfl⟩, by decide, by rw [HL.out.1.1]; decide⟩
          have HV6 : Hid (SliceIn wr v6 ((s.take 58).drop 0)) := hv6
          clear hv6
          go_upto_region 18 with fail
          refine wp_region_lit ?_
          refine wl rfl (.slice (some ⟨b, 0, none⟩) 64 64) _ (run_mvZ (.tmp 10) rfl (.slice (some ⟨b, 0, none⟩) 64 64) rfl) ?_
          simp only [Act.put, List.setIfInBounds_toArray, List.set_cons_succ, List.set_cons_zero]
          refine wl rfl v6 _ (run_sub6 (.tmp 66) rfl _ _ rfl (hr6 _)) ?_
          simp only [Act.put, List.setIfInBounds_toArray, List.set_cons_succ, List.set_cons_zero]
          refine wpList_callW eN32 [.tmp 67] _ rfl rfl [v6] rfl ?_
          refine (Fr.refsum_any v6 _ wr (frSlice HV6.out)).mono ?_
          rintro e W_ ⟨rfl, rfl⟩
          refine ⟨_, rfl, ?_⟩
          obtain ⟨cr, hcr⟩ : ∃ cr : Nat, cr = Fr.Frame.crc ((s.take 58).drop 0) := ⟨_, rfl⟩
          rw [← hcr]
          clear hcr HV6 hr6
          simp only [Act.put, List.setIfInBounds_toArray, List.set_cons_succ, List.set_cons_zero]
          refine wl rfl (.int .u32 (cr : Nat)) _ (run_asZ (.tmp 68) rfl (.int .u32 (cr : Nat)) rfl) ?_
          simp only [Act.put, List.setIfInBounds_toArray, List.set_cons_succ, List.set_cons_zero]
          refine wpList_nil ?_
          obtain ⟨W19, s19, hr_, hl_, hs_⟩ := HL.out.2.putb HL.out.1 58 (by decide) ((cr / 2 ^ 24) % 256) (Nat.mod_lt _ (by decide))
          have H19 : Hid (S64 s19 ∧ Loc WK W19 [(b, 5, bcells s19)]) := ⟨hs_, hl_⟩
          clear hl_ hs_
          go_upto_region 19 with fail
          refine wp_region_lit ?_
          refine wl rfl (.slice (some ⟨b, 0, none⟩) 64 64) _ (run_mvZ (.tmp 10) rfl (.slice (some ⟨b, 0, none⟩) 64 64) rfl) ?_
          simp only [Act.put, List.setIfInBounds_toArray, List.set_cons_succ, List.set_cons_zero]
          refine wl rfl (.int .u32 (cr : Nat)) _ (run_mvZ (.tmp 13) rfl (.int .u32 (cr : Nat)) rfl) ?_
          simp only [Act.put, List.setIfInBounds_toArray, List.set_cons_succ, List.set_cons_zero]
          refine wl rfl (.int .u32 ((cr / 2 ^ 24 : Nat) : Int)) _ (run_shr32 (.tmp 70) 24 (by decide) rfl cr rfl) ?_
          simp only [Act.put, List.setIfInBounds_toArray, List.set_cons_succ, List.set_cons_zero]
          refine wl rfl (.int .u8 (((cr / 2 ^ 24) % 256 : Nat) : Int)) _ (run_byte32 (.tmp 71) rfl (cr / 2 ^ 24) rfl) ?_
          simp only [Act.put, List.setIfInBounds_toArray, List.set_cons_succ, List.set_cons_zero]
          refine wl rfl (.pointer (some ⟨b, 0 + 58, none⟩)) _ (run_ixS (.tmp 69) (.const (.int .i64 58)) rfl b 0 64 64 58 rfl rfl (by decide)) ?_
          simp only [Act.put, List.setIfInBounds_toArray, List.set_cons_succ, List.set_cons_zero]
          refine wlS rfl rfl W19 (hr_ _ _ (.tmp 73) (.tmp 72) rfl rfl rfl) ?_
          refine wpList_nil ?_
          clear hr_ HL
          obtain ⟨W20, s20, hr_, hl_, hs_⟩ := H19.out.2.putb H19.out.1 59 (by decide) ((cr / 2 ^ 16) % 256) (Nat.mod_lt _ (by decide))
          have H20 : Hid (S64 s20 ∧ Loc WK W20 [(b, 5, bcells s20)]) := ⟨hs_, hl_⟩
          clear hl_ hs_
          go_upto_region 20 with fail
          refine wp_region_lit ?_
          refine wl rfl (.slice (some ⟨b, 0, none⟩) 64 64) _ (run_mvZ (.tmp 10) rfl (.slice (some ⟨b, 0, none⟩) 64 64) rfl) ?_
          simp only [Act.put, List.setIfInBounds_toArray, List.set_cons_succ, List.set_cons_zero]
          refine wl rfl (.int .u32 (cr : Nat)) _ (run_mvZ (.tmp 13) rfl (.int .u32 (cr : Nat)) rfl) ?_
          simp only [Act.put, List.setIfInBounds_toArray, List.set_cons_succ, List.set_cons_zero]
          refine wl rfl (.int .u32 ((cr / 2 ^ 16 : Nat) : Int)) _ (run_shr32 (.tmp 75) 16 (by decide) rfl cr rfl) ?_
          simp only [Act.put, List.setIfInBounds_toArray, List.set_cons_succ, List.set_cons_zero]
          refine wl rfl (.int .u8 (((cr / 2 ^ 16) % 256 : Nat) : Int)) _ (run_byte32 (.tmp 76) rfl (cr / 2 ^ 16) rfl) ?_
          simp only [Act.put, List.setIfInBounds_toArray, List.set_cons_succ, List.set_cons_zero]
          refine wl rfl (.pointer (some ⟨b, 0 + 59, none⟩)) _ (run_ixS (.tmp 74) (.const (.int .i64 59)) rfl b 0 64 64 59 rfl rfl (by decide)) ?_
          simp only [Act.put, List.setIfInBounds_toArray, List.set_cons_succ, List.set_cons_zero]
          refine wlS rfl rfl W20 (hr_ _ _ (.tmp 78) (.tmp 77) rfl rfl rfl) ?_
          refine wpList_nil ?_
          clear hr_ H19
          obtain ⟨W21, s21, hr_, hl_, hs_⟩ := H20.out.2.putb H20.out.1 60 (by decide) ((cr / 2 ^ 8) % 256) (Nat.mod_lt _ (by decide))
          have H21 : Hid (S64 s21 ∧ Loc WK W21 [(b, 5, bcells s21)]) := ⟨hs_, hl_⟩
          clear hl_ hs_
          go_upto_region 21 with fail
          refine wp_region_lit ?_
          refine wl rfl (.slice (some ⟨b, 0, none⟩) 64 64) _ (run_mvZ (.tmp 10) rfl (.slice (some ⟨b, 0, none⟩) 64 64) rfl) ?_
          simp only [Act.put, List.setIfInBounds_toArray, List.set_cons_succ, List.set_cons_zero]
          refine wl rfl (.int .u32 (cr : Nat)) _ (run_mvZ (.tmp 13) rfl (.int .u32 (cr : Nat)) rfl) ?_
          simp only [Act.put, List.setIfInBounds_toArray, List.set_cons_succ, List.set_cons_zero]
          refine wl rfl (.int .u32 ((cr / 2 ^ 8 : Nat) : Int)) _ (run_shr32 (.tmp 80) 8 (by decide) rfl cr rfl) ?_
          simp only [Act.put, List.setIfInBounds_toArray, List.set_cons_succ, List.set_cons_zero]
          refine wl rfl (.int .u8 (((cr / 2 ^ 8) % 256 : Nat) : Int)) _ (run_byte32 (.tmp 81) rfl (cr / 2 ^ 8) rfl) ?_
          simp only [Act.put, List.setIfInBounds_toArray, List.set_cons_succ, List.set_cons_zero]
          refine wl rfl (.pointer (some ⟨b, 0 + 60, none⟩)) _ (run_ixS (.tmp 79) (.const (.int .i64 60)) rfl b 0 64 64 60 rfl rfl (by decide)) ?_
          simp only [Act.put, List.setIfInBounds_toArray, List.set_cons_succ, List.set_cons_zero]
          refine wlS rfl rfl W21 (hr_ _ _ (.tmp 83) (.tmp 82) rfl rfl rfl) ?_
          refine wpList_nil ?_
          clear hr_ H20
          obtain ⟨W22, s22, hr_, hl_, hs_⟩ := H21.out.2.putb H21.out.1 61 (by decide) ((cr) % 256) (Nat.mod_lt _ (by decide))
          have H22 : Hid (S64 s22 ∧ Loc WK W22 [(b, 5, bcells s22)]) := ⟨hs_, hl_⟩
          clear hl_ hs_
          go_upto_region 22 with fail
          refine wp_region_lit ?_
          refine wl rfl (.slice (some ⟨b, 0, none⟩) 64 64) _ (run_mvZ (.tmp 10) rfl (.slice (some ⟨b, 0, none⟩) 64 64) rfl) ?_
          simp only [Act.put, List.setIfInBounds_toArray, List.set_cons_succ, List.set_cons_zero]
          refine wl rfl (.int .u32 (cr : Nat)) _ (run_mvZ (.tmp 13) rfl (.int .u32 (cr : Nat)) rfl) ?_
          simp only [Act.put, List.setIfInBounds_toArray, List.set_cons_succ, List.set_cons_zero]
          refine wl rfl (.int .u8 (((cr) % 256 : Nat) : Int)) _ (run_byte32 (.tmp 85) rfl (cr) rfl) ?_
          simp only [Act.put, List.setIfInBounds_toArray, List.set_cons_succ, List.set_cons_zero]
          refine wl rfl (.pointer (some ⟨b, 0 + 61, none⟩)) _ (run_ixS (.tmp 84) (.const (.int .i64 61)) rfl b 0 64 64 61 rfl rfl (by decide)) ?_
          simp only [Act.put, List.setIfInBounds_toArray, List.set_cons_succ, List.set_cons_zero]
          refine wlS rfl rfl W22 (hr_ _ _ (.tmp 87) (.tmp 86) rfl rfl rfl) ?_
          refine wpList_nil ?_
          clear hr_ H21
          go_upto_region 23 with fail
          refine wp_region_lit ?_
          refine wl rfl (ptr g) _ (run_mvZ (.tmp 6) rfl (ptr g) rfl) ?_
          simp only [Act.put, List.setIfInBounds_toArray, List.set_cons_succ, List.set_cons_zero]
          refine wl rfl (.int .i64 (k : Nat)) _ (run_mvZ (.tmp 9) rfl (.int .i64 (k : Nat)) rfl) ?_
          simp only [Act.put, List.setIfInBounds_toArray, List.set_cons_succ, List.set_cons_zero]
          refine wl rfl (.slice (some ⟨b, 0, none⟩) 64 64) _ (run_mvZ (.tmp 10) rfl (.slice (some ⟨b, 0, none⟩) 64 64) rfl) ?_
          simp only [Act.put, List.setIfInBounds_toArray, List.set_cons_succ, List.set_cons_zero]
          refine wpList_callW eN33 [.tmp 88, .const (.int .i64 0), .tmp 89, .tmp 90] _ rfl rfl [(ptr g), .int .i64 0, (.int .i64 (k : Nat)), (.slice (some ⟨b, 0, none⟩) 64 64)] rfl ?_
          refine (Calm.writeS (HS.out.bel H22.out.2.below) (by omega) k (by omega) _ s22 (H22.out.2.sl H22.out.1) H22.out.1).mono ?_
          rintro e W24 ⟨rfl, c24, m24, h_⟩
          refine ⟨_, rfl, ?_⟩
          have H24 : Hid (Calm W0 W24 c24 g m24 (6 + k + 1)) := h_
          clear h_ H22 HS
          simp only [Act.put, List.setIfInBounds_toArray, List.set_cons_succ, List.set_cons_zero]
          refine wl rfl (.int .i64 0) _ (run_asZ (.tmp 91) rfl (.int .i64 0) rfl) ?_
          simp only [Act.put, List.setIfInBounds_toArray, List.set_cons_succ, List.set_cons_zero]
          refine wpList_nil ?_
          go_upto_region 24 with fail
          refine wp_region_lit ?_
          refine wl rfl (.int .i64 0) _ (run_mvZ (.tmp 14) rfl (.int .i64 0) rfl) ?_
          simp only [Act.put, List.setIfInBounds_toArray, List.set_cons_succ, List.set_cons_zero]
          refine wl rfl (.bool false) _ (run_neZ (.tmp 92) (.const (.int .i64 0)) rfl (0) (0) rfl rfl false rfl) ?_
          simp only [Act.put, List.setIfInBounds_toArray, List.set_cons_succ, List.set_cons_zero]
          refine wpList_nil ?_
          go_wp2_with fail
          refine ⟨⟨k + 1, c24, m24, by go_num, by omega, H24.out⟩, ?_⟩
          simp [intOf]; omega
    · have h1 : decide ((k : Int) < (2 : Int)) = false := decide_eq_false (by omega)
      go_upto_region 9 with fail
      refine wp_region_lit ?_
      refine wl rfl (.int .i64 (k : Nat)) _ (run_mvZ (.tmp 9) rfl (.int .i64 (k : Nat)) rfl) ?_
      simp only [Act.put, List.setIfInBounds_toArray, List.set_cons_succ, List.set_cons_zero]
      refine wl rfl (.bool false) _ (run_lssZ (.tmp 44) (.const (.int .i64 2)) rfl _ _ rfl rfl false h1) ?_
      simp only [Act.put, List.setIfInBounds_toArray, List.set_cons_succ, List.set_cons_zero]
      refine wpList_nil ?_
      go_upto_region 26 with fail
      refine wp_region_lit ?_
      refine wl rfl (.int .i64 0) _ (run_asZ (.const (.int .i64 0)) rfl (.int .i64 0) rfl) ?_
      simp only [Act.put, List.setIfInBounds_toArray, List.set_cons_succ, List.set_cons_zero]
      refine wpList_nil ?_
      clear h1 hk
      go_wp2_with fail
      go_loopw [15] (fun vi W => ∃ (i : Nat) (c : Nat → Colour) (m : Pl), vi = .int .i64 (i : Nat) ∧ i ≤ 12 ∧ Calm W0 W c g m (8 + i)) (fun vi _ => 12 - (intOf vi).toNat)
      case atStart => exact ⟨0, c, m, rfl, by decide, HS.out.mono (by omega)⟩
      case round =>
        obtain ⟨i, c, m, rfl, hi12, hst⟩ := hrel
        have HM : Hid (Calm W0 wr c g m (8 + i)) := hst
        clear hst HS hk2
        by_cases hlt : i < n1
        · by_cases hi2 : i < 12
          · have h1 : decide ((i : Int) < (n1 : Int)) = true := decide_eq_true (by omega)
            have h2 : decide ((i : Int) < (12 : Int)) = true := decide_eq_true (by omega)
            go_upto_region 27 with fail
            refine wp_region_lit ?_
            refine wl rfl (.int .i64 (i : Nat)) _ (run_mvZ (.tmp 15) rfl (.int .i64 (i : Nat)) rfl) ?_
            simp only [Act.put, List.setIfInBounds_toArray, List.set_cons_succ, List.set_cons_zero]
            refine wl rfl (.slice p1 n1 cap1) _ (run_mvZ (.tmp 1) rfl (.slice p1 n1 cap1) rfl) ?_
            simp only [Act.put, List.setIfInBounds_toArray, List.set_cons_succ, List.set_cons_zero]
            refine wl rfl (.int .i64 (n1 : Nat)) _ (run_lenZ sl50 (.tmp 95) rfl p1 n1 cap1 rfl) ?_
            simp only [Act.put, List.setIfInBounds_toArray, List.set_cons_succ, List.set_cons_zero]
            refine wl rfl (.bool true) _ (run_lssZ (.tmp 94) (.tmp 96) rfl _ _ rfl rfl true h1) ?_
            simp only [Act.put, List.setIfInBounds_toArray, List.set_cons_succ, List.set_cons_zero]
            refine wl rfl (.bool true) _ (run_mvZ (.tmp 97) rfl (.bool true) rfl) ?_
            simp only [Act.put, List.setIfInBounds_toArray, List.set_cons_succ, List.set_cons_zero]
            refine wl (by kernel_rfl) (.int .i64 (i : Nat)) _ (run_mvZ (.tmp 15) rfl (.int .i64 (i : Nat)) rfl) ?_
            simp only [Act.put, List.setIfInBounds_toArray, List.set_cons_succ, List.set_cons_zero]
            refine wl (by kernel_rfl) (.bool true) _ (run_lssZ (.tmp 99) (.const (.int .i64 12)) rfl _ _ rfl rfl true h2) ?_
            simp only [Act.put, List.setIfInBounds_toArray, List.set_cons_succ, List.set_cons_zero]
            refine wl rfl (.bool true) _ (run_pickZ (.tmp 98) (.tmp 100) (.const (.bool false)) rfl true (.bool true) rfl rfl) ?_
            simp only [Act.put, List.setIfInBounds_toArray, List.set_cons_succ, List.set_cons_zero]
            refine wpList_nil ?_
            clear h1 h2
            go_upto_region 29 with fail
            refine wp_region_lit ?_
            refine wl_make (.const (.int .i64 64)) (.const (.int .i64 64)) 38 5 (.int .u8 0) 1 1 rfl rfl Tryd.underlying38 info5z 64 rfl rfl (by decide) (by decide) ?_
            intro W6 r6 z6 b6
            rw [made64] at r6
            have H6 : Hid (S64 (List.replicate 64 0) ∧ Loc wr W6 [(wr.heap.size, 5, bcells (List.replicate 64 0))]) := ⟨⟨by decide, by decide⟩, (Loc.nil (Below.refl _ wr)).add (cs := bcells (List.replicate 64 0)) r6 (Nat.le_refl _) b6⟩
            clear r6 z6 b6
            obtain ⟨qb, hqb⟩ : ∃ q, q = wr.heap.size := ⟨_, rfl⟩
            rw [← hqb] at H6
            rw [← hqb]
            clear hqb
            simp only [Act.put, List.setIfInBounds_toArray, List.set_cons_succ, List.set_cons_zero]
            refine wl rfl (whole qb 64) _ (run_asZ (.tmp 104) rfl (whole qb 64) rfl) ?_
            simp only [Act.put, List.setIfInBounds_toArray, List.set_cons_succ, List.set_cons_zero]
            refine wpList_nil ?_
            change _
            obtain ⟨fb, fo, pu, cu, hp0, hul, hu⟩ := HR1.out.at i (by rw [← HN1.out.1]; exact hlt)
            subst hp0
            have hbw : Below w.heap.size w W6 := HB0.out.2.trans ((HM.out.bel H6.out.2.below).pl.below.mono HB0.out.2.size)
            obtain ⟨hu1, hu2⟩ := hu W6 hbw
            obtain ⟨ul, hue⟩ : ∃ ul, ul = (secs.getD i []).length := ⟨_, rfl⟩
            rw [← hue] at hu1 hu2 hul
            have HU : Hid (W6.cell? ⟨fb, fo + i, none⟩ = some (.slice pu ul cu)) := hu1
            obtain ⟨W7, s7, k7, hr7, hl7, hs7⟩ := H6.out.2.copyb H6.out.1 _ _ hu2
            have H7 : Hid (S64 s7 ∧ Loc wr W7 [(qb, 5, bcells s7)]) := ⟨hs7, hl7⟩
            clear hu1 hu2 hue hl7 hs7 hbw hul
            go_upto_region 30 with fail
            refine wp_region_lit ?_
            refine wl rfl (.slice (some ⟨qb, 0, none⟩) 64 64) _ (run_mvZ (.tmp 16) rfl (.slice (some ⟨qb, 0, none⟩) 64 64) rfl) ?_
            simp only [Act.put, List.setIfInBounds_toArray, List.set_cons_succ, List.set_cons_zero]
            refine wl rfl (.slice (some ⟨fb, fo, none⟩) n1 cap1) _ (run_mvZ (.tmp 1) rfl (.slice (some ⟨fb, fo, none⟩) n1 cap1) rfl) ?_
            simp only [Act.put, List.setIfInBounds_toArray, List.set_cons_succ, List.set_cons_zero]
            refine wl rfl (.int .i64 (i : Nat)) _ (run_mvZ (.tmp 15) rfl (.int .i64 (i : Nat)) rfl) ?_
            simp only [Act.put, List.setIfInBounds_toArray, List.set_cons_succ, List.set_cons_zero]
            refine wl rfl (.pointer (some ⟨fb, fo + i, none⟩)) _ (run_ix50 (.tmp 106) (.tmp 107) rfl fb fo n1 cap1 i rfl rfl hlt) ?_
            simp only [Act.put, List.setIfInBounds_toArray, List.set_cons_succ, List.set_cons_zero]
            refine wl rfl (.slice pu ul cu) _ (run_load1 o38' (.tmp 108) rfl fb (fo + i) rfl (.slice pu ul cu) HU.out) ?_
            simp only [Act.put, List.setIfInBounds_toArray, List.set_cons_succ, List.set_cons_zero]
            refine wl rfl (.int .i64 (k7 : Nat)) W7 (hr7 _ _ (.tmp 105) (.tmp 109) rfl rfl rfl) ?_
            simp only [Act.put, List.setIfInBounds_toArray, List.set_cons_succ, List.set_cons_zero]
            refine wpList_nil ?_
            clear hr7 HU H6
            have h14 : i % 14 < 14 := Nat.mod_lt _ (by decide)
            go_upto_region 31 with fail
            refine wp_region_lit ?_
            refine wl rfl (ptr g) _ (run_mvZ (.tmp 6) rfl (ptr g) rfl) ?_
            simp only [Act.put, List.setIfInBounds_toArray, List.set_cons_succ, List.set_cons_zero]
            refine wl rfl (.int .i64 (i : Nat)) _ (run_mvZ (.tmp 15) rfl (.int .i64 (i : Nat)) rfl) ?_
            simp only [Act.put, List.setIfInBounds_toArray, List.set_cons_succ, List.set_cons_zero]
            refine wl rfl (.int .i64 ((i % 14 : Nat) : Int)) _ (run_rem14 (.tmp 112) rfl i rfl) ?_
            simp only [Act.put, List.setIfInBounds_toArray, List.set_cons_succ, List.set_cons_zero]
            refine wl rfl (.slice (some ⟨qb, 0, none⟩) 64 64) _ (run_mvZ (.tmp 16) rfl (.slice (some ⟨qb, 0, none⟩) 64 64) rfl) ?_
            simp only [Act.put, List.setIfInBounds_toArray, List.set_cons_succ, List.set_cons_zero]
            refine wpList_callW eN33 [.tmp 111, .const (.int .i64 0), .tmp 113, .tmp 114] _ rfl rfl [(ptr g), .int .i64 0, (.int .i64 ((i % 14 : Nat) : Int)), (.slice (some ⟨qb, 0, none⟩) 64 64)] rfl ?_
            refine (Calm.writeS (HM.out.bel H7.out.2.below) (by omega) (i % 14) (by omega) _ s7 (H7.out.2.sl H7.out.1) H7.out.1).mono ?_
            rintro e W8 ⟨rfl, c8, m8, h_⟩
            refine ⟨_, rfl, ?_⟩
            have H8 : Hid (Calm W0 W8 c8 g m8 (8 + i + 1)) := h_
            clear h_ H7 HM
            simp only [Act.put, List.setIfInBounds_toArray, List.set_cons_succ, List.set_cons_zero]
            refine wl rfl (.int .i64 0) _ (run_asZ (.tmp 115) rfl (.int .i64 0) rfl) ?_
            simp only [Act.put, List.setIfInBounds_toArray, List.set_cons_succ, List.set_cons_zero]
            refine wpList_nil ?_
            go_upto_region 32 with fail
            refine wp_region_lit ?_
            refine wl rfl (.int .i64 0) _ (run_mvZ (.tmp 17) rfl (.int .i64 0) rfl) ?_
            simp only [Act.put, List.setIfInBounds_toArray, List.set_cons_succ, List.set_cons_zero]
            refine wl rfl (.bool false) _ (run_neZ (.tmp 116) (.const (.int .i64 0)) rfl (0) (0) rfl rfl false rfl) ?_
            simp only [Act.put, List.setIfInBounds_toArray, List.set_cons_succ, List.set_cons_zero]
            refine wpList_nil ?_
            go_wp2_with fail
            refine ⟨⟨i + 1, c8, m8, by go_num, by omega, H8.out⟩, ?_⟩
            simp [intOf]; omega
          · have h1 : decide ((i : Int) < (n1 : Int)) = true := decide_eq_true (by omega)
            have h2 : decide ((i : Int) < (12 : Int)) = false := decide_eq_false (by omega)
            go_upto_region 27 with fail
            refine wp_region_lit ?_
            refine wl rfl (.int .i64 (i : Nat)) _ (run_mvZ (.tmp 15) rfl (.int .i64 (i : Nat)) rfl) ?_
            simp only [Act.put, List.setIfInBounds_toArray, List.set_cons_succ, List.set_cons_zero]
            refine wl rfl (.slice p1 n1 cap1) _ (run_mvZ (.tmp 1) rfl (.slice p1 n1 cap1) rfl) ?_
            simp only [Act.put, List.setIfInBounds_toArray, List.set_cons_succ, List.set_cons_zero]
            refine wl rfl (.int .i64 (n1 : Nat)) _ (run_lenZ sl50 (.tmp 95) rfl p1 n1 cap1 rfl) ?_
            simp only [Act.put, List.setIfInBounds_toArray, List.set_cons_succ, List.set_cons_zero]
            refine wl rfl (.bool true) _ (run_lssZ (.tmp 94) (.tmp 96) rfl _ _ rfl rfl true h1) ?_
            simp only [Act.put, List.setIfInBounds_toArray, List.set_cons_succ, List.set_cons_zero]
            refine wl rfl (.bool true) _ (run_mvZ (.tmp 97) rfl (.bool true) rfl) ?_
            simp only [Act.put, List.setIfInBounds_toArray, List.set_cons_succ, List.set_cons_zero]
            refine wl (by kernel_rfl) (.int .i64 (i : Nat)) _ (run_mvZ (.tmp 15) rfl (.int .i64 (i : Nat)) rfl) ?_
            simp only [Act.put, List.setIfInBounds_toArray, List.set_cons_succ, List.set_cons_zero]
            refine wl (by kernel_rfl) (.bool false) _ (run_lssZ (.tmp 99) (.const (.int .i64 12)) rfl _ _ rfl rfl false h2) ?_
            simp only [Act.put, List.setIfInBounds_toArray, List.set_cons_succ, List.set_cons_zero]
            refine wl rfl (.bool false) _ (run_pickZ (.tmp 98) (.tmp 100) (.const (.bool false)) rfl true (.bool false) rfl rfl) ?_
            simp only [Act.put, List.setIfInBounds_toArray, List.set_cons_succ, List.set_cons_zero]
            refine wpList_nil ?_
            clear h1 h2
            clear hlt
            go_upto_region 34 with fail
            refine wp_region_lit ?_
            refine wl rfl (ptr g) _ (run_mvZ (.tmp 6) rfl (ptr g) rfl) ?_
            simp only [Act.put, List.setIfInBounds_toArray, List.set_cons_succ, List.set_cons_zero]
            refine wpList_callW eN34 [.tmp 118, .const (.int .i64 0)] _ rfl rfl [(ptr g), .int .i64 0] rfl ?_
            refine (Calm.flushS HM.out (by omega)).mono ?_
            rintro e W9 ⟨rfl, c9, m9, h_, w_⟩
            refine ⟨_, rfl, ?_⟩
            have H9 : Hid (Calm W0 W9 c9 g m9 100 ∧ m9.wt 0 = []) := ⟨h_.mono (by omega), w_⟩
            clear h_ w_ HM
            simp only [Act.put, List.setIfInBounds_toArray, List.set_cons_succ, List.set_cons_zero]
            refine wpList_nil ?_
            go_upto_region 35 with fail
            refine wp_region_lit ?_
            refine wl rfl (ptr g) _ (run_mvZ (.tmp 6) rfl (ptr g) rfl) ?_
            simp only [Act.put, List.setIfInBounds_toArray, List.set_cons_succ, List.set_cons_zero]
            refine wpList_callW eN13 [.tmp 121, .const (.int .i64 0)] _ rfl rfl [(ptr g), .int .i64 0] rfl ?_
            refine (Calm.openS H9.out.1 (by decide) H9.out.2).mono ?_
            rintro e W10 ⟨pv, er, rfl, h_, a_⟩
            refine ⟨_, rfl, ?_⟩
            have H10 : Hid (Calm W0 W10 c9 g m9 100 ∧ m9.wt 0 = []) := ⟨h_, H9.out.2⟩
            clear h_ H9
            simp only [Act.put, List.setIfInBounds_toArray, List.set_cons_succ, List.set_cons_zero]
            refine wl rfl (.tuple #[pv, (.int .i64 er)]) _ (run_mvZ (.tmp 122) rfl (.tuple #[pv, (.int .i64 er)]) rfl) ?_
            simp only [Act.put, List.setIfInBounds_toArray, List.set_cons_succ, List.set_cons_zero]
            refine wl rfl pv _ (run_extZ (.tmp 120) 0 rfl #[pv, (.int .i64 er)] rfl pv rfl) ?_
            simp only [Act.put, List.setIfInBounds_toArray, List.set_cons_succ, List.set_cons_zero]
            refine wl rfl (.int .i64 er) _ (run_extZ (.tmp 120) 1 rfl #[pv, (.int .i64 er)] rfl (.int .i64 er) rfl) ?_
            simp only [Act.put, List.setIfInBounds_toArray, List.set_cons_succ, List.set_cons_zero]
            refine wl rfl pv _ (run_asZ (.tmp 123) rfl pv rfl) ?_
            simp only [Act.put, List.setIfInBounds_toArray, List.set_cons_succ, List.set_cons_zero]
            refine wl rfl (.int .i64 er) _ (run_asZ (.tmp 124) rfl (.int .i64 er) rfl) ?_
            simp only [Act.put, List.setIfInBounds_toArray, List.set_cons_succ, List.set_cons_zero]
            refine wpList_nil ?_
            rcases a_ with ⟨rfl, rfl⟩ | ⟨gq, rfl⟩
            · go_upto_region 36 with fail
              refine wp_region_lit ?_
              refine wl rfl (.pointer none) _ (run_mvZ (.tmp 18) rfl (.pointer none) rfl) ?_
              simp only [Act.put, List.setIfInBounds_toArray, List.set_cons_succ, List.set_cons_zero]
              refine wl rfl (.bool true) _ (run_binOp' (.tmp 125) (.const (.pointer none)) rfl _ _ _ rfl rfl rfl (by kernel_rfl)) ?_
              simp only [Act.put, List.setIfInBounds_toArray, List.set_cons_succ, List.set_cons_zero]
              refine wl rfl (.bool true) _ (run_mvZ (.tmp 126) rfl (.bool true) rfl) ?_
              simp only [Act.put, List.setIfInBounds_toArray, List.set_cons_succ, List.set_cons_zero]
              refine wl (by kernel_rfl) (.int .i64 4) _ (run_mvZ (.tmp 19) rfl (.int .i64 4) rfl) ?_
              simp only [Act.put, List.setIfInBounds_toArray, List.set_cons_succ, List.set_cons_zero]
              refine wl (by kernel_rfl) (.bool false) _ (run_neZ (.tmp 128) (.const (.int .i64 4)) rfl (4) (4) rfl rfl false rfl) ?_
              simp only [Act.put, List.setIfInBounds_toArray, List.set_cons_succ, List.set_cons_zero]
              refine wl rfl (.bool false) _ (run_pickZ (.tmp 127) (.tmp 129) (.const (.bool false)) rfl true (.bool false) rfl rfl) ?_
              simp only [Act.put, List.setIfInBounds_toArray, List.set_cons_succ, List.set_cons_zero]
              refine wpList_nil ?_
              go_upto_region 38 with fail
              refine wp_region_lit ?_
              refine wl rfl (ptr g) _ (run_mvZ (.tmp 6) rfl (ptr g) rfl) ?_
              simp only [Act.put, List.setIfInBounds_toArray, List.set_cons_succ, List.set_cons_zero]
              refine wpList_callW eN11 [.tmp 131, .const (.int .i64 0)] _ rfl rfl [(ptr g), .int .i64 0] rfl ?_
              refine (Calm.formatS H10.out.1 (by decide) H10.out.2).mono ?_
              rintro e W11 ⟨rfl, c11, m11, L, X, h_, o_, f_, u_, r_⟩
              refine ⟨_, rfl, ?_⟩
              have H11 : Hid (PlW W0 W11 c11 g m11 [66] [] 106 ∧ PgO m11 0 8 L L.used X ∧ m11.fuse < 0 ∧ L.used = noneP ∧ L.root = -1) := ⟨h_, o_, f_, u_, r_⟩
              clear h_ o_ f_ u_ r_ H10
              simp only [Act.put, List.setIfInBounds_toArray, List.set_cons_succ, List.set_cons_zero]
              refine wl rfl (.int .i64 0) _ (run_asZ (.tmp 132) rfl (.int .i64 0) rfl) ?_
              simp only [Act.put, List.setIfInBounds_toArray, List.set_cons_succ, List.set_cons_zero]
              refine wpList_nil ?_
              go_upto_region 39 with fail
              refine wp_region_lit ?_
              refine wl rfl (ptr g) _ (run_mvZ (.tmp 6) rfl (ptr g) rfl) ?_
              simp only [Act.put, List.setIfInBounds_toArray, List.set_cons_succ, List.set_cons_zero]
              refine wpList_callW eN13 [.tmp 134, .const (.int .i64 0)] _ rfl rfl [(ptr g), .int .i64 0] rfl ?_
              refine (PlW.openZ H11.out.1 (by decide) (by decide) H11.out.2.1).mono ?_
              rintro e W12 ⟨gr, rfl, b_, h_⟩
              refine ⟨_, rfl, ?_⟩
              have HLU : Hid (L.used = noneP ∧ L.root = -1 ∧ m11.fuse < 0) := ⟨H11.out.2.2.2.1, H11.out.2.2.2.2, H11.out.2.2.1⟩
              have H12 : Hid (PgW W0 W12 c11 gr g m11 [66] [] 0 8 L noneP X 106) := by
                have h1 := h_
                rw [HLU.out.1] at h1
                exact h1
              clear h_ b_ H11
              simp only [Act.put, List.setIfInBounds_toArray, List.set_cons_succ, List.set_cons_zero]
              refine wl rfl (.tuple #[(ptr gr), (.int .i64 0)]) _ (run_mvZ (.tmp 135) rfl (.tuple #[(ptr gr), (.int .i64 0)]) rfl) ?_
              simp only [Act.put, List.setIfInBounds_toArray, List.set_cons_succ, List.set_cons_zero]
              refine wl rfl (ptr gr) _ (run_extZ (.tmp 133) 0 rfl #[(ptr gr), (.int .i64 0)] rfl (ptr gr) rfl) ?_
              simp only [Act.put, List.setIfInBounds_toArray, List.set_cons_succ, List.set_cons_zero]
              refine wl rfl (.int .i64 0) _ (run_extZ (.tmp 133) 1 rfl #[(ptr gr), (.int .i64 0)] rfl (.int .i64 0) rfl) ?_
              simp only [Act.put, List.setIfInBounds_toArray, List.set_cons_succ, List.set_cons_zero]
              refine wl rfl (ptr gr) _ (run_asZ (.tmp 136) rfl (ptr gr) rfl) ?_
              simp only [Act.put, List.setIfInBounds_toArray, List.set_cons_succ, List.set_cons_zero]
              refine wl rfl (.int .i64 0) _ (run_asZ (.tmp 137) rfl (.int .i64 0) rfl) ?_
              simp only [Act.put, List.setIfInBounds_toArray, List.set_cons_succ, List.set_cons_zero]
              refine wpList_nil ?_
              have HRT : Hid (Calls Tryd.prog 27 #[ptr gr] W12 fun e W' => e = .returned (.int .i64 (-1)) ∧ W12 = W') := by
                have h := H12.out.root
                rw [HLU.out.2.1] at h
                exact h
              have HRM : Hid (Calls Tryd.prog 29 #[ptr gr] W12 fun e W' => e = .returned (.int .i64 8) ∧ Below W12.heap.size W12 W') := by
                have h := H12.out.room
                rw [room_used L (hdU noneP) HLU.out.1, exW.2.1] at h
                exact h
              go_upto_region 40 with fail
              refine wp_region_lit ?_
              refine wl rfl (.int .i64 0) _ (run_mvZ (.tmp 8) rfl (.int .i64 0) rfl) ?_
              simp only [Act.put, List.setIfInBounds_toArray, List.set_cons_succ, List.set_cons_zero]
              refine wl rfl (.bool false) _ (run_neZ (.tmp 138) (.const (.int .i64 0)) rfl (0) (0) rfl rfl false rfl) ?_
              simp only [Act.put, List.setIfInBounds_toArray, List.set_cons_succ, List.set_cons_zero]
              refine wl rfl (.bool false) _ (run_mvZ (.tmp 139) rfl (.bool false) rfl) ?_
              simp only [Act.put, List.setIfInBounds_toArray, List.set_cons_succ, List.set_cons_zero]
              refine wl (by kernel_rfl) (ptr gr) _ (run_mvZ (.tmp 18) rfl (ptr gr) rfl) ?_
              simp only [Act.put, List.setIfInBounds_toArray, List.set_cons_succ, List.set_cons_zero]
              refine wl (by kernel_rfl) (.bool false) _ (run_binOp' (.tmp 141) (.const (.pointer none)) rfl _ _ _ rfl rfl rfl (by kernel_rfl)) ?_
              simp only [Act.put, List.setIfInBounds_toArray, List.set_cons_succ, List.set_cons_zero]
              refine wl rfl (.bool false) _ (run_pickZ (.tmp 140) (.const (.bool true)) (.tmp 142) rfl false (.bool false) rfl rfl) ?_
              simp only [Act.put, List.setIfInBounds_toArray, List.set_cons_succ, List.set_cons_zero]
              refine wl rfl (.bool false) _ (run_mvZ (.tmp 143) rfl (.bool false) rfl) ?_
              simp only [Act.put, List.setIfInBounds_toArray, List.set_cons_succ, List.set_cons_zero]
              refine wl (by kernel_rfl) (.int .i64 0) _ (run_mvZ (.tmp 19) rfl (.int .i64 0) rfl) ?_
              simp only [Act.put, List.setIfInBounds_toArray, List.set_cons_succ, List.set_cons_zero]
              refine wl (by kernel_rfl) (.bool false) _ (run_neZ (.tmp 145) (.const (.int .i64 0)) rfl (0) (0) rfl rfl false rfl) ?_
              simp only [Act.put, List.setIfInBounds_toArray, List.set_cons_succ, List.set_cons_zero]
              refine wl rfl (.bool false) _ (run_pickZ (.tmp 144) (.const (.bool true)) (.tmp 146) rfl false (.bool false) rfl rfl) ?_
              simp only [Act.put, List.setIfInBounds_toArray, List.set_cons_succ, List.set_cons_zero]
              refine wl rfl (.bool false) _ (run_mvZ (.tmp 147) rfl (.bool false) rfl) ?_
              simp only [Act.put, List.setIfInBounds_toArray, List.set_cons_succ, List.set_cons_zero]
              refine wl (by kernel_rfl) (ptr gr) _ (run_mvZ (.tmp 18) rfl (ptr gr) rfl) ?_
              simp only [Act.put, List.setIfInBounds_toArray, List.set_cons_succ, List.set_cons_zero]
              refine wpList_callW eN27 [.tmp 149] _ (by kernel_rfl) rfl [(ptr gr)] rfl ?_
              refine HRT.out.mono ?_
              rintro e W_ ⟨rfl, rfl⟩
              refine ⟨_, rfl, ?_⟩
              simp only [Act.put, List.setIfInBounds_toArray, List.set_cons_succ, List.set_cons_zero]
              refine wl (by kernel_rfl) (.bool false) _ (run_neZ (.tmp 150) (.const (.int .i64 (-1))) rfl (-1) (-1) rfl rfl false rfl) ?_
              simp only [Act.put, List.setIfInBounds_toArray, List.set_cons_succ, List.set_cons_zero]
              refine wl rfl (.bool false) _ (run_pickZ (.tmp 148) (.const (.bool true)) (.tmp 151) rfl false (.bool false) rfl rfl) ?_
              simp only [Act.put, List.setIfInBounds_toArray, List.set_cons_succ, List.set_cons_zero]
              refine wl rfl (.bool false) _ (run_mvZ (.tmp 152) rfl (.bool false) rfl) ?_
              simp only [Act.put, List.setIfInBounds_toArray, List.set_cons_succ, List.set_cons_zero]
              refine wl (by kernel_rfl) (ptr gr) _ (run_mvZ (.tmp 18) rfl (ptr gr) rfl) ?_
              simp only [Act.put, List.setIfInBounds_toArray, List.set_cons_succ, List.set_cons_zero]
              refine wpList_callW eN29 [.tmp 154] _ (by kernel_rfl) rfl [(ptr gr)] rfl ?_
              refine HRM.out.mono ?_
              rintro e W13 ⟨rfl, b_⟩
              refine ⟨_, rfl, ?_⟩
              have H13 : Hid (PgW W0 W13 c11 gr g m11 [66] [] 0 8 L noneP X 106) := H12.out.bel b_
              clear b_ HRM HRT H12
              simp only [Act.put, List.setIfInBounds_toArray, List.set_cons_succ, List.set_cons_zero]
              refine wl (by kernel_rfl) (.bool false) _ (run_neZ (.tmp 155) (.const (.int .i64 8)) rfl (8) (8) rfl rfl false rfl) ?_
              simp only [Act.put, List.setIfInBounds_toArray, List.set_cons_succ, List.set_cons_zero]
              refine wl rfl (.bool false) _ (run_pickZ (.tmp 153) (.const (.bool true)) (.tmp 156) rfl false (.bool false) rfl rfl) ?_
              simp only [Act.put, List.setIfInBounds_toArray, List.set_cons_succ, List.set_cons_zero]
              refine wpList_nil ?_
              go_upto_region 42 with fail
              refine wp_region_lit ?_
              refine wl rfl (ptr gr) _ (run_mvZ (.tmp 18) rfl (ptr gr) rfl) ?_
              simp only [Act.put, List.setIfInBounds_toArray, List.set_cons_succ, List.set_cons_zero]
              refine wl rfl (.slice (some ⟨W13.heap.size, 0, none⟩) 4 4) _ (run_lit38_4 rfl) ?_
              simp only [Act.put, List.setIfInBounds_toArray, List.set_cons_succ, List.set_cons_zero]
              refine wl rfl (.slice (some ⟨W13.heap.size, 0, none⟩) 4 4) _ (run_cv38 (w := W13) (.tmp 160) rfl _ _ rfl) ?_
              have HB : Hid (SliceIn (W13.alloc (.cells #[.int .u8 112, .int .u8 97, .int .u8 103, .int .u8 101] 5 (4, 4 + 1))) (.slice (some ⟨W13.heap.size, 0, none⟩) 4 4) [112, 97, 103, 101] ∧ Below W13.heap.size W13 (W13.alloc (.cells #[.int .u8 112, .int .u8 97, .int .u8 103, .int .u8 101] 5 (4, 4 + 1)))) := ⟨bytes_lit W13 [112, 97, 103, 101] (by decide) (by decide) _, below_alloc W13 _⟩
              obtain ⟨W14, hW_⟩ : ∃ W, W = W13.alloc (.cells #[.int .u8 112, .int .u8 97, .int .u8 103, .int .u8 101] 5 (4, 4 + 1)) := ⟨_, rfl⟩
              obtain ⟨q9, hq_⟩ : ∃ q, q = W13.heap.size := ⟨_, rfl⟩
              rw [← hW_] at HB
              change wpList _ _ _ _ _ (W13.alloc (.cells #[.int .u8 112, .int .u8 97, .int .u8 103, .int .u8 101] 5 (4, 4 + 1)))
              rw [← hW_, ← hq_]
              have HS : Hid (SliceIn W14 (.slice (some ⟨q9, 0, none⟩) 4 4) [112, 97, 103, 101]) := by rw [hq_]; exact HB.out.1
              have H14 : Hid (PgW W0 W14 c11 gr g m11 [66] [] 0 8 L noneP X 106) := H13.out.bel HB.out.2
              clear H13
              clear hW_ hq_ HB
              simp only [Act.put, List.setIfInBounds_toArray, List.set_cons_succ, List.set_cons_zero]
              refine wpList_callW eN15 [.tmp 159, .tmp 161] _ rfl rfl [(ptr gr), (.slice (some ⟨q9, 0, none⟩) 4 4)] rfl ?_
              refine (PgW.putOk H14.out (by decide) HLU.out.2.2 _ _ HS.out (by decide) 0 (by rw [least_used L (hdU noneP) HLU.out.1]; exact exW.1)).mono ?_
              rintro e W15 ⟨c15, m15, rfl, _, f_, h_⟩
              refine ⟨_, rfl, ?_⟩
              obtain ⟨X15, hX_⟩ : ∃ X2, X2 = updP X 0 (imOf [112, 97, 103, 101]) := ⟨_, rfl⟩
              rw [← hX_] at h_
              have H15 : Hid (PgW W0 W15 c15 gr g m15 [66] [] 0 8 L (withP noneP 0) X15 114 ∧ m15.fuse < 0) := ⟨h_, f_⟩
              clear h_ f_ hX_ H14 HS
              simp only [Act.put, List.setIfInBounds_toArray, List.set_cons_succ, List.set_cons_zero]
              refine wl rfl (.tuple #[(.int .i64 0), (.int .i64 0)]) _ (run_mvZ (.tmp 162) rfl (.tuple #[(.int .i64 0), (.int .i64 0)]) rfl) ?_
              simp only [Act.put, List.setIfInBounds_toArray, List.set_cons_succ, List.set_cons_zero]
              refine wl rfl (.int .i64 0) _ (run_extZ (.tmp 158) 0 rfl #[(.int .i64 0), (.int .i64 0)] rfl (.int .i64 0) rfl) ?_
              simp only [Act.put, List.setIfInBounds_toArray, List.set_cons_succ, List.set_cons_zero]
              refine wl rfl (.int .i64 0) _ (run_extZ (.tmp 158) 1 rfl #[(.int .i64 0), (.int .i64 0)] rfl (.int .i64 0) rfl) ?_
              simp only [Act.put, List.setIfInBounds_toArray, List.set_cons_succ, List.set_cons_zero]
              refine wl rfl (.int .i64 0) _ (run_asZ (.tmp 163) rfl (.int .i64 0) rfl) ?_
              simp only [Act.put, List.setIfInBounds_toArray, List.set_cons_succ, List.set_cons_zero]
              refine wl rfl (.int .i64 0) _ (run_asZ (.tmp 164) rfl (.int .i64 0) rfl) ?_
              simp only [Act.put, List.setIfInBounds_toArray, List.set_cons_succ, List.set_cons_zero]
              refine wpList_nil ?_
              go_upto_region 43 with fail
              refine wp_region_lit ?_
              refine wl rfl (ptr gr) _ (run_mvZ (.tmp 18) rfl (ptr gr) rfl) ?_
              simp only [Act.put, List.setIfInBounds_toArray, List.set_cons_succ, List.set_cons_zero]
              refine wl rfl (.int .i64 0) _ (run_mvZ (.tmp 20) rfl (.int .i64 0) rfl) ?_
              simp only [Act.put, List.setIfInBounds_toArray, List.set_cons_succ, List.set_cons_zero]
              refine wpList_callW eN19 [.tmp 165, .tmp 166] _ rfl rfl [(ptr gr), (.int .i64 0)] rfl ?_
              refine (PgW.comC H15.out.1 (by decide) H15.out.2 0 exW.2.2).mono ?_
              rintro e W16 ⟨c16, m16, rfl, _, _, _, h_⟩
              refine ⟨_, rfl, ?_⟩
              have H16 : Hid (PgW W0 W16 c16 gr g m16 [66] [] 0 8 (nextHd L 0 (withP noneP 0)) (withP noneP 0) X15 117) := h_
              clear h_ H15
              simp only [Act.put, List.setIfInBounds_toArray, List.set_cons_succ, List.set_cons_zero]
              refine wl rfl (.int .i64 0) _ (run_asZ (.tmp 167) rfl (.int .i64 0) rfl) ?_
              simp only [Act.put, List.setIfInBounds_toArray, List.set_cons_succ, List.set_cons_zero]
              refine wpList_nil ?_
              go_upto_region 44 with fail
              refine wp_region_lit ?_
              refine wl rfl (ptr g) _ (run_mvZ (.tmp 6) rfl (ptr g) rfl) ?_
              simp only [Act.put, List.setIfInBounds_toArray, List.set_cons_succ, List.set_cons_zero]
              refine wpList_callW eN13 [.tmp 169, .const (.int .i64 0)] _ rfl rfl [(ptr g), .int .i64 0] rfl ?_
              refine (PlW.openZ H16.out.pl (by decide) (by decide) (L := nextHd L 0 (withP noneP 0)) H16.out.o).mono ?_
              rintro e W17 ⟨gs, rfl, b_, h_⟩
              refine ⟨_, rfl, ?_⟩
              have H17 : Hid (PgW W0 W17 c16 gs g m16 [66] [] 0 8 (nextHd L 0 (withP noneP 0)) (withP noneP 0) X15 117) := h_
              have HR0 : Hid (Calls Tryd.prog 27 #[ptr gs] W17 fun e W' => e = .returned (.int .i64 0) ∧ W17 = W') := h_.root
              clear h_ b_ H16
              simp only [Act.put, List.setIfInBounds_toArray, List.set_cons_succ, List.set_cons_zero]
              refine wl rfl (.tuple #[(ptr gs), (.int .i64 0)]) _ (run_mvZ (.tmp 170) rfl (.tuple #[(ptr gs), (.int .i64 0)]) rfl) ?_
              simp only [Act.put, List.setIfInBounds_toArray, List.set_cons_succ, List.set_cons_zero]
              refine wl rfl (ptr gs) _ (run_extZ (.tmp 168) 0 rfl #[(ptr gs), (.int .i64 0)] rfl (ptr gs) rfl) ?_
              simp only [Act.put, List.setIfInBounds_toArray, List.set_cons_succ, List.set_cons_zero]
              refine wl rfl (.int .i64 0) _ (run_extZ (.tmp 168) 1 rfl #[(ptr gs), (.int .i64 0)] rfl (.int .i64 0) rfl) ?_
              simp only [Act.put, List.setIfInBounds_toArray, List.set_cons_succ, List.set_cons_zero]
              refine wl rfl (ptr gs) _ (run_asZ (.tmp 171) rfl (ptr gs) rfl) ?_
              simp only [Act.put, List.setIfInBounds_toArray, List.set_cons_succ, List.set_cons_zero]
              refine wl rfl (.int .i64 0) _ (run_asZ (.tmp 172) rfl (.int .i64 0) rfl) ?_
              simp only [Act.put, List.setIfInBounds_toArray, List.set_cons_succ, List.set_cons_zero]
              refine wpList_nil ?_
              go_upto_region 45 with fail
              refine wp_region_lit ?_
              refine wl rfl (.int .i64 0) _ (run_mvZ (.tmp 7) rfl (.int .i64 0) rfl) ?_
              simp only [Act.put, List.setIfInBounds_toArray, List.set_cons_succ, List.set_cons_zero]
              refine wl rfl (.bool true) _ (run_eqZ (.tmp 173) (.const (.int .i64 0)) rfl (0) (0) rfl rfl true rfl) ?_
              simp only [Act.put, List.setIfInBounds_toArray, List.set_cons_succ, List.set_cons_zero]
              refine wl rfl (.bool true) _ (run_mvZ (.tmp 174) rfl (.bool true) rfl) ?_
              simp only [Act.put, List.setIfInBounds_toArray, List.set_cons_succ, List.set_cons_zero]
              refine wl (by kernel_rfl) (.int .i64 0) _ (run_mvZ (.tmp 20) rfl (.int .i64 0) rfl) ?_
              simp only [Act.put, List.setIfInBounds_toArray, List.set_cons_succ, List.set_cons_zero]
              refine wl (by kernel_rfl) (.bool true) _ (run_eqZ (.tmp 176) (.const (.int .i64 0)) rfl (0) (0) rfl rfl true rfl) ?_
              simp only [Act.put, List.setIfInBounds_toArray, List.set_cons_succ, List.set_cons_zero]
              refine wl rfl (.bool true) _ (run_pickZ (.tmp 175) (.tmp 177) (.const (.bool false)) rfl true (.bool true) rfl rfl) ?_
              simp only [Act.put, List.setIfInBounds_toArray, List.set_cons_succ, List.set_cons_zero]
              refine wl rfl (.bool true) _ (run_mvZ (.tmp 178) rfl (.bool true) rfl) ?_
              simp only [Act.put, List.setIfInBounds_toArray, List.set_cons_succ, List.set_cons_zero]
              refine wl (by kernel_rfl) (.int .i64 0) _ (run_mvZ (.tmp 21) rfl (.int .i64 0) rfl) ?_
              simp only [Act.put, List.setIfInBounds_toArray, List.set_cons_succ, List.set_cons_zero]
              refine wl (by kernel_rfl) (.bool true) _ (run_eqZ (.tmp 180) (.const (.int .i64 0)) rfl (0) (0) rfl rfl true rfl) ?_
              simp only [Act.put, List.setIfInBounds_toArray, List.set_cons_succ, List.set_cons_zero]
              refine wl rfl (.bool true) _ (run_pickZ (.tmp 179) (.tmp 181) (.const (.bool false)) rfl true (.bool true) rfl rfl) ?_
              simp only [Act.put, List.setIfInBounds_toArray, List.set_cons_succ, List.set_cons_zero]
              refine wl rfl (.bool true) _ (run_mvZ (.tmp 182) rfl (.bool true) rfl) ?_
              simp only [Act.put, List.setIfInBounds_toArray, List.set_cons_succ, List.set_cons_zero]
              refine wl (by kernel_rfl) (ptr gs) _ (run_mvZ (.tmp 22) rfl (ptr gs) rfl) ?_
              simp only [Act.put, List.setIfInBounds_toArray, List.set_cons_succ, List.set_cons_zero]
              refine wl (by kernel_rfl) (.bool true) _ (run_binOp' (.tmp 184) (.const (.pointer none)) rfl _ _ _ rfl rfl rfl (by kernel_rfl)) ?_
              simp only [Act.put, List.setIfInBounds_toArray, List.set_cons_succ, List.set_cons_zero]
              refine wl rfl (.bool true) _ (run_pickZ (.tmp 183) (.tmp 185) (.const (.bool false)) rfl true (.bool true) rfl rfl) ?_
              simp only [Act.put, List.setIfInBounds_toArray, List.set_cons_succ, List.set_cons_zero]
              refine wl rfl (.bool true) _ (run_mvZ (.tmp 186) rfl (.bool true) rfl) ?_
              simp only [Act.put, List.setIfInBounds_toArray, List.set_cons_succ, List.set_cons_zero]
              refine wl (by kernel_rfl) (.int .i64 0) _ (run_mvZ (.tmp 19) rfl (.int .i64 0) rfl) ?_
              simp only [Act.put, List.setIfInBounds_toArray, List.set_cons_succ, List.set_cons_zero]
              refine wl (by kernel_rfl) (.bool true) _ (run_eqZ (.tmp 188) (.const (.int .i64 0)) rfl (0) (0) rfl rfl true rfl) ?_
              simp only [Act.put, List.setIfInBounds_toArray, List.set_cons_succ, List.set_cons_zero]
              refine wl rfl (.bool true) _ (run_pickZ (.tmp 187) (.tmp 189) (.const (.bool false)) rfl true (.bool true) rfl rfl) ?_
              simp only [Act.put, List.setIfInBounds_toArray, List.set_cons_succ, List.set_cons_zero]
              refine wl rfl (.bool true) _ (run_mvZ (.tmp 190) rfl (.bool true) rfl) ?_
              simp only [Act.put, List.setIfInBounds_toArray, List.set_cons_succ, List.set_cons_zero]
              refine wl (by kernel_rfl) (ptr gs) _ (run_mvZ (.tmp 22) rfl (ptr gs) rfl) ?_
              simp only [Act.put, List.setIfInBounds_toArray, List.set_cons_succ, List.set_cons_zero]
              refine wpList_callW eN27 [.tmp 192] _ (by kernel_rfl) rfl [(ptr gs)] rfl ?_
              refine HR0.out.mono ?_
              rintro e W_ ⟨rfl, rfl⟩
              refine ⟨_, rfl, ?_⟩
              simp only [Act.put, List.setIfInBounds_toArray, List.set_cons_succ, List.set_cons_zero]
              refine wl (by kernel_rfl) (.bool true) _ (run_eqZ (.tmp 193) (.const (.int .i64 0)) rfl (0) (0) rfl rfl true rfl) ?_
              simp only [Act.put, List.setIfInBounds_toArray, List.set_cons_succ, List.set_cons_zero]
              refine wl rfl (.bool true) _ (run_pickZ (.tmp 191) (.tmp 194) (.const (.bool false)) rfl true (.bool true) rfl rfl) ?_
              simp only [Act.put, List.setIfInBounds_toArray, List.set_cons_succ, List.set_cons_zero]
              refine wl rfl (.bool true) _ (run_asZ (.tmp 195) rfl (.bool true) rfl) ?_
              simp only [Act.put, List.setIfInBounds_toArray, List.set_cons_succ, List.set_cons_zero]
              refine wpList_nil ?_
              go_wp2_with fail
              rw [HPQ.out]
              exact ⟨rfl, HB0.out.2.trans (H17.out.pl.below.mono HB0.out.2.size)⟩
            · go_upto_region 36 with fail
              refine wp_region_lit ?_
              refine wl rfl (ptr gq) _ (run_mvZ (.tmp 18) rfl (ptr gq) rfl) ?_
              simp only [Act.put, List.setIfInBounds_toArray, List.set_cons_succ, List.set_cons_zero]
              refine wl rfl (.bool false) _ (run_binOp' (.tmp 125) (.const (.pointer none)) rfl _ _ _ rfl rfl rfl (by kernel_rfl)) ?_
              simp only [Act.put, List.setIfInBounds_toArray, List.set_cons_succ, List.set_cons_zero]
              refine wl rfl (.bool false) _ (run_mvZ (.tmp 126) rfl (.bool false) rfl) ?_
              simp only [Act.put, List.setIfInBounds_toArray, List.set_cons_succ, List.set_cons_zero]
              refine wpList_skip (by kernel_rfl) ?_
              simp only [Act.put, List.setIfInBounds_toArray, List.set_cons_succ, List.set_cons_zero]
              refine wpList_skip (by kernel_rfl) ?_
              simp only [Act.put, List.setIfInBounds_toArray, List.set_cons_succ, List.set_cons_zero]
              refine wl rfl (.bool false) _ (run_pickZ (.tmp 127) (.tmp 129) (.const (.bool false)) rfl false (.bool false) rfl rfl) ?_
              simp only [Act.put, List.setIfInBounds_toArray, List.set_cons_succ, List.set_cons_zero]
              refine wpList_nil ?_
              go_upto_region 38 with fail
              refine wp_region_lit ?_
              refine wl rfl (ptr g) _ (run_mvZ (.tmp 6) rfl (ptr g) rfl) ?_
              simp only [Act.put, List.setIfInBounds_toArray, List.set_cons_succ, List.set_cons_zero]
              refine wpList_callW eN11 [.tmp 131, .const (.int .i64 0)] _ rfl rfl [(ptr g), .int .i64 0] rfl ?_
              refine (Calm.formatS H10.out.1 (by decide) H10.out.2).mono ?_
              rintro e W11 ⟨rfl, c11, m11, L, X, h_, o_, f_, u_, r_⟩
              refine ⟨_, rfl, ?_⟩
              have H11 : Hid (PlW W0 W11 c11 g m11 [66] [] 106 ∧ PgO m11 0 8 L L.used X ∧ m11.fuse < 0 ∧ L.used = noneP ∧ L.root = -1) := ⟨h_, o_, f_, u_, r_⟩
              clear h_ o_ f_ u_ r_ H10
              simp only [Act.put, List.setIfInBounds_toArray, List.set_cons_succ, List.set_cons_zero]
              refine wl rfl (.int .i64 0) _ (run_asZ (.tmp 132) rfl (.int .i64 0) rfl) ?_
              simp only [Act.put, List.setIfInBounds_toArray, List.set_cons_succ, List.set_cons_zero]
              refine wpList_nil ?_
              go_upto_region 39 with fail
              refine wp_region_lit ?_
              refine wl rfl (ptr g) _ (run_mvZ (.tmp 6) rfl (ptr g) rfl) ?_
              simp only [Act.put, List.setIfInBounds_toArray, List.set_cons_succ, List.set_cons_zero]
              refine wpList_callW eN13 [.tmp 134, .const (.int .i64 0)] _ rfl rfl [(ptr g), .int .i64 0] rfl ?_
              refine (PlW.openZ H11.out.1 (by decide) (by decide) H11.out.2.1).mono ?_
              rintro e W12 ⟨gr, rfl, b_, h_⟩
              refine ⟨_, rfl, ?_⟩
              have HLU : Hid (L.used = noneP ∧ L.root = -1 ∧ m11.fuse < 0) := ⟨H11.out.2.2.2.1, H11.out.2.2.2.2, H11.out.2.2.1⟩
              have H12 : Hid (PgW W0 W12 c11 gr g m11 [66] [] 0 8 L noneP X 106) := by
                have h1 := h_
                rw [HLU.out.1] at h1
                exact h1
              clear h_ b_ H11
              simp only [Act.put, List.setIfInBounds_toArray, List.set_cons_succ, List.set_cons_zero]
              refine wl rfl (.tuple #[(ptr gr), (.int .i64 0)]) _ (run_mvZ (.tmp 135) rfl (.tuple #[(ptr gr), (.int .i64 0)]) rfl) ?_
              simp only [Act.put, List.setIfInBounds_toArray, List.set_cons_succ, List.set_cons_zero]
              refine wl rfl (ptr gr) _ (run_extZ (.tmp 133) 0 rfl #[(ptr gr), (.int .i64 0)] rfl (ptr gr) rfl) ?_
              simp only [Act.put, List.setIfInBounds_toArray, List.set_cons_succ, List.set_cons_zero]
              refine wl rfl (.int .i64 0) _ (run_extZ (.tmp 133) 1 rfl #[(ptr gr), (.int .i64 0)] rfl (.int .i64 0) rfl) ?_
              simp only [Act.put, List.setIfInBounds_toArray, List.set_cons_succ, List.set_cons_zero]
              refine wl rfl (ptr gr) _ (run_asZ (.tmp 136) rfl (ptr gr) rfl) ?_
              simp only [Act.put, List.setIfInBounds_toArray, List.set_cons_succ, List.set_cons_zero]
              refine wl rfl (.int .i64 0) _ (run_asZ (.tmp 137) rfl (.int .i64 0) rfl) ?_
              simp only [Act.put, List.setIfInBounds_toArray, List.set_cons_succ, List.set_cons_zero]
              refine wpList_nil ?_
              have HRT : Hid (Calls Tryd.prog 27 #[ptr gr] W12 fun e W' => e = .returned (.int .i64 (-1)) ∧ W12 = W') := by
                have h := H12.out.root
                rw [HLU.out.2.1] at h
                exact h
              have HRM : Hid (Calls Tryd.prog 29 #[ptr gr] W12 fun e W' => e = .returned (.int .i64 8) ∧ Below W12.heap.size W12 W') := by
                have h := H12.out.room
                rw [room_used L (hdU noneP) HLU.out.1, exW.2.1] at h
                exact h
              go_upto_region 40 with fail
              refine wp_region_lit ?_
              refine wl rfl (.int .i64 0) _ (run_mvZ (.tmp 8) rfl (.int .i64 0) rfl) ?_
              simp only [Act.put, List.setIfInBounds_toArray, List.set_cons_succ, List.set_cons_zero]
              refine wl rfl (.bool false) _ (run_neZ (.tmp 138) (.const (.int .i64 0)) rfl (0) (0) rfl rfl false rfl) ?_
              simp only [Act.put, List.setIfInBounds_toArray, List.set_cons_succ, List.set_cons_zero]
              refine wl rfl (.bool false) _ (run_mvZ (.tmp 139) rfl (.bool false) rfl) ?_
              simp only [Act.put, List.setIfInBounds_toArray, List.set_cons_succ, List.set_cons_zero]
              refine wl (by kernel_rfl) (ptr gr) _ (run_mvZ (.tmp 18) rfl (ptr gr) rfl) ?_
              simp only [Act.put, List.setIfInBounds_toArray, List.set_cons_succ, List.set_cons_zero]
              refine wl (by kernel_rfl) (.bool false) _ (run_binOp' (.tmp 141) (.const (.pointer none)) rfl _ _ _ rfl rfl rfl (by kernel_rfl)) ?_
              simp only [Act.put, List.setIfInBounds_toArray, List.set_cons_succ, List.set_cons_zero]
              refine wl rfl (.bool false) _ (run_pickZ (.tmp 140) (.const (.bool true)) (.tmp 142) rfl false (.bool false) rfl rfl) ?_
              simp only [Act.put, List.setIfInBounds_toArray, List.set_cons_succ, List.set_cons_zero]
              refine wl rfl (.bool false) _ (run_mvZ (.tmp 143) rfl (.bool false) rfl) ?_
              simp only [Act.put, List.setIfInBounds_toArray, List.set_cons_succ, List.set_cons_zero]
              refine wl (by kernel_rfl) (.int .i64 0) _ (run_mvZ (.tmp 19) rfl (.int .i64 0) rfl) ?_
              simp only [Act.put, List.setIfInBounds_toArray, List.set_cons_succ, List.set_cons_zero]
              refine wl (by kernel_rfl) (.bool false) _ (run_neZ (.tmp 145) (.const (.int .i64 0)) rfl (0) (0) rfl rfl false rfl) ?_
              simp only [Act.put, List.setIfInBounds_toArray, List.set_cons_succ, List.set_cons_zero]
              refine wl rfl (.bool false) _ (run_pickZ (.tmp 144) (.const (.bool true)) (.tmp 146) rfl false (.bool false) rfl rfl) ?_
              simp only [Act.put, List.setIfInBounds_toArray, List.set_cons_succ, List.set_cons_zero]
              refine wl rfl (.bool false) _ (run_mvZ (.tmp 147) rfl (.bool false) rfl) ?_
              simp only [Act.put, List.setIfInBounds_toArray, List.set_cons_succ, List.set_cons_zero]
              refine wl (by kernel_rfl) (ptr gr) _ (run_mvZ (.tmp 18) rfl (ptr gr) rfl) ?_
              simp only [Act.put, List.setIfInBounds_toArray, List.set_cons_succ, List.set_cons_zero]
              refine wpList_callW eN27 [.tmp 149] _ (by kernel_rfl) rfl [(ptr gr)] rfl ?_
              refine HRT.out.mono ?_
              rintro e W_ ⟨rfl, rfl⟩
              refine ⟨_, rfl, ?_⟩
              simp only [Act.put, List.setIfInBounds_toArray, List.set_cons_succ, List.set_cons_zero]
              refine wl (by kernel_rfl) (.bool false) _ (run_neZ (.tmp 150) (.const (.int .i64 (-1))) rfl (-1) (-1) rfl rfl false rfl) ?_
              simp only [Act.put, List.setIfInBounds_toArray, List.set_cons_succ, List.set_cons_zero]
              refine wl rfl (.bool false) _ (run_pickZ (.tmp 148) (.const (.bool true)) (.tmp 151) rfl false (.bool false) rfl rfl) ?_
              simp only [Act.put, List.setIfInBounds_toArray, List.set_cons_succ, List.set_cons_zero]
              refine wl rfl (.bool false) _ (run_mvZ (.tmp 152) rfl (.bool false) rfl) ?_
              simp only [Act.put, List.setIfInBounds_toArray, List.set_cons_succ, List.set_cons_zero]
              refine wl (by kernel_rfl) (ptr gr) _ (run_mvZ (.tmp 18) rfl (ptr gr) rfl) ?_
              simp only [Act.put, List.setIfInBounds_toArray, List.set_cons_succ, List.set_cons_zero]
              refine wpList_callW eN29 [.tmp 154] _ (by kernel_rfl) rfl [(ptr gr)] rfl ?_
              refine HRM.out.mono ?_
              rintro e W13 ⟨rfl, b_⟩
              refine ⟨_, rfl, ?_⟩
              have H13 : Hid (PgW W0 W13 c11 gr g m11 [66] [] 0 8 L noneP X 106) := H12.out.bel b_
              clear b_ HRM HRT H12
              simp only [Act.put, List.setIfInBounds_toArray, List.set_cons_succ, List.set_cons_zero]
              refine wl (by kernel_rfl) (.bool false) _ (run_neZ (.tmp 155) (.const (.int .i64 8)) rfl (8) (8) rfl rfl false rfl) ?_
              simp only [Act.put, List.setIfInBounds_toArray, List.set_cons_succ, List.set_cons_zero]
              refine wl rfl (.bool false) _ (run_pickZ (.tmp 153) (.const (.bool true)) (.tmp 156) rfl false (.bool false) rfl rfl) ?_
              simp only [Act.put, List.setIfInBounds_toArray, List.set_cons_succ, List.set_cons_zero]
              refine wpList_nil ?_
              go_upto_region 42 with fail
              refine wp_region_lit ?_
              refine wl rfl (ptr gr) _ (run_mvZ (.tmp 18) rfl (ptr gr) rfl) ?_
              simp only [Act.put, List.setIfInBounds_toArray, List.set_cons_succ, List.set_cons_zero]
              refine wl rfl (.slice (some ⟨W13.heap.size, 0, none⟩) 4 4) _ (run_lit38_4 rfl) ?_
              simp only [Act.put, List.setIfInBounds_toArray, List.set_cons_succ, List.set_cons_zero]
              refine wl rfl (.slice (some ⟨W13.heap.size, 0, none⟩) 4 4) _ (run_cv38 (w := W13) (.tmp 160) rfl _ _ rfl) ?_
              have HB : Hid (SliceIn (W13.alloc (.cells #[.int .u8 112, .int .u8 97, .int .u8 103, .int .u8 101] 5 (4, 4 + 1))) (.slice (some ⟨W13.heap.size, 0, none⟩) 4 4) [112, 97, 103, 101] ∧ Below W13.heap.size W13 (W13.alloc (.cells #[.int .u8 112, .int .u8 97, .int .u8 103, .int .u8 101] 5 (4, 4 + 1)))) := ⟨bytes_lit W13 [112, 97, 103, 101] (by decide) (by decide) _, below_alloc W13 _⟩
              obtain ⟨W14, hW_⟩ : ∃ W, W = W13.alloc (.cells #[.int .u8 112, .int .u8 97, .int .u8 103, .int .u8 101] 5 (4, 4 + 1)) := ⟨_, rfl⟩
              obtain ⟨q9, hq_⟩ : ∃ q, q = W13.heap.size := ⟨_, rfl⟩
              rw [← hW_] at HB
              change wpList _ _ _ _ _ (W13.alloc (.cells #[.int .u8 112, .int .u8 97, .int .u8 103, .int .u8 101] 5 (4, 4 + 1)))
              rw [← hW_, ← hq_]
              have HS : Hid (SliceIn W14 (.slice (some ⟨q9, 0, none⟩) 4 4) [112, 97, 103, 101]) := by rw [hq_]; exact HB.out.1
              have H14 : Hid (PgW W0 W14 c11 gr g m11 [66] [] 0 8 L noneP X 106) := H13.out.bel HB.out.2
              clear H13
              clear hW_ hq_ HB
              simp only [Act.put, List.setIfInBounds_toArray, List.set_cons_succ, List.set_cons_zero]
              refine wpList_callW eN15 [.tmp 159, .tmp 161] _ rfl rfl [(ptr gr), (.slice (some ⟨q9, 0, none⟩) 4 4)] rfl ?_
              refine (PgW.putOk H14.out (by decide) HLU.out.2.2 _ _ HS.out (by decide) 0 (by rw [least_used L (hdU noneP) HLU.out.1]; exact exW.1)).mono ?_
              rintro e W15 ⟨c15, m15, rfl, _, f_, h_⟩
              refine ⟨_, rfl, ?_⟩
              obtain ⟨X15, hX_⟩ : ∃ X2, X2 = updP X 0 (imOf [112, 97, 103, 101]) := ⟨_, rfl⟩
              rw [← hX_] at h_
              have H15 : Hid (PgW W0 W15 c15 gr g m15 [66] [] 0 8 L (withP noneP 0) X15 114 ∧ m15.fuse < 0) := ⟨h_, f_⟩
              clear h_ f_ hX_ H14 HS
              simp only [Act.put, List.setIfInBounds_toArray, List.set_cons_succ, List.set_cons_zero]
              refine wl rfl (.tuple #[(.int .i64 0), (.int .i64 0)]) _ (run_mvZ (.tmp 162) rfl (.tuple #[(.int .i64 0), (.int .i64 0)]) rfl) ?_
              simp only [Act.put, List.setIfInBounds_toArray, List.set_cons_succ, List.set_cons_zero]
              refine wl rfl (.int .i64 0) _ (run_extZ (.tmp 158) 0 rfl #[(.int .i64 0), (.int .i64 0)] rfl (.int .i64 0) rfl) ?_
              simp only [Act.put, List.setIfInBounds_toArray, List.set_cons_succ, List.set_cons_zero]
              refine wl rfl (.int .i64 0) _ (run_extZ (.tmp 158) 1 rfl #[(.int .i64 0), (.int .i64 0)] rfl (.int .i64 0) rfl) ?_
              simp only [Act.put, List.setIfInBounds_toArray, List.set_cons_succ, List.set_cons_zero]
              refine wl rfl (.int .i64 0) _ (run_asZ (.tmp 163) rfl (.int .i64 0) rfl) ?_
              simp only [Act.put, List.setIfInBounds_toArray, List.set_cons_succ, List.set_cons_zero]
              refine wl rfl (.int .i64 0) _ (run_asZ (.tmp 164) rfl (.int .i64 0) rfl) ?_
              simp only [Act.put, List.setIfInBounds_toArray, List.set_cons_succ, List.set_cons_zero]
              refine wpList_nil ?_
              go_upto_region 43 with fail
              refine wp_region_lit ?_
              refine wl rfl (ptr gr) _ (run_mvZ (.tmp 18) rfl (ptr gr) rfl) ?_
              simp only [Act.put, List.setIfInBounds_toArray, List.set_cons_succ, List.set_cons_zero]
              refine wl rfl (.int .i64 0) _ (run_mvZ (.tmp 20) rfl (.int .i64 0) rfl) ?_
              simp only [Act.put, List.setIfInBounds_toArray, List.set_cons_succ, List.set_cons_zero]
              refine wpList_callW eN19 [.tmp 165, .tmp 166] _ rfl rfl [(ptr gr), (.int .i64 0)] rfl ?_
              refine (PgW.comC H15.out.1 (by decide) H15.out.2 0 exW.2.2).mono ?_
              rintro e W16 ⟨c16, m16, rfl, _, _, _, h_⟩
              refine ⟨_, rfl, ?_⟩
              have H16 : Hid (PgW W0 W16 c16 gr g m16 [66] [] 0 8 (nextHd L 0 (withP noneP 0)) (withP noneP 0) X15 117) := h_
              clear h_ H15
              simp only [Act.put, List.setIfInBounds_toArray, List.set_cons_succ, List.set_cons_zero]
              refine wl rfl (.int .i64 0) _ (run_asZ (.tmp 167) rfl (.int .i64 0) rfl) ?_
              simp only [Act.put, List.setIfInBounds_toArray, List.set_cons_succ, List.set_cons_zero]
              refine wpList_nil ?_
              go_upto_region 44 with fail
              refine wp_region_lit ?_
              refine wl rfl (ptr g) _ (run_mvZ (.tmp 6) rfl (ptr g) rfl) ?_
              simp only [Act.put, List.setIfInBounds_toArray, List.set_cons_succ, List.set_cons_zero]
              refine wpList_callW eN13 [.tmp 169, .const (.int .i64 0)] _ rfl rfl [(ptr g), .int .i64 0] rfl ?_
              refine (PlW.openZ H16.out.pl (by decide) (by decide) (L := nextHd L 0 (withP noneP 0)) H16.out.o).mono ?_
              rintro e W17 ⟨gs, rfl, b_, h_⟩
              refine ⟨_, rfl, ?_⟩
              have H17 : Hid (PgW W0 W17 c16 gs g m16 [66] [] 0 8 (nextHd L 0 (withP noneP 0)) (withP noneP 0) X15 117) := h_
              have HR0 : Hid (Calls Tryd.prog 27 #[ptr gs] W17 fun e W' => e = .returned (.int .i64 0) ∧ W17 = W') := h_.root
              clear h_ b_ H16
              simp only [Act.put, List.setIfInBounds_toArray, List.set_cons_succ, List.set_cons_zero]
              refine wl rfl (.tuple #[(ptr gs), (.int .i64 0)]) _ (run_mvZ (.tmp 170) rfl (.tuple #[(ptr gs), (.int .i64 0)]) rfl) ?_
              simp only [Act.put, List.setIfInBounds_toArray, List.set_cons_succ, List.set_cons_zero]
              refine wl rfl (ptr gs) _ (run_extZ (.tmp 168) 0 rfl #[(ptr gs), (.int .i64 0)] rfl (ptr gs) rfl) ?_
              simp only [Act.put, List.setIfInBounds_toArray, List.set_cons_succ, List.set_cons_zero]
              refine wl rfl (.int .i64 0) _ (run_extZ (.tmp 168) 1 rfl #[(ptr gs), (.int .i64 0)] rfl (.int .i64 0) rfl) ?_
              simp only [Act.put, List.setIfInBounds_toArray, List.set_cons_succ, List.set_cons_zero]
              refine wl rfl (ptr gs) _ (run_asZ (.tmp 171) rfl (ptr gs) rfl) ?_
              simp only [Act.put, List.setIfInBounds_toArray, List.set_cons_succ, List.set_cons_zero]
              refine wl rfl (.int .i64 0) _ (run_asZ (.tmp 172) rfl (.int .i64 0) rfl) ?_
              simp only [Act.put, List.setIfInBounds_toArray, List.set_cons_succ, List.set_cons_zero]
              refine wpList_nil ?_
              go_upto_region 45 with fail
              refine wp_region_lit ?_
              refine wl rfl (.int .i64 0) _ (run_mvZ (.tmp 7) rfl (.int .i64 0) rfl) ?_
              simp only [Act.put, List.setIfInBounds_toArray, List.set_cons_succ, List.set_cons_zero]
              refine wl rfl (.bool true) _ (run_eqZ (.tmp 173) (.const (.int .i64 0)) rfl (0) (0) rfl rfl true rfl) ?_
              simp only [Act.put, List.setIfInBounds_toArray, List.set_cons_succ, List.set_cons_zero]
              refine wl rfl (.bool true) _ (run_mvZ (.tmp 174) rfl (.bool true) rfl) ?_
              simp only [Act.put, List.setIfInBounds_toArray, List.set_cons_succ, List.set_cons_zero]
              refine wl (by kernel_rfl) (.int .i64 0) _ (run_mvZ (.tmp 20) rfl (.int .i64 0) rfl) ?_
              simp only [Act.put, List.setIfInBounds_toArray, List.set_cons_succ, List.set_cons_zero]
              refine wl (by kernel_rfl) (.bool true) _ (run_eqZ (.tmp 176) (.const (.int .i64 0)) rfl (0) (0) rfl rfl true rfl) ?_
              simp only [Act.put, List.setIfInBounds_toArray, List.set_cons_succ, List.set_cons_zero]
              refine wl rfl (.bool true) _ (run_pickZ (.tmp 175) (.tmp 177) (.const (.bool false)) rfl true (.bool true) rfl rfl) ?_
              simp only [Act.put, List.setIfInBounds_toArray, List.set_cons_succ, List.set_cons_zero]
              refine wl rfl (.bool true) _ (run_mvZ (.tmp 178) rfl (.bool true) rfl) ?_
              simp only [Act.put, List.setIfInBounds_toArray, List.set_cons_succ, List.set_cons_zero]
              refine wl (by kernel_rfl) (.int .i64 0) _ (run_mvZ (.tmp 21) rfl (.int .i64 0) rfl) ?_
              simp only [Act.put, List.setIfInBounds_toArray, List.set_cons_succ, List.set_cons_zero]
              refine wl (by kernel_rfl) (.bool true) _ (run_eqZ (.tmp 180) (.const (.int .i64 0)) rfl (0) (0) rfl rfl true rfl) ?_
              simp only [Act.put, List.setIfInBounds_toArray, List.set_cons_succ, List.set_cons_zero]
              refine wl rfl (.bool true) _ (run_pickZ (.tmp 179) (.tmp 181) (.const (.bool false)) rfl true (.bool true) rfl rfl) ?_
              simp only [Act.put, List.setIfInBounds_toArray, List.set_cons_succ, List.set_cons_zero]
              refine wl rfl (.bool true) _ (run_mvZ (.tmp 182) rfl (.bool true) rfl) ?_
              simp only [Act.put, List.setIfInBounds_toArray, List.set_cons_succ, List.set_cons_zero]
              refine wl (by kernel_rfl) (ptr gs) _ (run_mvZ (.tmp 22) rfl (ptr gs) rfl) ?_
              simp only [Act.put, List.setIfInBounds_toArray, List.set_cons_succ, List.set_cons_zero]
              refine wl (by kernel_rfl) (.bool true) _ (run_binOp' (.tmp 184) (.const (.pointer none)) rfl _ _ _ rfl rfl rfl (by kernel_rfl)) ?_
              simp only [Act.put, List.setIfInBounds_toArray, List.set_cons_succ, List.set_cons_zero]
              refine wl rfl (.bool true) _ (run_pickZ (.tmp 183) (.tmp 185) (.const (.bool false)) rfl true (.bool true) rfl rfl) ?_
              simp only [Act.put, List.setIfInBounds_toArray, List.set_cons_succ, List.set_cons_zero]
              refine wl rfl (.bool true) _ (run_mvZ (.tmp 186) rfl (.bool true) rfl) ?_
              simp only [Act.put, List.setIfInBounds_toArray, List.set_cons_succ, List.set_cons_zero]
              refine wl (by kernel_rfl) (.int .i64 0) _ (run_mvZ (.tmp 19) rfl (.int .i64 0) rfl) ?_
              simp only [Act.put, List.setIfInBounds_toArray, List.set_cons_succ, List.set_cons_zero]
              refine wl (by kernel_rfl) (.bool true) _ (run_eqZ (.tmp 188) (.const (.int .i64 0)) rfl (0) (0) rfl rfl true rfl) ?_
              simp only [Act.put, List.setIfInBounds_toArray, List.set_cons_succ, List.set_cons_zero]
              refine wl rfl (.bool true) _ (run_pickZ (.tmp 187) (.tmp 189) (.const (.bool false)) rfl true (.bool true) rfl rfl) ?_
              simp only [Act.put, List.setIfInBounds_toArray, List.set_cons_succ, List.set_cons_zero]
              refine wl rfl (.bool true) _ (run_mvZ (.tmp 190) rfl (.bool true) rfl) ?_
              simp only [Act.put, List.setIfInBounds_toArray, List.set_cons_succ, List.set_cons_zero]
              refine wl (by kernel_rfl) (ptr gs) _ (run_mvZ (.tmp 22) rfl (ptr gs) rfl) ?_
              simp only [Act.put, List.setIfInBounds_toArray, List.set_cons_succ, List.set_cons_zero]
              refine wpList_callW eN27 [.tmp 192] _ (by kernel_rfl) rfl [(ptr gs)] rfl ?_
              refine HR0.out.mono ?_
              rintro e W_ ⟨rfl, rfl⟩
              refine ⟨_, rfl, ?_⟩
              simp only [Act.put, List.setIfInBounds_toArray, List.set_cons_succ, List.set_cons_zero]
              refine wl (by kernel_rfl) (.bool true) _ (run_eqZ (.tmp 193) (.const (.int .i64 0)) rfl (0) (0) rfl rfl true rfl) ?_
              simp only [Act.put, List.setIfInBounds_toArray, List.set_cons_succ, List.set_cons_zero]
              refine wl rfl (.bool true) _ (run_pickZ (.tmp 191) (.tmp 194) (.const (.bool false)) rfl true (.bool true) rfl rfl) ?_
              simp only [Act.put, List.setIfInBounds_toArray, List.set_cons_succ, List.set_cons_zero]
              refine wl rfl (.bool true) _ (run_asZ (.tmp 195) rfl (.bool true) rfl) ?_
              simp only [Act.put, List.setIfInBounds_toArray, List.set_cons_succ, List.set_cons_zero]
              refine wpList_nil ?_
              go_wp2_with fail
              rw [HPQ.out]
              exact ⟨rfl, HB0.out.2.trans (H17.out.pl.below.mono HB0.out.2.size)⟩
        · have h1 : decide ((i : Int) < (n1 : Int)) = false := decide_eq_false (by omega)
          go_upto_region 27 with fail
          refine wp_region_lit ?_
          refine wl rfl (.int .i64 (i : Nat)) _ (run_mvZ (.tmp 15) rfl (.int .i64 (i : Nat)) rfl) ?_
          simp only [Act.put, List.setIfInBounds_toArray, List.set_cons_succ, List.set_cons_zero]
          refine wl rfl (.slice p1 n1 cap1) _ (run_mvZ (.tmp 1) rfl (.slice p1 n1 cap1) rfl) ?_
          simp only [Act.put, List.setIfInBounds_toArray, List.set_cons_succ, List.set_cons_zero]
          refine wl rfl (.int .i64 (n1 : Nat)) _ (run_lenZ sl50 (.tmp 95) rfl p1 n1 cap1 rfl) ?_
          simp only [Act.put, List.setIfInBounds_toArray, List.set_cons_succ, List.set_cons_zero]
          refine wl rfl (.bool false) _ (run_lssZ (.tmp 94) (.tmp 96) rfl _ _ rfl rfl false h1) ?_
          simp only [Act.put, List.setIfInBounds_toArray, List.set_cons_succ, List.set_cons_zero]
          refine wl rfl (.bool false) _ (run_mvZ (.tmp 97) rfl (.bool false) rfl) ?_
          simp only [Act.put, List.setIfInBounds_toArray, List.set_cons_succ, List.set_cons_zero]
          refine wpList_skip (by kernel_rfl) ?_
          simp only [Act.put, List.setIfInBounds_toArray, List.set_cons_succ, List.set_cons_zero]
          refine wpList_skip (by kernel_rfl) ?_
          simp only [Act.put, List.setIfInBounds_toArray, List.set_cons_succ, List.set_cons_zero]
          refine wl rfl (.bool false) _ (run_pickZ (.tmp 98) (.tmp 100) (.const (.bool false)) rfl false (.bool false) rfl rfl) ?_
          simp only [Act.put, List.setIfInBounds_toArray, List.set_cons_succ, List.set_cons_zero]
          refine wpList_nil ?_
          clear h1
          clear hlt
          go_upto_region 34 with fail
          refine wp_region_lit ?_
          refine wl rfl (ptr g) _ (run_mvZ (.tmp 6) rfl (ptr g) rfl) ?_
          simp only [Act.put, List.setIfInBounds_toArray, List.set_cons_succ, List.set_cons_zero]
          refine wpList_callW eN34 [.tmp 118, .const (.int .i64 0)] _ rfl rfl [(ptr g), .int .i64 0] rfl ?_
          refine (Calm.flushS HM.out (by omega)).mono ?_
          rintro e W9 ⟨rfl, c9, m9, h_, w_⟩
          refine ⟨_, rfl, ?_⟩
          have H9 : Hid (Calm W0 W9 c9 g m9 100 ∧ m9.wt 0 = []) := ⟨h_.mono (by omega), w_⟩
          clear h_ w_ HM
          simp only [Act.put, List.setIfInBounds_toArray, List.set_cons_succ, List.set_cons_zero]
          refine wpList_nil ?_
          go_upto_region 35 with fail
          refine wp_region_lit ?_
          refine wl rfl (ptr g) _ (run_mvZ (.tmp 6) rfl (ptr g) rfl) ?_
          simp only [Act.put, List.setIfInBounds_toArray, List.set_cons_succ, List.set_cons_zero]
          refine wpList_callW eN13 [.tmp 121, .const (.int .i64 0)] _ rfl rfl [(ptr g), .int .i64 0] rfl ?_
          refine (Calm.openS H9.out.1 (by decide) H9.out.2).mono ?_
          rintro e W10 ⟨pv, er, rfl, h_, a_⟩
          refine ⟨_, rfl, ?_⟩
          have H10 : Hid (Calm W0 W10 c9 g m9 100 ∧ m9.wt 0 = []) := ⟨h_, H9.out.2⟩
          clear h_ H9
          simp only [Act.put, List.setIfInBounds_toArray, List.set_cons_succ, List.set_cons_zero]
          refine wl rfl (.tuple #[pv, (.int .i64 er)]) _ (run_mvZ (.tmp 122) rfl (.tuple #[pv, (.int .i64 er)]) rfl) ?_
          simp only [Act.put, List.setIfInBounds_toArray, List.set_cons_succ, List.set_cons_zero]
          refine wl rfl pv _ (run_extZ (.tmp 120) 0 rfl #[pv, (.int .i64 er)] rfl pv rfl) ?_
          simp only [Act.put, List.setIfInBounds_toArray, List.set_cons_succ, List.set_cons_zero]
          refine wl rfl (.int .i64 er) _ (run_extZ (.tmp 120) 1 rfl #[pv, (.int .i64 er)] rfl (.int .i64 er) rfl) ?_
          simp only [Act.put, List.setIfInBounds_toArray, List.set_cons_succ, List.set_cons_zero]
          refine wl rfl pv _ (run_asZ (.tmp 123) rfl pv rfl) ?_
          simp only [Act.put, List.setIfInBounds_toArray, List.set_cons_succ, List.set_cons_zero]
          refine wl rfl (.int .i64 er) _ (run_asZ (.tmp 124) rfl (.int .i64 er) rfl) ?_
          simp only [Act.put, List.setIfInBounds_toArray, List.set_cons_succ, List.set_cons_zero]
          refine wpList_nil ?_
          rcases a_ with ⟨rfl, rfl⟩ | ⟨gq, rfl⟩
          · go_upto_region 36 with fail
            refine wp_region_lit ?_
            refine wl rfl (.pointer none) _ (run_mvZ (.tmp 18) rfl (.pointer none) rfl) ?_
            simp only [Act.put, List.setIfInBounds_toArray, List.set_cons_succ, List.set_cons_zero]
            refine wl rfl (.bool true) _ (run_binOp' (.tmp 125) (.const (.pointer none)) rfl _ _ _ rfl rfl rfl (by kernel_rfl)) ?_
            simp only [Act.put, List.setIfInBounds_toArray, List.set_cons_succ, List.set_cons_zero]
            refine wl rfl (.bool true) _ (run_mvZ (.tmp 126) rfl (.bool true) rfl) ?_
            simp only [Act.put, List.setIfInBounds_toArray, List.set_cons_succ, List.set_cons_zero]
            refine wl (by kernel_rfl) (.int .i64 4) _ (run_mvZ (.tmp 19) rfl (.int .i64 4) rfl) ?_
            simp only [Act.put, List.setIfInBounds_toArray, List.set_cons_succ, List.set_cons_zero]
            refine wl (by kernel_rfl) (.bool false) _ (run_neZ (.tmp 128) (.const (.int .i64 4)) rfl (4) (4) rfl rfl false rfl) ?_
            simp only [Act.put, List.setIfInBounds_toArray, List.set_cons_succ, List.set_cons_zero]
            refine wl rfl (.bool false) _ (run_pickZ (.tmp 127) (.tmp 129) (.const (.bool false)) rfl true (.bool false) rfl rfl) ?_
            simp only [Act.put, List.setIfInBounds_toArray, List.set_cons_succ, List.set_cons_zero]
            refine wpList_nil ?_
            go_upto_region 38 with fail
            refine wp_region_lit ?_
            refine wl rfl (ptr g) _ (run_mvZ (.tmp 6) rfl (ptr g) rfl) ?_
            simp only [Act.put, List.setIfInBounds_toArray, List.set_cons_succ, List.set_cons_zero]
            refine wpList_callW eN11 [.tmp 131, .const (.int .i64 0)] _ rfl rfl [(ptr g), .int .i64 0] rfl ?_
            refine (Calm.formatS H10.out.1 (by decide) H10.out.2).mono ?_
            rintro e W11 ⟨rfl, c11, m11, L, X, h_, o_, f_, u_, r_⟩
            refine ⟨_, rfl, ?_⟩
            have H11 : Hid (PlW W0 W11 c11 g m11 [66] [] 106 ∧ PgO m11 0 8 L L.used X ∧ m11.fuse < 0 ∧ L.used = noneP ∧ L.root = -1) := ⟨h_, o_, f_, u_, r_⟩
            clear h_ o_ f_ u_ r_ H10
            simp only [Act.put, List.setIfInBounds_toArray, List.set_cons_succ, List.set_cons_zero]
            refine wl rfl (.int .i64 0) _ (run_asZ (.tmp 132) rfl (.int .i64 0) rfl) ?_
            simp only [Act.put, List.setIfInBounds_toArray, List.set_cons_succ, List.set_cons_zero]
            refine wpList_nil ?_
            go_upto_region 39 with fail
            refine wp_region_lit ?_
            refine wl rfl (ptr g) _ (run_mvZ (.tmp 6) rfl (ptr g) rfl) ?_
            simp only [Act.put, List.setIfInBounds_toArray, List.set_cons_succ, List.set_cons_zero]
            refine wpList_callW eN13 [.tmp 134, .const (.int .i64 0)] _ rfl rfl [(ptr g), .int .i64 0] rfl ?_
            refine (PlW.openZ H11.out.1 (by decide) (by decide) H11.out.2.1).mono ?_
            rintro e W12 ⟨gr, rfl, b_, h_⟩
            refine ⟨_, rfl, ?_⟩
            have HLU : Hid (L.used = noneP ∧ L.root = -1 ∧ m11.fuse < 0) := ⟨H11.out.2.2.2.1, H11.out.2.2.2.2, H11.out.2.2.1⟩
            have H12 : Hid (PgW W0 W12 c11 gr g m11 [66] [] 0 8 L noneP X 106) := by
              have h1 := h_
              rw [HLU.out.1] at h1
              exact h1
            clear h_ b_ H11
            simp only [Act.put, List.setIfInBounds_toArray, List.set_cons_succ, List.set_cons_zero]
            refine wl rfl (.tuple #[(ptr gr), (.int .i64 0)]) _ (run_mvZ (.tmp 135) rfl (.tuple #[(ptr gr), (.int .i64 0)]) rfl) ?_
            simp only [Act.put, List.setIfInBounds_toArray, List.set_cons_succ, List.set_cons_zero]
            refine wl rfl (ptr gr) _ (run_extZ (.tmp 133) 0 rfl #[(ptr gr), (.int .i64 0)] rfl (ptr gr) rfl) ?_
            simp only [Act.put, List.setIfInBounds_toArray, List.set_cons_succ, List.set_cons_zero]
            refine wl rfl (.int .i64 0) _ (run_extZ (.tmp 133) 1 rfl #[(ptr gr), (.int .i64 0)] rfl (.int .i64 0) rfl) ?_
            simp only [Act.put, List.setIfInBounds_toArray, List.set_cons_succ, List.set_cons_zero]
            refine wl rfl (ptr gr) _ (run_asZ (.tmp 136) rfl (ptr gr) rfl) ?_
            simp only [Act.put, List.setIfInBounds_toArray, List.set_cons_succ, List.set_cons_zero]
            refine wl rfl (.int .i64 0) _ (run_asZ (.tmp 137) rfl (.int .i64 0) rfl) ?_
            simp only [Act.put, List.setIfInBounds_toArray, List.set_cons_succ, List.set_cons_zero]
            refine wpList_nil ?_
            have HRT : Hid (Calls Tryd.prog 27 #[ptr gr] W12 fun e W' => e = .returned (.int .i64 (-1)) ∧ W12 = W') := by
              have h := H12.out.root
              rw [HLU.out.2.1] at h
              exact h
            have HRM : Hid (Calls Tryd.prog 29 #[ptr gr] W12 fun e W' => e = .returned (.int .i64 8) ∧ Below W12.heap.size W12 W') := by
              have h := H12.out.room
              rw [room_used L (hdU noneP) HLU.out.1, exW.2.1] at h
              exact h
            go_upto_region 40 with fail
            refine wp_region_lit ?_
            refine wl rfl (.int .i64 0) _ (run_mvZ (.tmp 8) rfl (.int .i64 0) rfl) ?_
            simp only [Act.put, List.setIfInBounds_toArray, List.set_cons_succ, List.set_cons_zero]
            refine wl rfl (.bool false) _ (run_neZ (.tmp 138) (.const (.int .i64 0)) rfl (0) (0) rfl rfl false rfl) ?_
            simp only [Act.put, List.setIfInBounds_toArray, List.set_cons_succ, List.set_cons_zero]
            refine wl rfl (.bool false) _ (run_mvZ (.tmp 139) rfl (.bool false) rfl) ?_
            simp only [Act.put, List.setIfInBounds_toArray, List.set_cons_succ, List.set_cons_zero]
            refine wl (by kernel_rfl) (ptr gr) _ (run_mvZ (.tmp 18) rfl (ptr gr) rfl) ?_
            simp only [Act.put, List.setIfInBounds_toArray, List.set_cons_succ, List.set_cons_zero]
            refine wl (by kernel_rfl) (.bool false) _ (run_binOp' (.tmp 141) (.const (.pointer none)) rfl _ _ _ rfl rfl rfl (by kernel_rfl)) ?_
            simp only [Act.put, List.setIfInBounds_toArray, List.set_cons_succ, List.set_cons_zero]
            refine wl rfl (.bool false) _ (run_pickZ (.tmp 140) (.const (.bool true)) (.tmp 142) rfl false (.bool false) rfl rfl) ?_
            simp only [Act.put, List.setIfInBounds_toArray, List.set_cons_succ, List.set_cons_zero]
            refine wl rfl (.bool false) _ (run_mvZ (.tmp 143) rfl (.bool false) rfl) ?_
            simp only [Act.put, List.setIfInBounds_toArray, List.set_cons_succ, List.set_cons_zero]
            refine wl (by kernel_rfl) (.int .i64 0) _ (run_mvZ (.tmp 19) rfl (.int .i64 0) rfl) ?_
            simp only [Act.put, List.setIfInBounds_toArray, List.set_cons_succ, List.set_cons_zero]
            refine wl (by kernel_rfl) (.bool false) _ (run_neZ (.tmp 145) (.const (.int .i64 0)) rfl (0) (0) rfl rfl false rfl) ?_
            simp only [Act.put, List.setIfInBounds_toArray, List.set_cons_succ, List.set_cons_zero]
            refine wl rfl (.bool false) _ (run_pickZ (.tmp 144) (.const (.bool true)) (.tmp 146) rfl false (.bool false) rfl rfl) ?_
            simp only [Act.put, List.setIfInBounds_toArray, List.set_cons_succ, List.set_cons_zero]
            refine wl rfl (.bool false) _ (run_mvZ (.tmp 147) rfl (.bool false) rfl) ?_
            simp only [Act.put, List.setIfInBounds_toArray, List.set_cons_succ, List.set_cons_zero]
            refine wl (by kernel_rfl) (ptr gr) _ (run_mvZ (.tmp 18) rfl (ptr gr) rfl) ?_
            simp only [Act.put, List.setIfInBounds_toArray, List.set_cons_succ, List.set_cons_zero]
            refine wpList_callW eN27 [.tmp 149] _ (by kernel_rfl) rfl [(ptr gr)] rfl ?_
            refine HRT.out.mono ?_
            rintro e W_ ⟨rfl, rfl⟩
            refine ⟨_, rfl, ?_⟩
            simp only [Act.put, List.setIfInBounds_toArray, List.set_cons_succ, List.set_cons_zero]
            refine wl (by kernel_rfl) (.bool false) _ (run_neZ (.tmp 150) (.const (.int .i64 (-1))) rfl (-1) (-1) rfl rfl false rfl) ?_
            simp only [Act.put, List.setIfInBounds_toArray, List.set_cons_succ, List.set_cons_zero]
            refine wl rfl (.bool false) _ (run_pickZ (.tmp 148) (.const (.bool true)) (.tmp 151) rfl false (.bool false) rfl rfl) ?_
            simp only [Act.put, List.setIfInBounds_toArray, List.set_cons_succ, List.set_cons_zero]
            refine wl rfl (.bool false) _ (run_mvZ (.tmp 152) rfl (.bool false) rfl) ?_
            simp only [Act.put, List.setIfInBounds_toArray, List.set_cons_succ, List.set_cons_zero]
            refine wl (by kernel_rfl) (ptr gr) _ (run_mvZ (.tmp 18) rfl (ptr gr) rfl) ?_
            simp only [Act.put, List.setIfInBounds_toArray, List.set_cons_succ, List.set_cons_zero]
            refine wpList_callW eN29 [.tmp 154] _ (by kernel_rfl) rfl [(ptr gr)] rfl ?_
            refine HRM.out.mono ?_
            rintro e W13 ⟨rfl, b_⟩
            refine ⟨_, rfl, ?_⟩
            have H13 : Hid (PgW W0 W13 c11 gr g m11 [66] [] 0 8 L noneP X 106) := H12.out.bel b_
            clear b_ HRM HRT H12
            simp only [Act.put, List.setIfInBounds_toArray, List.set_cons_succ, List.set_cons_zero]
            refine wl (by kernel_rfl) (.bool false) _ (run_neZ (.tmp 155) (.const (.int .i64 8)) rfl (8) (8) rfl rfl false rfl) ?_
            simp only [Act.put, List.setIfInBounds_toArray, List.set_cons_succ, List.set_cons_zero]
            refine wl rfl (.bool false) _ (run_pickZ (.tmp 153) (.const (.bool true)) (.tmp 156) rfl false (.bool false) rfl rfl) ?_
            simp only [Act.put, List.setIfInBounds_toArray, List.set_cons_succ, List.set_cons_zero]
            refine wpList_nil ?_
            go_upto_region 42 with fail
            refine wp_region_lit ?_
            refine wl rfl (ptr gr) _ (run_mvZ (.tmp 18) rfl (ptr gr) rfl) ?_
            simp only [Act.put, List.setIfInBounds_toArray, List.set_cons_succ, List.set_cons_zero]
            refine wl rfl (.slice (some ⟨W13.heap.size, 0, none⟩) 4 4) _ (run_lit38_4 rfl) ?_
            simp only [Act.put, List.setIfInBounds_toArray, List.set_cons_succ, List.set_cons_zero]
            refine wl rfl (.slice (some ⟨W13.heap.size, 0, none⟩) 4 4) _ (run_cv38 (w := W13) (.tmp 160) rfl _ _ rfl) ?_
            have HB : Hid (SliceIn (W13.alloc (.cells #[.int .u8 112, .int .u8 97, .int .u8 103, .int .u8 101] 5 (4, 4 + 1))) (.slice (some ⟨W13.heap.size, 0, none⟩) 4 4) [112, 97, 103, 101] ∧ Below W13.heap.size W13 (W13.alloc (.cells #[.int .u8 112, .int .u8 97, .int .u8 103, .int .u8 101] 5 (4, 4 + 1)))) := ⟨bytes_lit W13 [112, 97, 103, 101] (by decide) (by decide) _, below_alloc W13 _⟩
            obtain ⟨W14, hW_⟩ : ∃ W, W = W13.alloc (.cells #[.int .u8 112, .int .u8 97, .int .u8 103, .int .u8 101] 5 (4, 4 + 1)) := ⟨_, rfl⟩
            obtain ⟨q9, hq_⟩ : ∃ q, q = W13.heap.size := ⟨_, rfl⟩
            rw [← hW_] at HB
            change wpList _ _ _ _ _ (W13.alloc (.cells #[.int .u8 112, .int .u8 97, .int .u8 103, .int .u8 101] 5 (4, 4 + 1)))
            rw [← hW_, ← hq_]
            have HS : Hid (SliceIn W14 (.slice (some ⟨q9, 0, none⟩) 4 4) [112, 97, 103, 101]) := by rw [hq_]; exact HB.out.1
            have H14 : Hid (PgW W0 W14 c11 gr g m11 [66] [] 0 8 L noneP X 106) := H13.out.bel HB.out.2
            clear H13
            clear hW_ hq_ HB
            simp only [Act.put, List.setIfInBounds_toArray, List.set_cons_succ, List.set_cons_zero]
            refine wpList_callW eN15 [.tmp 159, .tmp 161] _ rfl rfl [(ptr gr), (.slice (some ⟨q9, 0, none⟩) 4 4)] rfl ?_
            refine (PgW.putOk H14.out (by decide) HLU.out.2.2 _ _ HS.out (by decide) 0 (by rw [least_used L (hdU noneP) HLU.out.1]; exact exW.1)).mono ?_
            rintro e W15 ⟨c15, m15, rfl, _, f_, h_⟩
            refine ⟨_, rfl, ?_⟩
            obtain ⟨X15, hX_⟩ : ∃ X2, X2 = updP X 0 (imOf [112, 97, 103, 101]) := ⟨_, rfl⟩
            rw [← hX_] at h_
            have H15 : Hid (PgW W0 W15 c15 gr g m15 [66] [] 0 8 L (withP noneP 0) X15 114 ∧ m15.fuse < 0) := ⟨h_, f_⟩
            clear h_ f_ hX_ H14 HS
            simp only [Act.put, List.setIfInBounds_toArray, List.set_cons_succ, List.set_cons_zero]
            refine wl rfl (.tuple #[(.int .i64 0), (.int .i64 0)]) _ (run_mvZ (.tmp 162) rfl (.tuple #[(.int .i64 0), (.int .i64 0)]) rfl) ?_
            simp only [Act.put, List.setIfInBounds_toArray, List.set_cons_succ, List.set_cons_zero]
            refine wl rfl (.int .i64 0) _ (run_extZ (.tmp 158) 0 rfl #[(.int .i64 0), (.int .i64 0)] rfl (.int .i64 0) rfl) ?_
            simp only [Act.put, List.setIfInBounds_toArray, List.set_cons_succ, List.set_cons_zero]
            refine wl rfl (.int .i64 0) _ (run_extZ (.tmp 158) 1 rfl #[(.int .i64 0), (.int .i64 0)] rfl (.int .i64 0) rfl) ?_
            simp only [Act.put, List.setIfInBounds_toArray, List.set_cons_succ, List.set_cons_zero]
            refine wl rfl (.int .i64 0) _ (run_asZ (.tmp 163) rfl (.int .i64 0) rfl) ?_
            simp only [Act.put, List.setIfInBounds_toArray, List.set_cons_succ, List.set_cons_zero]
            refine wl rfl (.int .i64 0) _ (run_asZ (.tmp 164) rfl (.int .i64 0) rfl) ?_
            simp only [Act.put, List.setIfInBounds_toArray, List.set_cons_succ, List.set_cons_zero]
            refine wpList_nil ?_
            go_upto_region 43 with fail
            refine wp_region_lit ?_
            refine wl rfl (ptr gr) _ (run_mvZ (.tmp 18) rfl (ptr gr) rfl) ?_
            simp only [Act.put, List.setIfInBounds_toArray, List.set_cons_succ, List.set_cons_zero]
            refine wl rfl (.int .i64 0) _ (run_mvZ (.tmp 20) rfl (.int .i64 0) rfl) ?_
            simp only [Act.put, List.setIfInBounds_toArray, List.set_cons_succ, List.set_cons_zero]
            refine wpList_callW eN19 [.tmp 165, .tmp 166] _ rfl rfl [(ptr gr), (.int .i64 0)] rfl ?_
            refine (PgW.comC H15.out.1 (by decide) H15.out.2 0 exW.2.2).mono ?_
            rintro e W16 ⟨c16, m16, rfl, _, _, _, h_⟩
            refine ⟨_, rfl, ?_⟩
            have H16 : Hid (PgW W0 W16 c16 gr g m16 [66] [] 0 8 (nextHd L 0 (withP noneP 0)) (withP noneP 0) X15 117) := h_
            clear h_ H15
            simp only [Act.put, List.setIfInBounds_toArray, List.set_cons_succ, List.set_cons_zero]
            refine wl rfl (.int .i64 0) _ (run_asZ (.tmp 167) rfl (.int .i64 0) rfl) ?_
            simp only [Act.put, List.setIfInBounds_toArray, List.set_cons_succ, List.set_cons_zero]
            refine wpList_nil ?_
            go_upto_region 44 with fail
            refine wp_region_lit ?_
            refine wl rfl (ptr g) _ (run_mvZ (.tmp 6) rfl (ptr g) rfl) ?_
            simp only [Act.put, List.setIfInBounds_toArray, List.set_cons_succ, List.set_cons_zero]
            refine wpList_callW eN13 [.tmp 169, .const (.int .i64 0)] _ rfl rfl [(ptr g), .int .i64 0] rfl ?_
            refine (PlW.openZ H16.out.pl (by decide) (by decide) (L := nextHd L 0 (withP noneP 0)) H16.out.o).mono ?_
            rintro e W17 ⟨gs, rfl, b_, h_⟩
            refine ⟨_, rfl, ?_⟩
            have H17 : Hid (PgW W0 W17 c16 gs g m16 [66] [] 0 8 (nextHd L 0 (withP noneP 0)) (withP noneP 0) X15 117) := h_
            have HR0 : Hid (Calls Tryd.prog 27 #[ptr gs] W17 fun e W' => e = .returned (.int .i64 0) ∧ W17 = W') := h_.root
            clear h_ b_ H16
            simp only [Act.put, List.setIfInBounds_toArray, List.set_cons_succ, List.set_cons_zero]
            refine wl rfl (.tuple #[(ptr gs), (.int .i64 0)]) _ (run_mvZ (.tmp 170) rfl (.tuple #[(ptr gs), (.int .i64 0)]) rfl) ?_
            simp only [Act.put, List.setIfInBounds_toArray, List.set_cons_succ, List.set_cons_zero]
            refine wl rfl (ptr gs) _ (run_extZ (.tmp 168) 0 rfl #[(ptr gs), (.int .i64 0)] rfl (ptr gs) rfl) ?_
            simp only [Act.put, List.setIfInBounds_toArray, List.set_cons_succ, List.set_cons_zero]
            refine wl rfl (.int .i64 0) _ (run_extZ (.tmp 168) 1 rfl #[(ptr gs), (.int .i64 0)] rfl (.int .i64 0) rfl) ?_
            simp only [Act.put, List.setIfInBounds_toArray, List.set_cons_succ, List.set_cons_zero]
            refine wl rfl (ptr gs) _ (run_asZ (.tmp 171) rfl (ptr gs) rfl) ?_
            simp only [Act.put, List.setIfInBounds_toArray, List.set_cons_succ, List.set_cons_zero]
            refine wl rfl (.int .i64 0) _ (run_asZ (.tmp 172) rfl (.int .i64 0) rfl) ?_
            simp only [Act.put, List.setIfInBounds_toArray, List.set_cons_succ, List.set_cons_zero]
            refine wpList_nil ?_
            go_upto_region 45 with fail
            refine wp_region_lit ?_
            refine wl rfl (.int .i64 0) _ (run_mvZ (.tmp 7) rfl (.int .i64 0) rfl) ?_
            simp only [Act.put, List.setIfInBounds_toArray, List.set_cons_succ, List.set_cons_zero]
            refine wl rfl (.bool true) _ (run_eqZ (.tmp 173) (.const (.int .i64 0)) rfl (0) (0) rfl rfl true rfl) ?_
            simp only [Act.put, List.setIfInBounds_toArray, List.set_cons_succ, List.set_cons_zero]
            refine wl rfl (.bool true) _ (run_mvZ (.tmp 174) rfl (.bool true) rfl) ?_
            simp only [Act.put, List.setIfInBounds_toArray, List.set_cons_succ, List.set_cons_zero]
            refine wl (by kernel_rfl) (.int .i64 0) _ (run_mvZ (.tmp 20) rfl (.int .i64 0) rfl) ?_
            simp only [Act.put, List.setIfInBounds_toArray, List.set_cons_succ, List.set_cons_zero]
            refine wl (by kernel_rfl) (.bool true) _ (run_eqZ (.tmp 176) (.const (.int .i64 0)) rfl (0) (0) rfl rfl true rfl) ?_
            simp only [Act.put, List.setIfInBounds_toArray, List.set_cons_succ, List.set_cons_zero]
            refine wl rfl (.bool true) _ (run_pickZ (.tmp 175) (.tmp 177) (.const (.bool false)) rfl true (.bool true) rfl rfl) ?_
            simp only [Act.put, List.setIfInBounds_toArray, List.set_cons_succ, List.set_cons_zero]
            refine wl rfl (.bool true) _ (run_mvZ (.tmp 178) rfl (.bool true) rfl) ?_
            simp only [Act.put, List.setIfInBounds_toArray, List.set_cons_succ, List.set_cons_zero]
            refine wl (by kernel_rfl) (.int .i64 0) _ (run_mvZ (.tmp 21) rfl (.int .i64 0) rfl) ?_
            simp only [Act.put, List.setIfInBounds_toArray, List.set_cons_succ, List.set_cons_zero]
            refine wl (by kernel_rfl) (.bool true) _ (run_eqZ (.tmp 180) (.const (.int .i64 0)) rfl (0) (0) rfl rfl true rfl) ?_
            simp only [Act.put, List.setIfInBounds_toArray, List.set_cons_succ, List.set_cons_zero]
            refine wl rfl (.bool true) _ (run_pickZ (.tmp 179) (.tmp 181) (.const (.bool false)) rfl true (.bool true) rfl rfl) ?_
            simp only [Act.put, List.setIfInBounds_toArray, List.set_cons_succ, List.set_cons_zero]
            refine wl rfl (.bool true) _ (run_mvZ (.tmp 182) rfl (.bool true) rfl) ?_
            simp only [Act.put, List.setIfInBounds_toArray, List.set_cons_succ, List.set_cons_zero]
            refine wl (by kernel_rfl) (ptr gs) _ (run_mvZ (.tmp 22) rfl (ptr gs) rfl) ?_
            simp only [Act.put, List.setIfInBounds_toArray, List.set_cons_succ, List.set_cons_zero]
            refine wl (by kernel_rfl) (.bool true) _ (run_binOp' (.tmp 184) (.const (.pointer none)) rfl _ _ _ rfl rfl rfl (by kernel_rfl)) ?_
            simp only [Act.put, List.setIfInBounds_toArray, List.set_cons_succ, List.set_cons_zero]
            refine wl rfl (.bool true) _ (run_pickZ (.tmp 183) (.tmp 185) (.const (.bool false)) rfl true (.bool true) rfl rfl) ?_
            simp only [Act.put, List.setIfInBounds_toArray, List.set_cons_succ, List.set_cons_zero]
            refine wl rfl (.bool true) _ (run_mvZ (.tmp 186) rfl (.bool true) rfl) ?_
            simp only [Act.put, List.setIfInBounds_toArray, List.set_cons_succ, List.set_cons_zero]
            refine wl (by kernel_rfl) (.int .i64 0) _ (run_mvZ (.tmp 19) rfl (.int .i64 0) rfl) ?_
            simp only [Act.put, List.setIfInBounds_toArray, List.set_cons_succ, List.set_cons_zero]
            refine wl (by kernel_rfl) (.bool true) _ (run_eqZ (.tmp 188) (.const (.int .i64 0)) rfl (0) (0) rfl rfl true rfl) ?_
            simp only [Act.put, List.setIfInBounds_toArray, List.set_cons_succ, List.set_cons_zero]
            refine wl rfl (.bool true) _ (run_pickZ (.tmp 187) (.tmp 189) (.const (.bool false)) rfl true (.bool true) rfl rfl) ?_
            simp only [Act.put, List.setIfInBounds_toArray, List.set_cons_succ, List.set_cons_zero]
            refine wl rfl (.bool true) _ (run_mvZ (.tmp 190) rfl (.bool true) rfl) ?_
            simp only [Act.put, List.setIfInBounds_toArray, List.set_cons_succ, List.set_cons_zero]
            refine wl (by kernel_rfl) (ptr gs) _ (run_mvZ (.tmp 22) rfl (ptr gs) rfl) ?_
            simp only [Act.put, List.setIfInBounds_toArray, List.set_cons_succ, List.set_cons_zero]
            refine wpList_callW eN27 [.tmp 192] _ (by kernel_rfl) rfl [(ptr gs)] rfl ?_
            refine HR0.out.mono ?_
            rintro e W_ ⟨rfl, rfl⟩
            refine ⟨_, rfl, ?_⟩
            simp only [Act.put, List.setIfInBounds_toArray, List.set_cons_succ, List.set_cons_zero]
            refine wl (by kernel_rfl) (.bool true) _ (run_eqZ (.tmp 193) (.const (.int .i64 0)) rfl (0) (0) rfl rfl true rfl) ?_
            simp only [Act.put, List.setIfInBounds_toArray, List.set_cons_succ, List.set_cons_zero]
            refine wl rfl (.bool true) _ (run_pickZ (.tmp 191) (.tmp 194) (.const (.bool false)) rfl true (.bool true) rfl rfl) ?_
            simp only [Act.put, List.setIfInBounds_toArray, List.set_cons_succ, List.set_cons_zero]
            refine wl rfl (.bool true) _ (run_asZ (.tmp 195) rfl (.bool true) rfl) ?_
            simp only [Act.put, List.setIfInBounds_toArray, List.set_cons_succ, List.set_cons_zero]
            refine wpList_nil ?_
            go_wp2_with fail
            rw [HPQ.out]
            exact ⟨rfl, HB0.out.2.trans (H17.out.pl.below.mono HB0.out.2.size)⟩
          · go_upto_region 36 with fail
            refine wp_region_lit ?_
            refine wl rfl (ptr gq) _ (run_mvZ (.tmp 18) rfl (ptr gq) rfl) ?_
            simp only [Act.put, List.setIfInBounds_toArray, List.set_cons_succ, List.set_cons_zero]
            refine wl rfl (.bool false) _ (run_binOp' (.tmp 125) (.const (.pointer none)) rfl _ _ _ rfl rfl rfl (by kernel_rfl)) ?_
            simp only [Act.put, List.setIfInBounds_toArray, List.set_cons_succ, List.set_cons_zero]
            refine wl rfl (.bool false) _ (run_mvZ (.tmp 126) rfl (.bool false) rfl) ?_
            simp only [Act.put, List.setIfInBounds_toArray, List.set_cons_succ, List.set_cons_zero]
            refine wpList_skip (by kernel_rfl) ?_
            simp only [Act.put, List.setIfInBounds_toArray, List.set_cons_succ, List.set_cons_zero]
            refine wpList_skip (by kernel_rfl) ?_
            simp only [Act.put, List.setIfInBounds_toArray, List.set_cons_succ, List.set_cons_zero]
            refine wl rfl (.bool false) _ (run_pickZ (.tmp 127) (.tmp 129) (.const (.bool false)) rfl false (.bool false) rfl rfl) ?_
            simp only [Act.put, List.setIfInBounds_toArray, List.set_cons_succ, List.set_cons_zero]
            refine wpList_nil ?_
            go_upto_region 38 with fail
            refine wp_region_lit ?_
            refine wl rfl (ptr g) _ (run_mvZ (.tmp 6) rfl (ptr g) rfl) ?_
            simp only [Act.put, List.setIfInBounds_toArray, List.set_cons_succ, List.set_cons_zero]
            refine wpList_callW eN11 [.tmp 131, .const (.int .i64 0)] _ rfl rfl [(ptr g), .int .i64 0] rfl ?_
            refine (Calm.formatS H10.out.1 (by decide) H10.out.2).mono ?_
            rintro e W11 ⟨rfl, c11, m11, L, X, h_, o_, f_, u_, r_⟩
            refine ⟨_, rfl, ?_⟩
            have H11 : Hid (PlW W0 W11 c11 g m11 [66] [] 106 ∧ PgO m11 0 8 L L.used X ∧ m11.fuse < 0 ∧ L.used = noneP ∧ L.root = -1) := ⟨h_, o_, f_, u_, r_⟩
            clear h_ o_ f_ u_ r_ H10
            simp only [Act.put, List.setIfInBounds_toArray, List.set_cons_succ, List.set_cons_zero]
            refine wl rfl (.int .i64 0) _ (run_asZ (.tmp 132) rfl (.int .i64 0) rfl) ?_
            simp only [Act.put, List.setIfInBounds_toArray, List.set_cons_succ, List.set_cons_zero]
            refine wpList_nil ?_
            go_upto_region 39 with fail
            refine wp_region_lit ?_
            refine wl rfl (ptr g) _ (run_mvZ (.tmp 6) rfl (ptr g) rfl) ?_
            simp only [Act.put, List.setIfInBounds_toArray, List.set_cons_succ, List.set_cons_zero]
            refine wpList_callW eN13 [.tmp 134, .const (.int .i64 0)] _ rfl rfl [(ptr g), .int .i64 0] rfl ?_
            refine (PlW.openZ H11.out.1 (by decide) (by decide) H11.out.2.1).mono ?_
            rintro e W12 ⟨gr, rfl, b_, h_⟩
            refine ⟨_, rfl, ?_⟩
            have HLU : Hid (L.used = noneP ∧ L.root = -1 ∧ m11.fuse < 0) := ⟨H11.out.2.2.2.1, H11.out.2.2.2.2, H11.out.2.2.1⟩
            have H12 : Hid (PgW W0 W12 c11 gr g m11 [66] [] 0 8 L noneP X 106) := by
              have h1 := h_
              rw [HLU.out.1] at h1
              exact h1
            clear h_ b_ H11
            simp only [Act.put, List.setIfInBounds_toArray, List.set_cons_succ, List.set_cons_zero]
            refine wl rfl (.tuple #[(ptr gr), (.int .i64 0)]) _ (run_mvZ (.tmp 135) rfl (.tuple #[(ptr gr), (.int .i64 0)]) rfl) ?_
            simp only [Act.put, List.setIfInBounds_toArray, List.set_cons_succ, List.set_cons_zero]
            refine wl rfl (ptr gr) _ (run_extZ (.tmp 133) 0 rfl #[(ptr gr), (.int .i64 0)] rfl (ptr gr) rfl) ?_
            simp only [Act.put, List.setIfInBounds_toArray, List.set_cons_succ, List.set_cons_zero]
            refine wl rfl (.int .i64 0) _ (run_extZ (.tmp 133) 1 rfl #[(ptr gr), (.int .i64 0)] rfl (.int .i64 0) rfl) ?_
            simp only [Act.put, List.setIfInBounds_toArray, List.set_cons_succ, List.set_cons_zero]
            refine wl rfl (ptr gr) _ (run_asZ (.tmp 136) rfl (ptr gr) rfl) ?_
            simp only [Act.put, List.setIfInBounds_toArray, List.set_cons_succ, List.set_cons_zero]
            refine wl rfl (.int .i64 0) _ (run_asZ (.tmp 137) rfl (.int .i64 0) rfl) ?_
            simp only [Act.put, List.setIfInBounds_toArray, List.set_cons_succ, List.set_cons_zero]
            refine wpList_nil ?_
            have HRT : Hid (Calls Tryd.prog 27 #[ptr gr] W12 fun e W' => e = .returned (.int .i64 (-1)) ∧ W12 = W') := by
              have h := H12.out.root
              rw [HLU.out.2.1] at h
              exact h
            have HRM : Hid (Calls Tryd.prog 29 #[ptr gr] W12 fun e W' => e = .returned (.int .i64 8) ∧ Below W12.heap.size W12 W') := by
              have h := H12.out.room
              rw [room_used L (hdU noneP) HLU.out.1, exW.2.1] at h
              exact h
            go_upto_region 40 with fail
            refine wp_region_lit ?_
            refine wl rfl (.int .i64 0) _ (run_mvZ (.tmp 8) rfl (.int .i64 0) rfl) ?_
            simp only [Act.put, List.setIfInBounds_toArray, List.set_cons_succ, List.set_cons_zero]
            refine wl rfl (.bool false) _ (run_neZ (.tmp 138) (.const (.int .i64 0)) rfl (0) (0) rfl rfl false rfl) ?_
            simp only [Act.put, List.setIfInBounds_toArray, List.set_cons_succ, List.set_cons_zero]
            refine wl rfl (.bool false) _ (run_mvZ (.tmp 139) rfl (.bool false) rfl) ?_
            simp only [Act.put, List.setIfInBounds_toArray, List.set_cons_succ, List.set_cons_zero]
            refine wl (by kernel_rfl) (ptr gr) _ (run_mvZ (.tmp 18) rfl (ptr gr) rfl) ?_
            simp only [Act.put, List.setIfInBounds_toArray, List.set_cons_succ, List.set_cons_zero]
            refine wl (by kernel_rfl) (.bool false) _ (run_binOp' (.tmp 141) (.const (.pointer none)) rfl _ _ _ rfl rfl rfl (by kernel_rfl)) ?_
            simp only [Act.put, List.setIfInBounds_toArray, List.set_cons_succ, List.set_cons_zero]
            refine wl rfl (.bool false) _ (run_pickZ (.tmp 140) (.const (.bool true)) (.tmp 142) rfl false (.bool false) rfl rfl) ?_
            simp only [Act.put, List.setIfInBounds_toArray, List.set_cons_succ, List.set_cons_zero]
            refine wl rfl (.bool false) _ (run_mvZ (.tmp 143) rfl (.bool false) rfl) ?_
            simp only [Act.put, List.setIfInBounds_toArray, List.set_cons_succ, List.set_cons_zero]
            refine wl (by kernel_rfl) (.int .i64 0) _ (run_mvZ (.tmp 19) rfl (.int .i64 0) rfl) ?_
            simp only [Act.put, List.setIfInBounds_toArray, List.set_cons_succ, List.set_cons_zero]
            refine wl (by kernel_rfl) (.bool false) _ (run_neZ (.tmp 145) (.const (.int .i64 0)) rfl (0) (0) rfl rfl false rfl) ?_
            simp only [Act.put, List.setIfInBounds_toArray, List.set_cons_succ, List.set_cons_zero]
            refine wl rfl (.bool false) _ (run_pickZ (.tmp 144) (.const (.bool true)) (.tmp 146) rfl false (.bool false) rfl rfl) ?_
            simp only [Act.put, List.setIfInBounds_toArray, List.set_cons_succ, List.set_cons_zero]
            refine wl rfl (.bool false) _ (run_mvZ (.tmp 147) rfl (.bool false) rfl) ?_
            simp only [Act.put, List.setIfInBounds_toArray, List.set_cons_succ, List.set_cons_zero]
            refine wl (by kernel_rfl) (ptr gr) _ (run_mvZ (.tmp 18) rfl (ptr gr) rfl) ?_
            simp only [Act.put, List.setIfInBounds_toArray, List.set_cons_succ, List.set_cons_zero]
            refine wpList_callW eN27 [.tmp 149] _ (by kernel_rfl) rfl [(ptr gr)] rfl ?_
            refine HRT.out.mono ?_
            rintro e W_ ⟨rfl, rfl⟩
            refine ⟨_, rfl, ?_⟩
            simp only [Act.put, List.setIfInBounds_toArray, List.set_cons_succ, List.set_cons_zero]
            refine wl (by kernel_rfl) (.bool false) _ (run_neZ (.tmp 150) (.const (.int .i64 (-1))) rfl (-1) (-1) rfl rfl false rfl) ?_
            simp only [Act.put, List.setIfInBounds_toArray, List.set_cons_succ, List.set_cons_zero]
            refine wl rfl (.bool false) _ (run_pickZ (.tmp 148) (.const (.bool true)) (.tmp 151) rfl false (.bool false) rfl rfl) ?_
            simp only [Act.put, List.setIfInBounds_toArray, List.set_cons_succ, List.set_cons_zero]
            refine wl rfl (.bool false) _ (run_mvZ (.tmp 152) rfl (.bool false) rfl) ?_
            simp only [Act.put, List.setIfInBounds_toArray, List.set_cons_succ, List.set_cons_zero]
            refine wl (by kernel_rfl) (ptr gr) _ (run_mvZ (.tmp 18) rfl (ptr gr) rfl) ?_
            simp only [Act.put, List.setIfInBounds_toArray, List.set_cons_succ, List.set_cons_zero]
            refine wpList_callW eN29 [.tmp 154] _ (by kernel_rfl) rfl [(ptr gr)] rfl ?_
            refine HRM.out.mono ?_
            rintro e W13 ⟨rfl, b_⟩
            refine ⟨_, rfl, ?_⟩
            have H13 : Hid (PgW W0 W13 c11 gr g m11 [66] [] 0 8 L noneP X 106) := H12.out.bel b_
            clear b_ HRM HRT H12
            simp only [Act.put, List.setIfInBounds_toArray, List.set_cons_succ, List.set_cons_zero]
            refine wl (by kernel_rfl) (.bool false) _ (run_neZ (.tmp 155) (.const (.int .i64 8)) rfl (8) (8) rfl rfl false rfl) ?_
            simp only [Act.put, List.setIfInBounds_toArray, List.set_cons_succ, List.set_cons_zero]
            refine wl rfl (.bool false) _ (run_pickZ (.tmp 153) (.const (.bool true)) (.tmp 156) rfl false (.bool false) rfl rfl) ?_
            simp only [Act.put, List.setIfInBounds_toArray, List.set_cons_succ, List.set_cons_zero]
            refine wpList_nil ?_
            go_upto_region 42 with fail
            refine wp_region_lit ?_
            refine wl rfl (ptr gr) _ (run_mvZ (.tmp 18) rfl (ptr gr) rfl) ?_
            simp only [Act.put, List.setIfInBounds_toArray, List.set_cons_succ, List.set_cons_zero]
            refine wl rfl (.slice (some ⟨W13.heap.size, 0, none⟩) 4 4) _ (run_lit38_4 rfl) ?_
            simp only [Act.put, List.setIfInBounds_toArray, List.set_cons_succ, List.set_cons_zero]
            refine wl rfl (.slice (some ⟨W13.heap.size, 0, none⟩) 4 4) _ (run_cv38 (w := W13) (.tmp 160) rfl _ _ rfl) ?_
            have HB : Hid (SliceIn (W13.alloc (.cells #[.int .u8 112, .int .u8 97, .int .u8 103, .int .u8 101] 5 (4, 4 + 1))) (.slice (some ⟨W13.heap.size, 0, none⟩) 4 4) [112, 97, 103, 101] ∧ Below W13.heap.size W13 (W13.alloc (.cells #[.int .u8 112, .int .u8 97, .int .u8 103, .int .u8 101] 5 (4, 4 + 1)))) := ⟨bytes_lit W13 [112, 97, 103, 101] (by decide) (by decide) _, below_alloc W13 _⟩
            obtain ⟨W14, hW_⟩ : ∃ W, W = W13.alloc (.cells #[.int .u8 112, .int .u8 97, .int .u8 103, .int .u8 101] 5 (4, 4 + 1)) := ⟨_, rfl⟩
            obtain ⟨q9, hq_⟩ : ∃ q, q = W13.heap.size := ⟨_, rfl⟩
            rw [← hW_] at HB
            change wpList _ _ _ _ _ (W13.alloc (.cells #[.int .u8 112, .int .u8 97, .int .u8 103, .int .u8 101] 5 (4, 4 + 1)))
            rw [← hW_, ← hq_]
            have HS : Hid (SliceIn W14 (.slice (some ⟨q9, 0, none⟩) 4 4) [112, 97, 103, 101]) := by rw [hq_]; exact HB.out.1
            have H14 : Hid (PgW W0 W14 c11 gr g m11 [66] [] 0 8 L noneP X 106) := H13.out.bel HB.out.2
            clear H13
            clear hW_ hq_ HB
            simp only [Act.put, List.setIfInBounds_toArray, List.set_cons_succ, List.set_cons_zero]
            refine wpList_callW eN15 [.tmp 159, .tmp 161] _ rfl rfl [(ptr gr), (.slice (some ⟨q9, 0, none⟩) 4 4)] rfl ?_
            refine (PgW.putOk H14.out (by decide) HLU.out.2.2 _ _ HS.out (by decide) 0 (by rw [least_used L (hdU noneP) HLU.out.1]; exact exW.1)).mono ?_
            rintro e W15 ⟨c15, m15, rfl, _, f_, h_⟩
            refine ⟨_, rfl, ?_⟩
            obtain ⟨X15, hX_⟩ : ∃ X2, X2 = updP X 0 (imOf [112, 97, 103, 101]) := ⟨_, rfl⟩
            rw [← hX_] at h_
            have H15 : Hid (PgW W0 W15 c15 gr g m15 [66] [] 0 8 L (withP noneP 0) X15 114 ∧ m15.fuse < 0) := ⟨h_, f_⟩
            clear h_ f_ hX_ H14 HS
            simp only [Act.put, List.setIfInBounds_toArray, List.set_cons_succ, List.set_cons_zero]
            refine wl rfl (.tuple #[(.int .i64 0), (.int .i64 0)]) _ (run_mvZ (.tmp 162) rfl (.tuple #[(.int .i64 0), (.int .i64 0)]) rfl) ?_
            simp only [Act.put, List.setIfInBounds_toArray, List.set_cons_succ, List.set_cons_zero]
            refine wl rfl (.int .i64 0) _ (run_extZ (.tmp 158) 0 rfl #[(.int .i64 0), (.int .i64 0)] rfl (.int .i64 0) rfl) ?_
            simp only [Act.put, List.setIfInBounds_toArray, List.set_cons_succ, List.set_cons_zero]
            refine wl rfl (.int .i64 0) _ (run_extZ (.tmp 158) 1 rfl #[(.int .i64 0), (.int .i64 0)] rfl (.int .i64 0) rfl) ?_
            simp only [Act.put, List.setIfInBounds_toArray, List.set_cons_succ, List.set_cons_zero]
            refine wl rfl (.int .i64 0) _ (run_asZ (.tmp 163) rfl (.int .i64 0) rfl) ?_
            simp only [Act.put, List.setIfInBounds_toArray, List.set_cons_succ, List.set_cons_zero]
            refine wl rfl (.int .i64 0) _ (run_asZ (.tmp 164) rfl (.int .i64 0) rfl) ?_
            simp only [Act.put, List.setIfInBounds_toArray, List.set_cons_succ, List.set_cons_zero]
            refine wpList_nil ?_
            go_upto_region 43 with fail
            refine wp_region_lit ?_
            refine wl rfl (ptr gr) _ (run_mvZ (.tmp 18) rfl (ptr gr) rfl) ?_
            simp only [Act.put, List.setIfInBounds_toArray, List.set_cons_succ, List.set_cons_zero]
            refine wl rfl (.int .i64 0) _ (run_mvZ (.tmp 20) rfl (.int .i64 0) rfl) ?_
            simp only [Act.put, List.setIfInBounds_toArray, List.set_cons_succ, List.set_cons_zero]
            refine wpList_callW eN19 [.tmp 165, .tmp 166] _ rfl rfl [(ptr gr), (.int .i64 0)] rfl ?_
            refine (PgW.comC H15.out.1 (by decide) H15.out.2 0 exW.2.2).mono ?_
            rintro e W16 ⟨c16, m16, rfl, _, _, _, h_⟩
            refine ⟨_, rfl, ?_⟩
            have H16 : Hid (PgW W0 W16 c16 gr g m16 [66] [] 0 8 (nextHd L 0 (withP noneP 0)) (withP noneP 0) X15 117) := h_
            clear h_ H15
            simp only [Act.put, List.setIfInBounds_toArray, List.set_cons_succ, List.set_cons_zero]
            refine wl rfl (.int .i64 0) _ (run_asZ (.tmp 167) rfl (.int .i64 0) rfl) ?_
            simp only [Act.put, List.setIfInBounds_toArray, List.set_cons_succ, List.set_cons_zero]
            refine wpList_nil ?_
            go_upto_region 44 with fail
            refine wp_region_lit ?_
            refine wl rfl (ptr g) _ (run_mvZ (.tmp 6) rfl (ptr g) rfl) ?_
            simp only [Act.put, List.setIfInBounds_toArray, List.set_cons_succ, List.set_cons_zero]
            refine wpList_callW eN13 [.tmp 169, .const (.int .i64 0)] _ rfl rfl [(ptr g), .int .i64 0] rfl ?_
            refine (PlW.openZ H16.out.pl (by decide) (by decide) (L := nextHd L 0 (withP noneP 0)) H16.out.o).mono ?_
            rintro e W17 ⟨gs, rfl, b_, h_⟩
            refine ⟨_, rfl, ?_⟩
            have H17 : Hid (PgW W0 W17 c16 gs g m16 [66] [] 0 8 (nextHd L 0 (withP noneP 0)) (withP noneP 0) X15 117) := h_
            have HR0 : Hid (Calls Tryd.prog 27 #[ptr gs] W17 fun e W' => e = .returned (.int .i64 0) ∧ W17 = W') := h_.root
            clear h_ b_ H16
            simp only [Act.put, List.setIfInBounds_toArray, List.set_cons_succ, List.set_cons_zero]
            refine wl rfl (.tuple #[(ptr gs), (.int .i64 0)]) _ (run_mvZ (.tmp 170) rfl (.tuple #[(ptr gs), (.int .i64 0)]) rfl) ?_
            simp only [Act.put, List.setIfInBounds_toArray, List.set_cons_succ, List.set_cons_zero]
            refine wl rfl (ptr gs) _ (run_extZ (.tmp 168) 0 rfl #[(ptr gs), (.int .i64 0)] rfl (ptr gs) rfl) ?_
            simp only [Act.put, List.setIfInBounds_toArray, List.set_cons_succ, List.set_cons_zero]
            refine wl rfl (.int .i64 0) _ (run_extZ (.tmp 168) 1 rfl #[(ptr gs), (.int .i64 0)] rfl (.int .i64 0) rfl) ?_
            simp only [Act.put, List.setIfInBounds_toArray, List.set_cons_succ, List.set_cons_zero]
            refine wl rfl (ptr gs) _ (run_asZ (.tmp 171) rfl (ptr gs) rfl) ?_
            simp only [Act.put, List.setIfInBounds_toArray, List.set_cons_succ, List.set_cons_zero]
            refine wl rfl (.int .i64 0) _ (run_asZ (.tmp 172) rfl (.int .i64 0) rfl) ?_
            simp only [Act.put, List.setIfInBounds_toArray, List.set_cons_succ, List.set_cons_zero]
            refine wpList_nil ?_
            go_upto_region 45 with fail
            refine wp_region_lit ?_
            refine wl rfl (.int .i64 0) _ (run_mvZ (.tmp 7) rfl (.int .i64 0) rfl) ?_
            simp only [Act.put, List.setIfInBounds_toArray, List.set_cons_succ, List.set_cons_zero]
            refine wl rfl (.bool true) _ (run_eqZ (.tmp 173) (.const (.int .i64 0)) rfl (0) (0) rfl rfl true rfl) ?_
            simp only [Act.put, List.setIfInBounds_toArray, List.set_cons_succ, List.set_cons_zero]
            refine wl rfl (.bool true) _ (run_mvZ (.tmp 174) rfl (.bool true) rfl) ?_
            simp only [Act.put, List.setIfInBounds_toArray, List.set_cons_succ, List.set_cons_zero]
            refine wl (by kernel_rfl) (.int .i64 0) _ (run_mvZ (.tmp 20) rfl (.int .i64 0) rfl) ?_
            simp only [Act.put, List.setIfInBounds_toArray, List.set_cons_succ, List.set_cons_zero]
            refine wl (by kernel_rfl) (.bool true) _ (run_eqZ (.tmp 176) (.const (.int .i64 0)) rfl (0) (0) rfl rfl true rfl) ?_
            simp only [Act.put, List.setIfInBounds_toArray, List.set_cons_succ, List.set_cons_zero]
            refine wl rfl (.bool true) _ (run_pickZ (.tmp 175) (.tmp 177) (.const (.bool false)) rfl true (.bool true) rfl rfl) ?_
            simp only [Act.put, List.setIfInBounds_toArray, List.set_cons_succ, List.set_cons_zero]
            refine wl rfl (.bool true) _ (run_mvZ (.tmp 178) rfl (.bool true) rfl) ?_
            simp only [Act.put, List.setIfInBounds_toArray, List.set_cons_succ, List.set_cons_zero]
            refine wl (by kernel_rfl) (.int .i64 0) _ (run_mvZ (.tmp 21) rfl (.int .i64 0) rfl) ?_
            simp only [Act.put, List.setIfInBounds_toArray, List.set_cons_succ, List.set_cons_zero]
            refine wl (by kernel_rfl) (.bool true) _ (run_eqZ (.tmp 180) (.const (.int .i64 0)) rfl (0) (0) rfl rfl true rfl) ?_
            simp only [Act.put, List.setIfInBounds_toArray, List.set_cons_succ, List.set_cons_zero]
            refine wl rfl (.bool true) _ (run_pickZ (.tmp 179) (.tmp 181) (.const (.bool false)) rfl true (.bool true) rfl rfl) ?_
            simp only [Act.put, List.setIfInBounds_toArray, List.set_cons_succ, List.set_cons_zero]
            refine wl rfl (.bool true) _ (run_mvZ (.tmp 182) rfl (.bool true) rfl) ?_
            simp only [Act.put, List.setIfInBounds_toArray, List.set_cons_succ, List.set_cons_zero]
            refine wl (by kernel_rfl) (ptr gs) _ (run_mvZ (.tmp 22) rfl (ptr gs) rfl) ?_
            simp only [Act.put, List.setIfInBounds_toArray, List.set_cons_succ, List.set_cons_zero]
            refine wl (by kernel_rfl) (.bool true) _ (run_binOp' (.tmp 184) (.const (.pointer none)) rfl _ _ _ rfl rfl rfl (by kernel_rfl)) ?_
            simp only [Act.put, List.setIfInBounds_toArray, List.set_cons_succ, List.set_cons_zero]
            refine wl rfl (.bool true) _ (run_pickZ (.tmp 183) (.tmp 185) (.const (.bool false)) rfl true (.bool true) rfl rfl) ?_
            simp only [Act.put, List.setIfInBounds_toArray, List.set_cons_succ, List.set_cons_zero]
            refine wl rfl (.bool true) _ (run_mvZ (.tmp 186) rfl (.bool true) rfl) ?_
            simp only [Act.put, List.setIfInBounds_toArray, List.set_cons_succ, List.set_cons_zero]
            refine wl (by kernel_rfl) (.int .i64 0) _ (run_mvZ (.tmp 19) rfl (.int .i64 0) rfl) ?_
            simp only [Act.put, List.setIfInBounds_toArray, List.set_cons_succ, List.set_cons_zero]
            refine wl (by kernel_rfl) (.bool true) _ (run_eqZ (.tmp 188) (.const (.int .i64 0)) rfl (0) (0) rfl rfl true rfl) ?_
            simp only [Act.put, List.setIfInBounds_toArray, List.set_cons_succ, List.set_cons_zero]
            refine wl rfl (.bool true) _ (run_pickZ (.tmp 187) (.tmp 189) (.const (.bool false)) rfl true (.bool true) rfl rfl) ?_
            simp only [Act.put, List.setIfInBounds_toArray, List.set_cons_succ, List.set_cons_zero]
            refine wl rfl (.bool true) _ (run_mvZ (.tmp 190) rfl (.bool true) rfl) ?_
            simp only [Act.put, List.setIfInBounds_toArray, List.set_cons_succ, List.set_cons_zero]
            refine wl (by kernel_rfl) (ptr gs) _ (run_mvZ (.tmp 22) rfl (ptr gs) rfl) ?_
            simp only [Act.put, List.setIfInBounds_toArray, List.set_cons_succ, List.set_cons_zero]
            refine wpList_callW eN27 [.tmp 192] _ (by kernel_rfl) rfl [(ptr gs)] rfl ?_
            refine HR0.out.mono ?_
            rintro e W_ ⟨rfl, rfl⟩
            refine ⟨_, rfl, ?_⟩
            simp only [Act.put, List.setIfInBounds_toArray, List.set_cons_succ, List.set_cons_zero]
            refine wl (by kernel_rfl) (.bool true) _ (run_eqZ (.tmp 193) (.const (.int .i64 0)) rfl (0) (0) rfl rfl true rfl) ?_
            simp only [Act.put, List.setIfInBounds_toArray, List.set_cons_succ, List.set_cons_zero]
            refine wl rfl (.bool true) _ (run_pickZ (.tmp 191) (.tmp 194) (.const (.bool false)) rfl true (.bool true) rfl rfl) ?_
            simp only [Act.put, List.setIfInBounds_toArray, List.set_cons_succ, List.set_cons_zero]
            refine wl rfl (.bool true) _ (run_asZ (.tmp 195) rfl (.bool true) rfl) ?_
            simp only [Act.put, List.setIfInBounds_toArray, List.set_cons_succ, List.set_cons_zero]
            refine wpList_nil ?_
            go_wp2_with fail
            rw [HPQ.out]
            exact ⟨rfl, HB0.out.2.trans (H17.out.pl.below.mono HB0.out.2.size)⟩
end Go.Proofs.YtcpnlccajcpjmaaDoor

namespace Go.Proofs.YtcpnlccajcpjmaaDoor
open Go.ChangeShapes Go.WideShapes Go.ChangeAt Go.RowKit Go.Deep

theorem cells60 : Tryd.prog.cellsOf 60 = 8 := by kernel_rfl
section
variable {H : Type} {enc : TypeId × Value → H} {W : World} {base : Nat} {sp : Nat → Bool} {hd : Bool}
theorem trod_gen {fuel : Nat} {cs : List Value} {x : DataW H × List MemPlace} (h : DataW.trod enc Tryd.prog W base sp hd fuel 60 cs = some x) : ∃ b, (b.length = 8 ∧ ∀ c ∈ b, c < 256) ∧ cs = bcells b := by
  obtain ⟨xs, m, _, _, hl, hxl, hf⟩ := DataW.trod_array Tryd.underlying60 h
  rw [cells60] at hl
  have key : ∀ i, i < 8 → ∃ n : Nat, n < 256 ∧ cs[i]? = some (.int .u8 (n : Int)) := by
    intro i hi
    have h1 := hf i hi
    rw [cells5, Nat.mul_one, List.getElem?_eq_getElem (by omega)] at h1
    obtain ⟨n, hn, _, hw⟩ := DataW.trod_int Tryd.underlying5 h1
    have hb : 0 ≤ n ∧ n ≤ 255 := by simpa [Lit.wf, IntKind.min, IntKind.max, IntKind.signed, IntKind.bits] using hw
    have hc : cs[i]? = ((cs.drop i).take 1)[0]? := by simp
    rw [hn] at hc
    refine ⟨n.toNat, by omega, ?_⟩
    rw [hc, Int.toNat_of_nonneg hb.1]
    rfl
  refine ⟨cs.map (fun c => (match c with | .int _ z => z.toNat | _ => 0)), ⟨by rw [List.length_map, hl], fun c hc => ?_⟩, ?_⟩
  · obtain ⟨v, hv, rfl⟩ := List.mem_map.1 hc
    obtain ⟨i, hi, rfl⟩ := List.getElem_of_mem hv
    obtain ⟨n, hn, e⟩ := key i (by omega)
    rw [List.getElem?_eq_getElem hi] at e
    rw [Option.some.inj e]
    simpa using hn
  · refine List.ext_getElem? fun i => ?_
    by_cases hi : i < cs.length
    · obtain ⟨n, hn, e⟩ := key i (by omega)
      simp only [bcells, List.getElem?_map, e, Option.map_some]
      simp
    · rw [List.getElem?_eq_none (by omega), List.getElem?_eq_none (by rw [bcells_length, List.length_map]; omega)]
set_option maxRecDepth 100000 in
/-- A NUMBER OF EIGHT BYTES THAT CAME IN -/
theorem open_gen {v : Value} {d : DataW H} {p : List MemPlace} {b0 : Nat} (hv' : Value.okWide Tryd.prog W .any b0 60 v) (h : DataW.Trod enc Tryd.prog W base sp hd 60 v d p) : ∃ b, (b.length = 8 ∧ ∀ c ∈ b, c < 256) ∧ v = .agg (bcells b).toArray := by
  simp only [Value.okWide, Tryd.underlying60] at hv'
  obtain ⟨cs, rfl, _, _⟩ := hv'
  obtain ⟨fuel, hf⟩ := h
  obtain ⟨b, hb, e⟩ := trod_gen hf
  refine ⟨b, hb, ?_⟩
  rw [← e]
  simp [Value.cells]
end
end Go.Proofs.YtcpnlccajcpjmaaDoor

namespace Go.Proofs.YtcpnlccajcpjmaaDoor.pagerWhatever
open Go.ChangeShapes Go.WideShapes Go.ChangeAt Go.RowKit

set_option maxRecDepth 100000 in
/-- WHAT THE WALK GIVES, FOR EVERY ARGUMENT AND EVERY WORLD THAT HOLDS THE TABLE -/
theorem contract (H : Type) (enc : TypeId × Value → H) (W : World) (base : Nat) (args : Array Value) (ds gs : List (DataW H)) (before : List MemPlace)
    (hval : ∀ (j : Nat) t v, Tryd.f8.params[j]? = some t → args[j]? = some v → Value.okWide Tryd.prog W .any base t v)
    (hW : DataW.Whole enc Tryd.prog Tryd.f8.params.toList Rows.pagerWhateverSpec.vars false W args.toList ds gs before)
    (hL : laidMetH Tryd.prog Rows.pagerWhateverRow.laid W) :
    Calls Tryd.prog 8 args W fun e W' => ∃ v, e = .returned v ∧ Rows.pagerWhateverSpec.post enc Tryd.prog Tryd.f8 false true false false W args v W' := by
  have hW' := hW
  obtain ⟨p, q, hA0, hV, rfl, hfz, hnd⟩ := hW
  have hA : DataW.TrodAll enc Tryd.prog W 0 (fun _ => true) true Tryd.f8.params.toList args.toList ds p := hA0
  rw [Tryd.params8] at hA hval
  obtain ⟨v0, vs0, d0, ds0, p0, q0, hargs, rfl, rfl, h0, r0⟩ := trodAll_cons hA
  obtain ⟨v1, vs1, d1, ds1, p1, q1, rfl, rfl, rfl, h1, r1⟩ := trodAll_cons r0
  obtain ⟨rfl, rfl, rfl⟩ := trodAll_nil r1
  obtain rfl : args = #[v0, v1] := by cases args; simp_all
  obtain ⟨rfl, rfl⟩ := trodVars_none hV
  have lt0 : ∀ x ∈ p0, x.block < W.heap.size := by obtain ⟨m, hm⟩ := h0; exact DataW.trod_lt m _ _ _ hm
  obtain ⟨x0, hx0, rfl⟩ := open_gen (hval 0 60 v0 rfl rfl) h0
  have lt1 : ∀ x ∈ p1, x.block < W.heap.size := by obtain ⟨m, hm⟩ := h1; exact DataW.trod_lt m _ _ _ hm
  obtain ⟨L1, hs1, hd1⟩ := open_rows (hval 1 50 v1 rfl rfl) h1
  clear hA0
  have hr1 := hs1
  obtain ⟨p1', cap1', hv1, _, _⟩ := id hr1
  subst hv1
  have walk := pagerWhatever_any W (tabIn_of hL) x0 hx0 p1' L1.length cap1' L1 hr1
  refine walk.mono fun e W' ⟨he, bel⟩ => ?_
  subst he
  exact ⟨_, rfl, _, _, _, [], _, [], hW', trodAll_mk1 (shut_bool Tryd.underlying4 _), (trodAll_cons_mk (Below.trod laidOut (by kernel_rfl) (of_decide_eq_true (by kernel_rfl)) h0 bel lt0) (trodAll_cons_mk (Below.trod laidOut (by kernel_rfl) (of_decide_eq_true (by kernel_rfl)) h1 bel lt1) trodAll_mk0)), rfl, bel.frame _, fun h => by cases h⟩

theorem laid_met (os : Os) : laidMet Tryd.prog Rows.pagerWhateverRow.laid ((laidOn (World.holding Tryd.prog os ⟨#[], #[], []⟩)).forCall (fun _ _ => 0) ⟨#[], #[.agg (zerosU8 8).toArray, .slice none 0 0], []⟩).memory :=
  laidMet_of_run' 8 (by kernel_rfl) (by kernel_rfl)
theorem reads (os : Os) {H : Type} (enc : TypeId × Value → H) : ∃ places, DataW.whole enc Tryd.prog ((laidOn (World.holding Tryd.prog os ⟨#[], #[], []⟩)).forCall (fun _ _ => 0) ⟨#[], #[.agg (zerosU8 8).toArray, .slice none 0 0], []⟩).memory Tryd.f8.params.toList Rows.pagerWhateverSpec.vars false #[Value.agg (zerosU8 8).toArray, .slice none 0 0].toList 8 = some ([.agg (List.replicate 8 (.lit (.int .u8 0))), .nil], [], places) :=
  ⟨[], by kernel_rfl⟩

set_option maxRecDepth 100000 in
theorem lifted (os : Os) (started : os.Started) (H : Type) (enc : TypeId × Value → H) (F : Stop.Interp) :
    ReturnsInHanded {} Tryd.checked os 8 .any ((OpenSpec.ofChange Rows.pagerWhateverSpec).preRow enc Tryd.prog Tryd.f8 Rows.pagerWhateverRow.domain false Rows.pagerWhateverRow.laid) (((OpenSpec.ofChange Rows.pagerWhateverSpec).at F).post enc Tryd.prog Tryd.f8 false true false false) := by
  obtain ⟨places, hx⟩ := reads os enc
  refine returnsInHanded_of_row (C := Tryd.checked) (s := OpenSpec.ofChange Rows.pagerWhateverSpec) own started (by kernel_rfl) Tryd.func8
    (witness_row_at (enc := enc) (C := Tryd.checked) false (laidOn (World.holding Tryd.prog os ⟨#[], #[], []⟩)) #[.agg (zerosU8 8).toArray, .slice none 0 0] rfl (by kernel_rfl) (by kernel_rfl) (by kernel_rfl)
      (OpenSpec.preRow_of_cond 8 hx (by kernel_rfl) (fun k hk => by cases hk) (by kernel_rfl) (laid_met os))) ?_
  intro W base args ds gs before hval hW _ _ _ hL _ _
  exact contract H enc W base args ds gs before hval hW hL

theorem said : Rows.PagerWhateverSaid :=
  OpenClaim.holds_of_cond 8 Tryd.f8 rfl rfl rfl rfl rfl rfl rfl ⟨rfl, rfl, rfl, rfl, rfl⟩ rfl rfl rfl rfl rfl (by kernel_rfl) Tryd.func8 (by kernel_rfl)
    (of_decide_eq_true (by kernel_rfl)) (by unfold Func.isWrapper; first | (rw [if_pos (by decide +kernel)]; kernel_rfl) | (rw [if_neg (by decide +kernel)]; exact ⟨rfl, rfl⟩))
    (fun os started H enc _ F => by rw [OpenClaim.pre_eq_preRow]; exact lifted os started H enc F)

theorem plain (f : FuncId) (fn : Func) (hf : Tryd.pinned.checked.prog.funcNamed "muniment/munimentlaw09.PagerWhatever" = some f) (hfn : Tryd.pinned.checked.prog.funcs[f]? = some fn) :
    false = Tryd.pinned.checked.prog.looks [] ∧ ∀ (j : Nat) t, fn.params[j]? = some t → Tryd.pinned.checked.prog.wantsStandIn t = false := by
  obtain rfl : f = 8 := Option.some.inj ((show Tryd.prog.funcNamed "muniment/munimentlaw09.PagerWhatever" = some 8 by kernel_rfl).symm.trans hf) |>.symm
  obtain rfl : fn = Tryd.f8 := (Option.some.inj (Tryd.func8.symm.trans hfn)).symm
  refine ⟨by kernel_rfl, fun j t ht => ?_⟩
  rw [Tryd.params8] at ht
  have hm := Array.mem_of_getElem? ht
  have : t = 60 ∨ t = 50 := by simpa using hm
  rcases this with rfl | rfl
  · exact (show Tryd.prog.wantsStandIn 60 = false by kernel_rfl)
  · exact (show Tryd.prog.wantsStandIn 50 = false by kernel_rfl)

end Go.Proofs.YtcpnlccajcpjmaaDoor.pagerWhatever
namespace Go.Proofs.YtcpnlccajcpjmaaDoor
/-- THE CARD -/
theorem pagerWhatever_card : Rows.PagerWhateverCardSaid :=
  Claim7.holds_tied_plain_at .later [] _ _ _ _ pagerWhatever.said (fun _ h => by cases h) (by kernel_rfl) (fun _ h => by cases h) pagerWhatever_row_tie rfl ⟨rfl, rfl⟩ (by kernel_rfl) rfl pagerWhatever.plain (by kernel_rfl)
end Go.Proofs.YtcpnlccajcpjmaaDoor

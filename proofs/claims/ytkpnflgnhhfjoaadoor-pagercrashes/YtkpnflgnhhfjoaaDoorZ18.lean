/- Layer 9: numbers in bytes, a head's slot. Layer 9: numbers read and laid. -/
import Derived.Test.YtkpnflgnhhfjoaaDoorZ17
namespace Go.Proofs.YtkpnflgnhhfjoaaDoor
open Go.RowKit Go.Maps
open Fr.Frame (be val)

def hdCells (h : Hd) : List Value := .int .u64 (h.num : Nat) :: .int .i64 h.root :: bcells h.used
theorem hdCells_length {h : Hd} (hu : USet h.used) : (hdCells h).length = 50 := by simp [hdCells, bcells_length, hu.1]
theorem hdCells_one (h : Hd) : ∀ v ∈ hdCells h, v.oneCell' = true := by
  intro v hv
  simp only [hdCells, List.mem_cons] at hv
  rcases hv with rfl | rfl | hv
  · rfl
  · rfl
  · exact bcells_one _ v hv
theorem zero78 : (Tryd.prog.info? 78).map (·.zero) = some (some (.agg (hdCells ⟨0, 0, noneP⟩).toArray)) := by kernel_rfl
section
variable {w : World} {a : Act} {o : Oper}
theorem i64_wrap (r : Int) (h0 : -9223372036854775808 ≤ r) (h1 : r ≤ 9223372036854775807) : IntKind.i64.wrap r = r := by
  simp [IntKind.wrap, IntKind.signed, IntKind.bits]
  omega
theorem run_addI (x y : Operand) (ho : o.op = .binOp .add 3 x y 3) (m n r : Int) (hr : m + n = r) (h0 : -9223372036854775808 ≤ r) (h1 : r ≤ 9223372036854775807) (hx : a.eval x = .int .i64 m) (hy : a.eval y = .int .i64 n) : (execOp a.eval o).run Tryd.prog w = .ok (.value (.int .i64 r)) w :=
  run_binOp' x y ho _ _ _ hx hy rfl (by subst hr; simp [binOp, Op.intArith, i64_wrap _ h0 h1])
theorem run_subI (x y : Operand) (ho : o.op = .binOp .sub 3 x y 3) (m n r : Int) (hr : m - n = r) (h0 : -9223372036854775808 ≤ r) (h1 : r ≤ 9223372036854775807) (hx : a.eval x = .int .i64 m) (hy : a.eval y = .int .i64 n) : (execOp a.eval o).run Tryd.prog w = .ok (.value (.int .i64 r)) w :=
  run_binOp' x y ho _ _ _ hx hy rfl (by subst hr; simp [binOp, Op.intArith, i64_wrap _ h0 h1])
theorem run_mulI (x y : Operand) (ho : o.op = .binOp .mul 3 x y 3) (m n r : Int) (hr : m * n = r) (h0 : -9223372036854775808 ≤ r) (h1 : r ≤ 9223372036854775807) (hx : a.eval x = .int .i64 m) (hy : a.eval y = .int .i64 n) : (execOp a.eval o).run Tryd.prog w = .ok (.value (.int .i64 r)) w :=
  run_binOp' x y ho _ _ _ hx hy rfl (by subst hr; simp [binOp, Op.intArith, i64_wrap _ h0 h1])
theorem run_shr8 (x y : Operand) (ho : o.op = .binOp .shr 74 x y 3) (n j : Nat) (hj : j < 8) (hx : a.eval x = .int .u64 (n : Nat)) (hy : a.eval y = .int .i64 ((8 * j : Nat) : Int)) : (execOp a.eval o).run Tryd.prog w = .ok (.value (.int .u64 ((n / 256 ^ j : Nat) : Int))) w := by
  have hb : (binOp .shr 74 (.int .u64 (n : Nat)) (.int .i64 ((8 * j : Nat) : Int))).run Tryd.prog w = .ok (.int .u64 ((n / 256 ^ j : Nat) : Int)) w := by
    match j, hj with
    | 0, _ => simp [go_sem]
    | 1, _ => simp [go_sem]
    | 2, _ => simp [go_sem]
    | 3, _ => simp [go_sem]
    | 4, _ => simp [go_sem]
    | 5, _ => simp [go_sem]
    | 6, _ => simp [go_sem]
    | 7, _ => simp [go_sem]
  have e : (eqGuard .shr 74 x y (.int .u64 (n : Nat)) (.int .i64 ((8 * j : Nat) : Int))).run Tryd.prog w = .ok () w := rfl
  simp only [execOp, ho, hx, hy, e, hb, Sem.run_bind, Sem.run_pure, Result.andThen_ok]
theorem run_toByte (x : Operand) (ho : o.op = .convert 74 5 x) (n : Nat) (hx : a.eval x = .int .u64 (n : Nat)) : (execOp a.eval o).run Tryd.prog w = .ok (.value (.int .u8 ((n % 256 : Nat) : Int))) w := by
  have h : (convert 74 5 (.int .u64 (n : Nat))).run Tryd.prog w = .ok (.int .u8 ((n % 256 : Nat) : Int)) w := by
    simp [go_sem, IntKind.wrap, IntKind.signed, IntKind.bits]
  simp only [execOp, ho, hx, h, Sem.run_bind, Sem.run_pure, Result.andThen_ok]
theorem run_ixS (x i : Operand) (ho : o.op = .indexAddr 38 x i) (g off n cap j : Nat) (hx : a.eval x = .slice (some ⟨g, off, none⟩) n cap) (hi : a.eval i = .int .i64 (j : Nat)) (hj : j < n) : (execOp a.eval o).run Tryd.prog w = .ok (.value (.pointer (some ⟨g, off + j, none⟩))) w := by
  obtain ⟨i5, hi5, hsz⟩ := Option.map_eq_some_iff.1 info5
  simp [execOp, ho, hx, hi, Instr.indexAt, asIntOf, run_underlying Tryd.underlying38, hj, sizeOf, typeInfo, hi5, hsz, add_none]
end
theorem take_set {α : Type} (s : List α) (m : Nat) (x : α) (B : List α) (h : m < s.length) : (s.take (m + 1) ++ B).set m x = s.take m ++ x :: B := by
  have hl : (s.take (m + 1)).length = m + 1 := by simp; omega
  rw [List.set_append_left _ _ (by omega)]
  have e : s.take (m + 1) = s.take m ++ [s[m]] := by rw [List.take_add_one, List.getElem?_eq_getElem h]; rfl
  rw [e, List.set_append_right _ _ (by simp; omega)]
  have : m - (s.take m).length = 0 := by simp; omega
  rw [this]
  simp
/-- a number is laid, the lowest byte first -/
def layTo (s : List Nat) (off k n : Nat) : Nat → List Nat
  | 0 => s
  | j + 1 => (layTo s off k n j).set (off + (k - 1 - j)) (n / 256 ^ j % 256)
theorem layTo_eq (s : List Nat) (off k n : Nat) (h : off + k ≤ s.length) : ∀ j, j ≤ k → layTo s off k n j = s.take (off + k - j) ++ (be j n ++ s.drop (off + k)) := by
  intro j
  induction j with
  | zero => intro _; rw [layTo, Nat.sub_zero]; show s = s.take (off + k) ++ ([] ++ s.drop (off + k)); rw [List.nil_append, List.take_append_drop]
  | succ j ih =>
    intro hj
    rw [layTo, ih (by omega), show off + k - j = (off + (k - 1 - j)) + 1 by omega, take_set _ _ _ _ (by omega), Fr.Frame.be_succ, show off + k - (j + 1) = off + (k - 1 - j) by omega]
    rfl
theorem layTo_length (s : List Nat) (off k n : Nat) : ∀ j, (layTo s off k n j).length = s.length := by
  intro j
  induction j with
  | zero => rfl
  | succ j ih => rw [layTo, List.length_set, ih]
/-- bytes laid over a part of others -/
def over (s : List Nat) (off : Nat) (b : List Nat) : List Nat := s.take off ++ (b ++ s.drop (off + b.length))
theorem layTo_all (s : List Nat) (off k n : Nat) (h : off + k ≤ s.length) : layTo s off k n k = over s off (be k n) := by
  rw [layTo_eq s off k n h k (Nat.le_refl _), over, Fr.Frame.be_length, Nat.add_sub_cancel]
theorem over_splice (s : List Nat) (off : Nat) (b : List Nat) : splice (bcells s) off (bcells b) = bcells (over s off b) := by
  simp [splice, over, bcells, List.map_append, List.map_take, List.map_drop]
theorem over_length (s : List Nat) (off : Nat) (b : List Nat) (h : off + b.length ≤ s.length) : (over s off b).length = s.length := by
  simp [over]; omega
set_option maxHeartbeats 4000000 in
set_option maxRecDepth 100000 in
theorem slot_any (w : World) (h : Hd) (hw : h.WF) : Calls Tryd.prog 67 #[.agg (hdCells h).toArray] w fun e w' => e = .returned (.int .i64 ((h.num % 2 : Nat) : Int)) ∧ Below w.heap.size w w' := by
  obtain ⟨n, hn⟩ : ∃ n, n = h.num := ⟨_, rfl⟩
  have HN : Hid (n < 18446744073709551616) := by rw [hn]; exact hw.num
  have HC : Hid ((hdCells h)[0]? = some (.int .u64 (n : Nat))) := by rw [hn]; rfl
  rw [← hn]
  clear hw hn
  go_enter Tryd.func67, Tryd.ntmps67
  go_upto_region 0 with fail
  refine wp_region_lit ?_
  refine wpList_box (.tmp 0) rfl rfl (hdCells h) rfl ?_
  intro w1 r1 s1 b1
  obtain ⟨q, hq⟩ : ∃ q, q = w.heap.size := ⟨_, rfl⟩
  have R1 : Hid (Loc w w1 [(q, 78, hdCells h)]) := by rw [hq]; exact (Loc.nil (Below.refl _ w)).add r1 (Nat.le_refl _) b1
  rw [← hq]
  clear r1 b1 hq s1
  have hc0 : w1.cell? ⟨q, 0, none⟩ = some (.int .u64 (n : Nat)) := rows_at R1.out 0 rfl 0 _ HC.out
  go_wp2_with (refine wl_fld f78_0 (.tmp 1) rfl rfl q 0 rfl ?_)
  go_ret
  refine ⟨?_, R1.out.below⟩
  simp
end Go.Proofs.YtkpnflgnhhfjoaaDoor

namespace Go.Proofs.YtkpnflgnhhfjoaaDoor.Fr
open Go.RowKit

theorem u64_step (n c : Nat) (hn : n < 72057594037927936) (hc : c < 256) : bits BinOp.or IntKind.u64 (IntKind.u64.wrap ((n : Int) * 256)) (IntKind.u64.wrap (c : Int)) = ((n * 256 + c : Nat) : Int) := by
  have e1 : IntKind.u64.wrap ((n : Int) * 256) = ((n * 256 : Nat) : Int) := by rw [IntKind.wrap_u64]; omega
  have e2 : IntKind.u64.wrap (c : Int) = (c : Int) := by rw [IntKind.wrap_u64]; omega
  rw [e1, e2, u64_or_nat _ _ (by omega) (by omega)]
  have := Nat.two_pow_add_eq_or_of_lt (i := 8) (b := c) (by omega) n
  rw [show (2 : Nat) ^ 8 = 256 from rfl] at this
  rw [Nat.mul_comm n, this]
theorem val_take_lt (cs : List Nat) (hb : ∀ j : Nat, cs.getD j 0 < 256) (k : Nat) (hk : k ≤ 7) : Frame.val (cs.take k) < 72057594037927936 := by
  have h1 := Frame.val_lt (cs.take k) fun c hc => Frame.mem_lt hb c (List.mem_of_mem_take hc)
  have h2 : (cs.take k).length ≤ 7 := by simp; omega
  have h3 : 256 ^ (cs.take k).length ≤ 256 ^ 7 := Nat.pow_le_pow_right (by decide) h2
  omega
theorem val_take_succ (cs : List Nat) (k : Nat) (h : k < cs.length) : Frame.val (cs.take (k + 1)) = Frame.val (cs.take k) * 256 + cs[k] := by
  rw [List.take_succ_eq_append_getElem h, Frame.val_snoc]

set_option maxHeartbeats 400000 in
theorem number_some (b off cap : Nat) (cs : List Nat) (w : World) (hl : cs.length ≤ 8) (h : BytesIn w b off cs) :
    Calls Tryd.prog 77 #[.slice (some ⟨b, off, none⟩) cs.length cap] w fun e w' => e = .returned (.int .u64 (Frame.val cs : Nat)) ∧ w' = w := by
  obtain ⟨hc, hb⟩ := h
  go_enter Tryd.func77, Tryd.ntmps77
  go_wp2
  go_loop [3, 5, 8] (fun n c i => ∃ k : Nat, k ≤ cs.length ∧ i = .int .i64 k ∧ n = .int .u64 (Frame.val (cs.take k) : Nat)) (fun _ _ i => cs.length - (intOf i).toNat)
  case atStart => exact ⟨0, Nat.zero_le _, rfl, rfl⟩
  case round =>
    obtain ⟨k, hk, rfl, rfl⟩ := hrel
    by_cases hlt : k < cs.length
    · have hck := hc k hlt
      have HS : Hid (bits BinOp.or IntKind.u64 (IntKind.u64.wrap ((Frame.val (cs.take k) : Nat) * 256)) (IntKind.u64.wrap (cs[k] : Nat)) = ((Frame.val (cs.take (k + 1)) : Nat) : Int)) := by
        have h1 := u64_step (Frame.val (cs.take k)) cs[k] (val_take_lt cs hb k (by omega)) (Frame.mem_lt hb _ (List.getElem_mem hlt))
        rw [← val_take_succ cs k hlt] at h1
        exact h1
      clear hc hb
      go_wp2
      refine ⟨⟨k + 1, by omega, by go_num, by rw [HS.out]⟩, ?_⟩
      simp [intOf]; omega
    · go_wp2
      go_ret
      exact ⟨by rw [show k = cs.length by omega, List.take_length]; rfl, rfl⟩
set_option maxHeartbeats 400000 in
theorem number_none (p : Option Addr) (cap : Nat) (w : World) :
    Calls Tryd.prog 77 #[.slice p 0 cap] w fun e w' => e = .returned (.int .u64 0) ∧ w' = w := by
  go_enter Tryd.func77, Tryd.ntmps77
  go_wp2
  go_loop [3, 5, 8] (fun n c i => i = .int .i64 0 ∧ n = .int .u64 0) (fun _ _ i => 0)
  case atStart => exact ⟨rfl, rfl⟩
  case round =>
    obtain ⟨rfl, rfl⟩ := hrel
    go_wp2
    go_ret
    exact ⟨rfl, rfl⟩
theorem number_any (v : Value) (cs : List Nat) (w : World) (h : SliceIn w v cs) (hl : cs.length ≤ 8) :
    Calls Tryd.prog 77 #[v] w fun e w' => e = .returned (.int .u64 (Frame.val cs : Nat)) ∧ w = w' := by
  obtain ⟨p, cap, rfl, hl', h⟩ := h
  rcases h with rfl | ⟨b, off, rfl, h⟩
  · exact (number_none p cap w).mono fun e w' h => ⟨h.1, h.2.symm⟩
  · exact (number_some b off cap cs w hl h).mono fun e w' h => ⟨h.1, h.2.symm⟩

end Go.Proofs.YtkpnflgnhhfjoaaDoor.Fr
namespace Go.Proofs.YtkpnflgnhhfjoaaDoor
open Go.RowKit Go.Maps
open Fr.Frame (be val)

/-- the number of bytes of a block -/
theorem number_at {w : World} {g T off k cap : Nat} {s : List Nat} (hr : Row w g T (bcells s)) (hb : ∀ c ∈ s, c < 256) (h : off + k ≤ s.length) (hk : k ≤ 8) (hc : k ≤ cap) : Calls Tryd.prog 77 #[.slice (some ⟨g, off, none⟩) k cap] w fun e w' => e = .returned (.int .u64 (val ((s.drop off).take k) : Nat)) ∧ w = w' := by
  have hl : ((s.drop off).take k).length = k := by simp; omega
  have h1 : Fr.SliceIn w (.slice (some ⟨g, off, none⟩) k cap) ((s.drop off).take k) := by
    refine ⟨_, cap, by rw [hl], ⟨by omega, by omega⟩, Or.inr ⟨g, off, rfl, fun j hj => ?_, Fr.Frame.getD_lt fun c hc => hb c (List.mem_of_mem_drop (List.mem_of_mem_take hc))⟩⟩
    rw [hl] at hj
    have e : ((s.drop off).take k).getD j 0 = s.getD (off + j) 0 := by
      simp [List.getD_eq_getElem?_getD, hj]
    rw [e]
    exact hr.at (off + j) _ (bat (by omega))
  exact Fr.number_any _ _ w h1 (by omega)
theorem eN71 : EntersF 71 := Go.Proofs.enters_of Tryd.func71 (by kernel_rfl) rfl
theorem eN77 : EntersF 77 := Go.Proofs.enters_of Tryd.func77 (by kernel_rfl) rfl
set_option maxHeartbeats 4000000 in
set_option maxRecDepth 100000 in
theorem layNum_any {w0 w : World} {l : List (Nat × TypeId × List Value)} (h : Loc w0 w l) (i : Nat) {g T : Nat} {s : List Nat} (e : l[i]? = some (g, T, bcells s)) (off k cap n : Nat) (hk : off + k ≤ s.length) (hk8 : k ≤ 8) : Calls Tryd.prog 71 #[.slice (some ⟨g, off, none⟩) k cap, .int .u64 (n : Nat)] w fun e w' => e = .returned noResult ∧ Loc w0 w' (l.set i (g, T, bcells (over s off (be k n)))) := by
  have HL : Hid (Loc w0 w l) := h
  have HE : Hid (l[i]? = some (g, T, bcells s)) := e
  have HK : Hid (off + k ≤ s.length) := hk
  have hi : i < l.length := (List.getElem?_eq_some_iff.1 e).1
  have HI : Hid (i < l.length) := hi
  obtain ⟨PQ, hPQ⟩ : ∃ PQ : Ending → World → Prop, PQ = fun (e : Ending) (w' : World) => e = .returned noResult ∧ Loc w0 w' (l.set i (g, T, bcells (over s off (be k n)))) := ⟨_, rfl⟩
  have HPQ : Hid (PQ = fun (e : Ending) (w' : World) => e = .returned noResult ∧ Loc w0 w' (l.set i (g, T, bcells (over s off (be k n))))) := hPQ
  rw [← hPQ]
  clear hPQ h e hk hi
  go_enter Tryd.func71, Tryd.ntmps71
  go_upto_region 0 with fail
  refine wp_region_lit ?_
  refine wl rfl (.slice (some ⟨g, off, none⟩) k cap) _ (run_mvZ (.tmp 0) rfl (.slice (some ⟨g, off, none⟩) k cap) rfl) ?_
  simp only [Act.put, aS, aC, aZ]
  refine wl rfl (.int .i64 (k : Nat)) _ (run_lenZ sl38 (.tmp 5) rfl (some ⟨g, off, none⟩) k cap rfl) ?_
  simp only [Act.put, aS, aC, aZ]
  refine wl rfl (.int .i64 0) _ (run_mvZ (.const (.int .i64 0)) rfl (.int .i64 0) rfl) ?_
  simp only [Act.put, aS, aC, aZ]
  refine wpList_nil ?_
  go_wp2_with fail
  go_loopw [7] (fun vj W => ∃ j : Nat, vj = .int .i64 (j : Nat) ∧ j ≤ k ∧ Loc w0 W (l.set i (g, T, bcells (layTo s off k n j)))) (fun vj _ => k - (intOf vj).toNat)
  case atStart =>
    refine ⟨0, rfl, Nat.zero_le _, ?_⟩
    have hs : l.set i (g, T, bcells s) = l := by
      obtain ⟨hi, he⟩ := List.getElem?_eq_some_iff.1 HE.out
      rw [← he, List.set_getElem_self]
    show Loc w0 w (l.set i (g, T, bcells s))
    rw [hs]
    exact HL.out
  case round =>
    obtain ⟨j, rfl, hj, hI⟩ := hrel
    have R : Hid (Loc w0 wr (l.set i (g, T, bcells (layTo s off k n j)))) := hI
    clear hI
    by_cases hlt : j < k
    · have t1 : decide ((j : Int) < (k : Int)) = true := decide_eq_true (by omega)
      go_upto_region 3 with fail
      refine wp_region_lit ?_
      refine wl rfl (.slice (some ⟨g, off, none⟩) k cap) _ (run_mvZ (.tmp 0) rfl (.slice (some ⟨g, off, none⟩) k cap) rfl) ?_
      simp only [Act.put, aS, aC, aZ]
      refine wl rfl (.slice (some ⟨g, off, none⟩) k cap) _ (run_mvZ (.tmp 0) rfl (.slice (some ⟨g, off, none⟩) k cap) rfl) ?_
      simp only [Act.put, aS, aC, aZ]
      refine wl rfl (.int .i64 (k : Nat)) _ (run_lenZ sl38 (.tmp 11) rfl (some ⟨g, off, none⟩) k cap rfl) ?_
      simp only [Act.put, aS, aC, aZ]
      refine wl rfl (.int .i64 ((k : Int) - 1)) _ (run_subI (.tmp 12) (.const (.int .i64 1)) rfl (k : Nat) 1 ((k : Int) - 1) rfl (by omega) (by omega) rfl rfl) ?_
      simp only [Act.put, aS, aC, aZ]
      refine wl rfl (.int .i64 (j : Nat)) _ (run_mvZ (.tmp 4) rfl (.int .i64 (j : Nat)) rfl) ?_
      simp only [Act.put, aS, aC, aZ]
      refine wl rfl (.int .i64 ((k - 1 - j : Nat) : Int)) _ (run_subI (.tmp 13) (.tmp 14) rfl ((k : Int) - 1) (j : Nat) ((k - 1 - j : Nat) : Int) (by omega) (by omega) (by omega) rfl rfl) ?_
      simp only [Act.put, aS, aC, aZ]
      refine wl rfl (.int .u64 (n : Nat)) _ (run_mvZ (.tmp 1) rfl (.int .u64 (n : Nat)) rfl) ?_
      simp only [Act.put, aS, aC, aZ]
      refine wl rfl (.int .i64 (j : Nat)) _ (run_mvZ (.tmp 4) rfl (.int .i64 (j : Nat)) rfl) ?_
      simp only [Act.put, aS, aC, aZ]
      refine wl rfl (.int .i64 ((8 * j : Nat) : Int)) _ (run_mulI (.const (.int .i64 8)) (.tmp 17) rfl 8 (j : Nat) ((8 * j : Nat) : Int) (by omega) (by omega) (by omega) rfl rfl) ?_
      simp only [Act.put, aS, aC, aZ]
      refine wl rfl (.int .u64 ((n / 256 ^ j : Nat) : Int)) _ (run_shr8 (.tmp 16) (.tmp 18) rfl n j (by omega) rfl rfl) ?_
      simp only [Act.put, aS, aC, aZ]
      refine wl rfl (.int .u8 ((n / 256 ^ j % 256 : Nat) : Int)) _ (run_toByte (.tmp 19) rfl (n / 256 ^ j) rfl) ?_
      simp only [Act.put, aS, aC, aZ]
      refine wl rfl (.pointer (some ⟨g, off + (k - 1 - j), none⟩)) _ (run_ixS (.tmp 10) (.tmp 15) rfl g off k cap (k - 1 - j) rfl rfl (by omega)) ?_
      simp only [Act.put, aS, aC, aZ]
      refine wlS rfl rfl _ (run_put1 size5' (.tmp 21) (.tmp 20) rfl R.out i (by rw [List.getElem?_set_self HI.out]) (off + (k - 1 - j)) rfl (.int .u8 ((n / 256 ^ j % 256 : Nat) : Int)) rfl ⟨rfl, rfl⟩ (by have := HK.out; rw [bcells_length, layTo_length]; omega)).1 ?_
      refine wpList_nil ?_
      have k2 := R.out.put i (by rw [List.getElem?_set_self HI.out]) (off + (k - 1 - j)) (.int .u8 ((n / 256 ^ j % 256 : Nat) : Int))
      rw [bcells_set, List.set_set] at k2
      have R2 : Hid (Loc w0 _ (l.set i (g, T, bcells (layTo s off k n (j + 1))))) := k2
      clear k2 R
      go_wp2_with fail
      refine ⟨⟨j + 1, by go_num, by omega, R2.out⟩, ?_⟩
      simp [intOf]; omega
    · have ej : j = k := by omega
      have t1 : decide ((j : Int) < (k : Int)) = false := decide_eq_false (by omega)
      have R2 : Hid (Loc w0 wr (l.set i (g, T, bcells (over s off (be k n))))) := by
        have e2 := R.out
        rw [ej, layTo_all s off k n HK.out] at e2
        exact e2
      clear R ej
      go_wp2_with fail
      rw [HPQ.out]
      go_end0
      exact ⟨rfl, R2.out⟩
end Go.Proofs.YtkpnflgnhhfjoaaDoor

/- The law CrcLinear, walked out of its callees' contracts. -/
import Derived.Test.YtkhchfjijglfjaaDoorTells
import Derived.Test.YtkhchfjijglfjaaDoorXor
import Derived.BigQuiet
import Derived.Deep.QuietTactic
import Derived.Deep.RegionWith
import Derived.Deep.CutRange
namespace Go.Proofs.YtkhchfjijglfjaaDoor
open Go.RowKit

/-- make([]byte, n) -/
theorem run_make_bytes (n : Nat) (hmax : n ≤ 140737488351232) (u : World) : (Instr.makeSlice 22 (.int .i64 (n : Int)) (.int .i64 (n : Int))).run Tryd.prog u =
    .ok (.slice (some ⟨u.heap.size, 0, none⟩) n n) (u.alloc (.cells (madeCells #[.int .u8 0] n) 5)) := by
  obtain ⟨i0, hi, hz0, hz1, hz2⟩ := info_parts info5
  have h := run_make (P := Tryd.prog) u 22 5 i0 (.int .u8 0) Tryd.underlying22 hi hz0 .i64 .i64 (n : Int) (n : Int) (by omega) (Int.le_refl _) (by rw [hz2]; omega) (by omega)
  rw [Int.toNat_natCast, hz1, Nat.mul_one] at h
  exact h
theorem own_made (u : World) (n : Nat) : Own (u.alloc (.cells (madeCells #[.int .u8 0] n) 5)) u.heap.size n (List.replicate n 0) := by
  refine ⟨madeCells #[.int .u8 0] n, ?_, size_madeCells _ _, ?_⟩
  · show (u.heap.push _)[u.heap.size]? = _
    simp
  · apply List.ext_getElem
    · simp [cellsOf, madeCells]
    · intro i h1 h2
      simp [cellsOf, madeCells, Nat.mod_one]

/-- three bytes, as the walk writes them -/
theorem byte_three (a b c : Nat) (ha : a < 256) (hb : b < 256) (hc : c < 256) : bits .xor .u8 (bits .xor .u8 (a : Int) (b : Int)) (c : Int) = ((a ^^^ b ^^^ c : Nat) : Int) := by
  rw [u8_xor_nat a b ha hb, u8_xor_nat _ c (Nat.xor_lt_two_pow (n := 8) ha hb) hc]

theorem BytesIn.take {w : World} {b off : Nat} {cs : List Nat} (h : BytesIn w b off cs) (n : Nat) : BytesIn w b off (cs.take n) := by
  refine ⟨fun j hj => ?_, fun j => ?_⟩
  · have hj' : j < cs.length ∧ j < n := by simp at hj; omega
    have := h.1 j hj'.1
    rw [this]
    simp [hj'.1, hj'.2]
  · by_cases hj : j < n
    · have := h.2 j
      rwa [List.getD_eq_getElem?_getD, List.getElem?_take_of_lt hj, ← List.getD_eq_getElem?_getD]
    · rw [List.getD_eq_getElem?_getD, List.getElem?_take_eq_none (by omega)]
      decide
theorem SliceIn.cut {w : World} {b off : Nat} {cs : List Nat} (h : BytesIn w b off cs) (n cap : Nat) (hn : n ≤ cs.length) (hl : cs.length ≤ 9223372036854775807) : SliceIn w (.slice (some ⟨b, off, none⟩) n cap) (cs.take n) := by
  have e : (cs.take n).length = n := by simp; omega
  exact ⟨_, cap, by rw [e], by omega, Or.inr ⟨b, off, rfl, h.take n⟩⟩
/-- Sum, in a world behind some draws -/
theorem sum_quiet (v : Value) (cs : List Nat) (w : World) (h : SliceIn w v cs) (ht : TabIn w) (nq : Nat) :
    Calls Tryd.prog 9 #[v] (w.drewN nq) fun e w' => e = .returned (.int .u32 (Crc.U (Crc.more 0#32 cs))) ∧ w' = w.drewN nq :=
  (sum_any v cs (w.drewN nq) (h.later (below_drewN (Below.refl _ _) nq)) (ht.later (below_drewN (Below.refl _ _) nq))).mono fun _ _ h => ⟨h.1, h.2.symm⟩

set_option maxHeartbeats 1000000 in
theorem linear_some (a b c oa ob oc ca cb cc n : Nat) (xs ys zs : List Nat) (w : World) (ht : TabIn w) (hx : BytesIn w a oa xs) (hy : BytesIn w b ob ys) (hz : BytesIn w c oc zs)
    (lx : xs.length ≤ ca) (ly : ys.length ≤ cb) (lz : zs.length ≤ cc) (mx : xs.length ≤ 140737488351232) (my : ys.length ≤ 140737488351232) (mz : zs.length ≤ 140737488351232)
    (nx : n ≤ xs.length) (ny : n ≤ ys.length) (nz : n ≤ zs.length) (hn : n = xs.length ∨ n = ys.length ∨ n = zs.length) :
    Calls Tryd.prog 6 #[.slice (some ⟨a, oa, none⟩) xs.length ca, .slice (some ⟨b, ob, none⟩) ys.length cb, .slice (some ⟨c, oc, none⟩) zs.length cc] w fun e w' => e = .returned (.bool true) ∧ Below w.heap.size w w' := by
  have hmk := run_make_bytes n (by omega)
  go_enter Tryd.func6, Tryd.ntmps6
  go_wp2_with fail
  refine (shown_any _ ht).mono ?_
  rintro e w1 ⟨rfl, h1⟩
  go_upto_region 2 with fail
  go_cut [8] from 11 to 62 (fun s w => s = .int .i64 n ∧ w = w1)
  case first =>
    clear hmk
    go_wp2
    all_goals go_meet
    all_goals (refine ⟨?_, rfl⟩; first | rfl | go_num | (split <;> go_num) | (congr 1; omega) | (congr 1; split <;> omega))
  case rest =>
    obtain ⟨rfl, hw⟩ := hcut
    subst hw
    have hown : Own (wc.alloc (.cells (madeCells #[.int .u8 0] n) 5)) wc.heap.size n (Crc.xorTo xs ys zs n 0) := by rw [Crc.xorTo_zero]; exact own_made wc n
    have h2 : Below w.heap.size w (wc.alloc (.cells (madeCells #[.int .u8 0] n) 5)) := h1.alloc h1.size _
    have hg := h1.size
    clear hn
    go_wp2_with fail
    generalize hw2 : wc.alloc (.cells (madeCells #[.int .u8 0] n) 5) = w2 at *
    generalize hg2 : wc.heap.size = g at *
    clear hw2 hg2 h1 hmk
    go_loopw [10] (fun i wr => ∃ k : Nat, k ≤ n ∧ i = .int .i64 k ∧ Own wr g n (Crc.xorTo xs ys zs n k) ∧ Below w.heap.size w wr) (fun i _ => n - (intOf i).toNat)
    case atStart => exact ⟨0, by omega, rfl, hown, h2⟩
    case round =>
      clear hown h2
      obtain ⟨k, hk, rfl, hown, hb⟩ := hrel
      by_cases hlt : k < n
      · have HO : Hid (Own wr g n (Crc.xorTo xs ys zs n k)) := hown
        have HB : Hid (Below w.heap.size w wr) := hb
        have c0 := hown.cell (j := k) (by rw [Crc.xorTo_length]; exact hlt)
        have f0 := hown.frozen (j := k)
        have c1 := (hx.later hb).1 k (by omega)
        have c2 := (hy.later hb).1 k (by omega)
        have c3 := (hz.later hb).1 k (by omega)
        have HV : Hid (bits .xor .u8 (bits .xor .u8 (xs.getD k 0 : Nat) (ys.getD k 0 : Nat)) (zs.getD k 0 : Nat) = ((xs.getD k 0 ^^^ ys.getD k 0 ^^^ zs.getD k 0 : Nat) : Int)) := byte_three _ _ _ (hx.2 k) (hy.2 k) (hz.2 k)
        have HS : Hid ((Crc.xorTo xs ys zs n k).set k (xs.getD k 0 ^^^ ys.getD k 0 ^^^ zs.getD k 0) = Crc.xorTo xs ys zs n (k + 1)) := Crc.xorTo_succ xs ys zs n k
        generalize xs.getD k 0 = va at *
        generalize ys.getD k 0 = vb at *
        generalize zs.getD k 0 = vc at *
        clear hown hb hx hy hz ht
        go_wp2
        go_region
        go_wp2
        go_roundw
        case rel => 
          refine ⟨k + 1, by omega, by go_num, ?_, (HB.out.setCell (by simpa using hg) _).drew⟩
          rw [HV.out, ← HS.out]
          exact HO.out.set k _
        case measure => simp [intOf]; omega
      · have ek : k = n := by omega
        subst ek
        have e0 : (Crc.xorTo xs ys zs k k).length = k := Crc.xorTo_length xs ys zs k k
        have s0 : SliceIn wr (.slice (some ⟨g, 0, none⟩) k k) (Crc.xorTo xs ys zs k k) :=
          ⟨_, k, by rw [e0], by omega, Or.inr ⟨g, 0, rfl, fun j hj => by rw [Nat.zero_add]; exact hown.cell hj, Crc.xorTo_lt xs ys zs hx.2 hy.2 hz.2 k k⟩⟩
        have ht' := ht.later hb
        have Q0 : Hid (∀ nq, Calls Tryd.prog 9 #[.slice (some ⟨g, 0, none⟩) k k] (wr.drewN nq) fun e w' => e = .returned (.int .u32 (Crc.U (Crc.more 0#32 (Crc.xorTo xs ys zs k k)))) ∧ w' = wr.drewN nq) := sum_quiet _ _ wr s0 ht'
        have Q1 : Hid (∀ nq, Calls Tryd.prog 9 #[.slice (some ⟨a, oa, none⟩) k ca] (wr.drewN nq) fun e w' => e = .returned (.int .u32 (Crc.U (Crc.more 0#32 (xs.take k)))) ∧ w' = wr.drewN nq) := sum_quiet _ _ wr (SliceIn.cut (hx.later hb) k ca nx (by omega)) ht'
        have Q2 : Hid (∀ nq, Calls Tryd.prog 9 #[.slice (some ⟨b, ob, none⟩) k cb] (wr.drewN nq) fun e w' => e = .returned (.int .u32 (Crc.U (Crc.more 0#32 (ys.take k)))) ∧ w' = wr.drewN nq) := sum_quiet _ _ wr (SliceIn.cut (hy.later hb) k cb ny (by omega)) ht'
        have Q3 : Hid (∀ nq, Calls Tryd.prog 9 #[.slice (some ⟨c, oc, none⟩) k cc] (wr.drewN nq) fun e w' => e = .returned (.int .u32 (Crc.U (Crc.more 0#32 (zs.take k)))) ∧ w' = wr.drewN nq) := sum_quiet _ _ wr (SliceIn.cut (hz.later hb) k cc nz (by omega)) ht'
        have HM : Hid (Crc.more 0#32 (Crc.xorTo xs ys zs k k) = Crc.more 0#32 (xs.take k) ^^^ Crc.more 0#32 (ys.take k) ^^^ Crc.more 0#32 (zs.take k)) := Crc.more_three k xs ys zs 0#32 nx ny nz
        have HB : Hid (Below w.heap.size w wr) := hb
        have kx : k ≤ ca := by omega
        have ky : k ≤ cb := by omega
        have kz : k ≤ cc := by omega
        clear s0 ht' hown hb hx hy hz ht
        generalize Crc.more 0#32 (Crc.xorTo xs ys zs k k) = r0 at *
        generalize Crc.more 0#32 (xs.take k) = r1 at *
        generalize Crc.more 0#32 (ys.take k) = r2 at *
        generalize Crc.more 0#32 (zs.take k) = r3 at *
        go_wp2
        go_quiet (first | (go_at_call_of 9 (Value.slice (some ⟨g, 0, none⟩) k k); exact Calls.quiet_of_same (Q0.out _)) | (go_at_call_of 9 (Value.slice (some ⟨a, oa, none⟩) k ca); exact Calls.quiet_of_same (Q1.out _)) | (go_at_call_of 9 (Value.slice (some ⟨b, ob, none⟩) k cb); exact Calls.quiet_of_same (Q2.out _)) | (go_at_call_of 9 (Value.slice (some ⟨c, oc, none⟩) k cc); exact Calls.quiet_of_same (Q3.out _)))
        go_wp2
        go_ret
        refine ⟨?_, below_drewN HB.out nq⟩
        show Ending.returned (.bool (Crc.U r0 == bits .xor .u32 (bits .xor .u32 (Crc.U r1) (Crc.U r2)) (Crc.U r3))) = _
        rw [Crc.U_xor, Crc.U_xor, HM.out]
        simp

theorem empty_in (w : World) (p : Option Addr) (cap : Nat) : SliceIn w (.slice p 0 cap) [] := ⟨p, cap, rfl, by decide, Or.inl rfl⟩

set_option maxHeartbeats 1000000 in
theorem linear_zero (pa pb pc : Option Addr) (la lb lc ca cb cc : Nat) (w : World) (ht : TabIn w) (hn : la = 0 ∨ lb = 0 ∨ lc = 0)
    (ma : la ≤ 140737488351232) (mb : lb ≤ 140737488351232) (mc : lc ≤ 140737488351232) :
    Calls Tryd.prog 6 #[.slice pa la ca, .slice pb lb cb, .slice pc lc cc] w fun e w' => e = .returned (.bool true) ∧ Below w.heap.size w w' := by
  have hmk := run_make_bytes 0 (by omega)
  rw [show ((0 : Nat) : Int) = 0 from rfl] at hmk
  go_enter Tryd.func6, Tryd.ntmps6
  go_wp2_with fail
  refine (shown_any _ ht).mono ?_
  rintro e w1 ⟨rfl, h1⟩
  go_upto_region 2 with fail
  go_cut [8] from 11 to 62 (fun s w => s = .int .i64 0 ∧ w = w1)
  case first =>
    clear hmk
    go_wp2
    all_goals go_meet
    all_goals (refine ⟨?_, rfl⟩; first | rfl | go_num | (split <;> go_num) | (congr 1; omega) | (congr 1; split <;> omega))
  case rest =>
    obtain ⟨rfl, hw⟩ := hcut
    subst hw
    have h2 : Below w.heap.size w (wc.alloc (.cells (madeCells #[.int .u8 0] 0) 5)) := h1.alloc h1.size _
    clear hn
    go_wp2_with fail
    generalize hw2 : wc.alloc (.cells (madeCells #[.int .u8 0] 0) 5) = w2 at *
    clear hw2 h1 hmk
    go_loopw [10] (fun i wr => i = .int .i64 0 ∧ wr = w2) (fun _ _ => 0)
    case atStart => exact ⟨rfl, rfl⟩
    case round =>
      obtain ⟨rfl, hw⟩ := hrel
      subst hw
      have ht' := ht.later h2
      have QE : Hid (∀ p cap nq, Calls Tryd.prog 9 #[.slice p 0 cap] (wr.drewN nq) fun e w' => e = .returned (.int .u32 (Crc.U 0#32)) ∧ w' = wr.drewN nq) := fun p cap nq => by
        have h := sum_quiet _ _ wr (empty_in wr p cap) ht' nq
        rw [Crc.more_nil] at h
        exact h
      have HB : Hid (Below w.heap.size w wr) := h2
      clear ht' ht h2
      go_wp2
      go_quiet ((go_at_call 9; exact Calls.quiet_of_same (QE.out _ _ _)))
      go_wp2
      go_ret
      refine ⟨?_, below_drewN HB.out nq⟩
      show Ending.returned (.bool (Crc.U 0#32 == bits .xor .u32 (bits .xor .u32 (Crc.U 0#32) (Crc.U 0#32)) (Crc.U 0#32))) = _
      rw [Crc.U_xor, Crc.U_xor]
      simp
end Go.Proofs.YtkhchfjijglfjaaDoor

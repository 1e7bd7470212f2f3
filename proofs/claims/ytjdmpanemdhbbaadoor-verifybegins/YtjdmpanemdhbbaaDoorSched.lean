/- The walk of sha.scheduleOf: the 64 words of a piece that lies in memory. -/
import Derived.Test.YtjdmpanemdhbbaaDoorMem
import Derived.Test.YtjdmpanemdhbbaaDoorHead
import Derived.Test.YtjdmpanemdhbbaaDoorSmall
import Derived.Deep.Cut
import Derived.Deep.RegionWith
namespace Go.Proofs.YtjdmpanemdhbbaaDoor
open Go.RowKit

/-- words as cells -/
def wcells (ws : List (BitVec 32)) : List Value := ws.map fun a => Value.int .u32 (Sha.U a)
theorem wcells_length (ws : List (BitVec 32)) : (wcells ws).length = ws.length := by simp [wcells]
theorem wcells_append (a b : List (BitVec 32)) : wcells (a ++ b) = wcells a ++ wcells b := by simp [wcells]
theorem wcells_one (ws : List (BitVec 32)) : ∀ v ∈ wcells ws, v.oneCell' = true := by
  intro v hv
  obtain ⟨c, _, rfl⟩ := List.mem_map.1 hv
  rfl
/-- words and noughts behind them -/
def fillW (ws : List (BitVec 32)) (n : Nat) : List Value := wcells ws ++ zerosU32 n
theorem fillW_set (ws : List (BitVec 32)) (n : Nat) (x : BitVec 32) : (fillW ws (n + 1)).set ws.length (.int .u32 (Sha.U x)) = fillW (ws ++ [x]) n := by
  unfold fillW
  rw [List.set_append_right _ _ (by simp [wcells_length]), wcells_append, wcells_length, Nat.sub_self]
  simp [zerosU32, List.replicate_succ, wcells]
theorem fillW_at (ws : List (BitVec 32)) (n i : Nat) (h : i < ws.length) : (fillW ws n)[i]? = some (.int .u32 (Sha.U (ws.getD i 0))) := by
  unfold fillW
  rw [List.getElem?_append_left (by simpa [wcells_length] using h)]
  simp [wcells, h]
theorem fillW_length (ws : List (BitVec 32)) (n : Nat) : (fillW ws n).length = ws.length + n := by simp [fillW, wcells_length, zerosU32]

/-- a row of bytes lies in memory -/
def BytesIn (w : World) (b off : Nat) (cs : List Nat) : Prop := (∀ j : Nat, j < cs.length → w.cell? ⟨b, off + j, none⟩ = some (.int .u8 (cs.getD j 0 : Nat))) ∧ ∀ j : Nat, cs.getD j 0 < 256
theorem BytesIn.later {w wx : World} {b off : Nat} {cs : List Nat} (hb : Below w.heap.size w wx) (h : BytesIn w b off cs) : BytesIn wx b off cs :=
  ⟨fun j hj => cell_later hb (h.1 j hj), h.2⟩

def SchedIn (w wr : World) (p : List Nat) (k : Nat) : Prop := Row wr w.heap.size 79 (zerosU32 64) ∧ Row wr (w.heap.size + 1) 79 (fillW (Sha.sched p k) (64 - k)) ∧ Below w.heap.size w wr

theorem SchedIn.step {w wr : World} {p : List Nat} {k : Nat} (h : SchedIn w wr p k) (hk : k < 64) (n : Nat) (x : BitVec 32) (hx : Sha.sched p (k + 1) = Sha.sched p k ++ [x]) : SchedIn w ((wr.drewN n).setCell ⟨w.heap.size + 1, k, none⟩ (.int .u32 (Sha.U x))) p (k + 1) := by
  obtain ⟨h1, h2, h3⟩ := h
  refine ⟨(h1.drewN n).setCell_other (by omega) _ _, ?_, (Below.drewN h3 n).setCell (by simp) _⟩
  have h4 := (h2.drewN n).setCell k (.int .u32 (Sha.U x))
  rw [show 64 - k = (64 - (k + 1)) + 1 by omega] at h4
  have h5 := fillW_set (Sha.sched p k) (64 - (k + 1)) x
  rw [Sha.sched_length] at h5
  rw [h5, ← hx] at h4
  exact h4

theorem U_shr3 (a : BitVec 32) : Sha.U a / (8 : Int) = Sha.U (a >>> 3) := Sha.U_shr a 3
theorem U_shr10 (a : BitVec 32) : Sha.U a / (1024 : Int) = Sha.U (a >>> 10) := Sha.U_shr a 10

attribute [local go_sem] Sha.U_xor Sha.U_add U_shr3 U_shr10 in
set_option maxHeartbeats 1000000 in
theorem sched_any (g off : Nat) (p : List Nat) (w : World) (hp : p.length = 64) (hb : BytesIn w g off p) :
    Calls Tryd.prog 48 #[.pointer (some ⟨g, off, none⟩)] w fun e w' => e = .returned (.agg (wcells (Sha.sched p 64)).toArray) ∧ Below w.heap.size w w' := by
  go_enter Tryd.func48, Tryd.ntmps48
  go_upto_region 0 with fail
  refine wp_region_lit ?_
  refine wpList_alloc (zerosU32 64) zero45 rfl rfl ?_
  refine wpList_nil ?_
  go_upto_region 1 with fail
  refine wp_region_lit ?_
  refine wpList_alloc (zerosU32 64) zero45 rfl rfl ?_
  refine wpList_nil ?_
  have hs0 : SchedIn w ((w.alloc (.cells (zerosU32 64).toArray 79)).alloc (.cells (zerosU32 64).toArray 79)) p 0 := by
    refine ⟨(Row.new w 79 _).alloc _, ?_, ((Below.refl _ _).alloc (Nat.le_refl _) _).alloc (by simp) _⟩
    have := Row.new (w.alloc (.cells (zerosU32 64).toArray 79)) 79 (zerosU32 64)
    simpa [fillW, Sha.sched, wcells] using this
  go_wp2
  go_loopw [10] (fun i W => ∃ k : Nat, k ≤ 16 ∧ i = .int .i64 k ∧ SchedIn w W p k) (fun i _ => 16 - (intOf i).toNat)
  case atStart => exact ⟨0, Nat.zero_le _, rfl, hs0⟩
  case round =>
    clear hs0
    obtain ⟨k, hk, rfl, hs⟩ := hrel
    by_cases hlt : k < 16
    · have HS : Hid (SchedIn w wr p k) := hs
      have c0 : wr.cell? ⟨g, off + 4 * k, none⟩ = some (.int .u8 (p.getD (4 * k) 0 : Nat)) := (hb.later hs.2.2).1 _ (by omega)
      have c1 : wr.cell? ⟨g, off + (4 * k + 1), none⟩ = some (.int .u8 (p.getD (4 * k + 1) 0 : Nat)) := (hb.later hs.2.2).1 _ (by omega)
      have c2 : wr.cell? ⟨g, off + (4 * k + 2), none⟩ = some (.int .u8 (p.getD (4 * k + 2) 0 : Nat)) := (hb.later hs.2.2).1 _ (by omega)
      have c3 : wr.cell? ⟨g, off + (4 * k + 3), none⟩ = some (.int .u8 (p.getD (4 * k + 3) 0 : Nat)) := (hb.later hs.2.2).1 _ (by omega)
      have f0 := hs.2.1.frozen k
      obtain ⟨z, e0⟩ : ∃ z, wr.cell? ⟨w.heap.size + 1, k, none⟩ = some z := ⟨_, hs.2.1.at k _ (List.getElem?_eq_getElem (by rw [fillW_length, Sha.sched_length]; omega))⟩
      have HB : Hid (Sha.sched p (k + 1) = Sha.sched p k ++ [Sha.word4 (p.getD (4 * k) 0) (p.getD (4 * k + 1) 0) (p.getD (4 * k + 2) 0) (p.getD (4 * k + 3) 0)]) := Sha.sched_low p k hlt
      clear hs
      generalize p.getD (4 * k) 0 = b0 at *
      generalize p.getD (4 * k + 1) 0 = b1 at *
      generalize p.getD (4 * k + 2) 0 = b2 at *
      generalize p.getD (4 * k + 3) 0 = b3 at *
      go_wp2
      refine wp_region_head_drew 39 (by kernel_rfl) (by kernel_rfl) ?_
      simp only [List.take_succ_cons, List.take_zero, List.drop_succ_cons, List.drop_zero]
      repeat (go_big_quiet_step (fail))
      refine wpQuiet_nil ?_
      intro _ hw'
      obtain ⟨nq, hw''⟩ := hw'
      subst hw''
      go_wp2
      refine ⟨⟨k + 1, by omega, by go_num, ?_⟩, by simp [intOf]; omega⟩
      rw [word_U]
      exact HS.out.step (by omega) nq _ (HB.out)
    · have hs16 : SchedIn w wr p 16 := by
        rw [show 16 = k by omega]
        exact hs
      have ek : (k : Int) = 16 := by omega
      rw [ek]
      clear hlt hk hs ek
      go_wp2
      go_loopw [5] (fun i W => ∃ m : Nat, m ≤ 48 ∧ i = .int .i64 (m + 16) ∧ SchedIn w W p (m + 16)) (fun i _ => 64 - (intOf i).toNat)
      case atStart => exact ⟨0, Nat.zero_le _, rfl, hs16⟩
      case round =>
        clear hs16
        obtain ⟨m, hm, rfl, hs⟩ := hrel
        by_cases hlt : m < 48
        · have HS : Hid (SchedIn w wr p (m + 16)) := hs
          have HX := Sha.sched_high p (m + 16) (by omega)
          have c0 : wr.cell? ⟨w.heap.size + 1, m, none⟩ = _ := hs.2.1.at _ _ (fillW_at _ _ m (by rw [Sha.sched_length]; omega))
          have c1 : wr.cell? ⟨w.heap.size + 1, m + 1, none⟩ = _ := hs.2.1.at _ _ (fillW_at _ _ (m + 1) (by rw [Sha.sched_length]; omega))
          have c9 : wr.cell? ⟨w.heap.size + 1, m + 9, none⟩ = _ := hs.2.1.at _ _ (fillW_at _ _ (m + 9) (by rw [Sha.sched_length]; omega))
          have c14 : wr.cell? ⟨w.heap.size + 1, m + 14, none⟩ = _ := hs.2.1.at _ _ (fillW_at _ _ (m + 14) (by rw [Sha.sched_length]; omega))
          have f0 := hs.2.1.frozen (m + 16)
          obtain ⟨z, e0⟩ : ∃ z, wr.cell? ⟨w.heap.size + 1, m + 16, none⟩ = some z := ⟨_, hs.2.1.at _ _ (List.getElem?_eq_getElem (by rw [fillW_length, Sha.sched_length]; omega))⟩
          rw [show m + 16 - 2 = m + 14 by omega, show m + 16 - 7 = m + 9 by omega, show m + 16 - 15 = m + 1 by omega, show m + 16 - 16 = m by omega] at HX
          have HB : Hid (Sha.sched p (m + 16 + 1) = Sha.sched p (m + 16) ++ [Sha.sm1 ((Sha.sched p (m + 16)).getD (m + 14) 0) + (Sha.sched p (m + 16)).getD (m + 9) 0 + Sha.sm0 ((Sha.sched p (m + 16)).getD (m + 1) 0) + (Sha.sched p (m + 16)).getD m 0]) := HX
          clear hs HX
          generalize (Sha.sched p (m + 16)).getD m 0 = b0 at *
          generalize (Sha.sched p (m + 16)).getD (m + 1) 0 = b1 at *
          generalize (Sha.sched p (m + 16)).getD (m + 9) 0 = b9 at *
          generalize (Sha.sched p (m + 16)).getD (m + 14) 0 = b14 at *
          go_wp2
          go_quiet (fail)
          go_wp2_with (first | (go_at_call_of 53 (Value.int IntKind.i64 7); refine (srot_7 _ _).mono ?_; rintro e w' ⟨rfl, rfl⟩) | (go_at_call_of 53 (Value.int IntKind.i64 18); refine (srot_18 _ _).mono ?_; rintro e w' ⟨rfl, rfl⟩) | (go_at_call_of 53 (Value.int IntKind.i64 17); refine (srot_17 _ _).mono ?_; rintro e w' ⟨rfl, rfl⟩) | (go_at_call_of 53 (Value.int IntKind.i64 19); refine (srot_19 _ _).mono ?_; rintro e w' ⟨rfl, rfl⟩))
          refine wp_region_head_drew 15 (by kernel_rfl) (by kernel_rfl) ?_
          simp only [List.take_succ_cons, List.take_zero, List.drop_succ_cons, List.drop_zero]
          repeat (go_big_quiet_step (fail))
          refine wpQuiet_nil ?_
          intro _ hw'
          obtain ⟨nq2, hw''⟩ := hw'
          subst hw''
          go_wp2
          refine ⟨⟨m + 1, by omega, by go_num, ?_⟩, by simp [intOf]; omega⟩
          rw [show m + 1 + 16 = m + 16 + 1 by omega]
          exact HS.out.step (by omega) (nq + nq2) _ HB.out
        · have e48 : m = 48 := by omega
          subst e48
          clear hlt hm
          go_upto_region 14 with fail
          refine wp_region_lit ?_
          refine wpList_load agg45 (.tmp 3) rfl rfl _ _ rfl (wcells (Sha.sched p 64)) (by rw [wcells_length, Sha.sched_length]) ?_ ?_
          · intro j v hv
            rw [Nat.zero_add, hs.2.1.cell]
            simpa [fillW, zerosU32] using hv
          refine wpList_store agg45 (.tmp 2) (.tmp 96) rfl rfl w.heap.size 0 79 rfl (wcells (Sha.sched p 64)) _ rfl (by rw [wcells_length, Sha.sched_length]) hs.1 (by rw [wcells_length, Sha.sched_length]; simp [zerosU32]) (wcells_one _) ?_
          refine wpList_nil ?_
          have hr := hs.1.setRow (splice (zerosU32 64) 0 (wcells (Sha.sched p 64)))
          rw [show splice (zerosU32 64) 0 (wcells (Sha.sched p 64)) = wcells (Sha.sched p 64) by simp [splice, zerosU32, wcells_length, Sha.sched_length]] at hr ⊢
          have hbl := below_setRow hs.2.2 (Nat.le_refl _) (wcells (Sha.sched p 64)).toArray
          clear hs
          go_wp2
          exact bodyPost_ret (results_cell agg45 Tryd.results48 _ _ w.heap.size 79 rfl _ (by rw [wcells_length, Sha.sched_length]) hr) rfl ⟨rfl, hbl⟩
end Go.Proofs.YtjdmpanemdhbbaaDoor

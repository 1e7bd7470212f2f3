/- chunk's leaves, Root and Proof. -/
import Derived.Test.YtfnncccioipjcaaDoorCBase
import Derived.Test.YtfnncccioipjcaaDoorInclB
namespace Go.Proofs.YtfnncccioipjcaaDoor
open Go.RowKit

/-- a block of hashes that is known whole -/
def HLine (w : World) (g : Nat) (hs : List (List Nat)) : Prop := AllH hs ∧ Row w g 29 (bcells hs.flatten)
theorem HLine.hin {w : World} {g n : Nat} {hs : List (List Nat)} (h : HLine w g hs) (hn : hs.length = n) (hm : n ≤ 9223372036854775807) : HIn w (whole g n) hs := by
  subst hn
  refine ⟨h.1, some ⟨g, 0, none⟩, hs.length, rfl, ⟨Nat.le_refl _, hm⟩, Or.inr ⟨g, 0, rfl, fun j hj => ?_, flat_lt hs h.1⟩⟩
  rw [Nat.zero_add]
  exact h.2.at j _ (bcells_at hs.flatten j hj)
theorem bcells_take (cs : List Nat) (k : Nat) : bcells (cs.take k) = (bcells cs).take k := by simp [bcells]
theorem bcells_drop (cs : List Nat) (k : Nat) : bcells (cs.drop k) = (bcells cs).drop k := by simp [bcells]
theorem flat_set (hs : List (List Nat)) (ha : AllH hs) (k : Nat) (hk : k < hs.length) (h : List Nat) (hh : IsH h) : splice (bcells hs.flatten) (k * 32) (bcells h) = bcells (hs.set k h).flatten := by
  rw [List.set_eq_take_append_cons_drop, if_pos hk, List.flatten_append, List.flatten_cons, bcells_append, bcells_append, flat_take hs ha, flat_drop hs ha, bcells_take, bcells_drop]
  unfold splice
  rw [bcells_length, hh.1, show (k + 1) * 32 = k * 32 + 32 by omega]
theorem allH_set {hs : List (List Nat)} (ha : AllH hs) (k : Nat) {h : List Nat} (hh : IsH h) : AllH (hs.set k h) := fun x hx => (List.mem_or_eq_of_mem_set hx).elim (ha x) (fun e => e ▸ hh)
section
variable {w : World} {ops : Array Oper} {rest : List Oper} {o : Oper} {a : Act} {Q : Exit → Act → World → Prop}
theorem wl_hslot (x i : Operand) (hgd : Region.wanted o (yielded ops a.tmps) = true) (ho : o.op = .indexAddr 24 x i) (g n k : Nat) (hx : a.eval x = whole g n) (hi : a.eval i = .int .i64 (k : Nat)) (hk : k < n)
    (h : wpList Tryd.prog ops Q rest (a.put o.dst (.pointer (some ⟨g, k * 32, none⟩))) w) : wpList Tryd.prog ops Q (o :: rest) a w := by
  obtain ⟨i27, hi27, hsz⟩ := Option.map_eq_some_iff.1 size27
  have hr : (Instr.indexAt 24 (whole g n) (.int .i64 (k : Nat))).run Tryd.prog w = .ok (.pointer (some ⟨g, k * 32, none⟩)) w := by
    simp [whole, Instr.indexAt, asIntOf, run_underlying Tryd.underlying24, hk, sizeOf, typeInfo, hi27, hsz, add_none]
  refine wl hgd _ w ?_ h
  simp only [execOp, ho, hx, hi, hr, Sem.run_bind, Sem.run_pure, Result.andThen_ok]
theorem wl_hput (x y : Operand) (hgd : Region.wanted o (yielded ops a.tmps) = true) (hdst : o.dst = none) (ho : o.op = .store 29 x y) (g k : Nat) (hs : List (List Nat)) (h' : List Nat) (hx : a.eval x = .pointer (some ⟨g, k * 32, none⟩)) (hy : a.eval y = hv h') (hh : IsH h') (hr : HLine w g hs) (hk : k < hs.length)
    (h : ∀ w', HLine w' g (hs.set k h') → Only g w w' → w'.heap.size = w.heap.size → wpList Tryd.prog ops Q rest a w') : wpList Tryd.prog ops Q (o :: rest) a w := by
  have hl : (bcells h').length = 32 := by rw [bcells_length]; exact hh.1
  have hfl : (bcells hs.flatten).length = hs.length * 32 := by rw [bcells_length, flat_length hs hr.1]
  have hst := run_storeVar agg25 w g (k * 32) 29 (bcells hs.flatten) (bcells h') hl hr.2 (by rw [hl, hfl]; omega) (bcells_one _)
  rw [flat_set hs hr.1 k hk h' hh] at hst
  refine wlSkip hgd hdst _ (by simp [execOp, ho, hx, hy, hv, Instr.storeAt, Instr.sureAddr, hst]) (h _ ⟨allH_set hr.1 k hh, hr.2.setRow _⟩ ((Only.refl g w).setRow _) (by simp [World.setRow]))
end
/-- the hashes of the first k chunks, and room for the others -/
def lvRow (b : List Nat) (n k : Nat) : List (List Nat) := Cut.lvTo b k ++ List.replicate (n - k) noH
theorem lvRow_length (b : List Nat) (n k : Nat) (h : k ≤ n) : (lvRow b n k).length = n := by simp [lvRow, Cut.lvTo_length]; omega
theorem lvRow_next (b : List Nat) (n k : Nat) (h : k < n) : (lvRow b n k).set k (Tree.leaf (Cut.piece b k)) = lvRow b n (k + 1) := by
  unfold lvRow
  rw [List.set_append_right _ _ (by rw [Cut.lvTo_length]; exact Nat.le_refl _), Cut.lvTo_length, Nat.sub_self, Cut.lvTo_succ, show n - k = (n - (k + 1)) + 1 by omega, List.replicate_succ, List.set_cons_zero, List.append_assoc]
  rfl
theorem lvRow_all (b : List Nat) (n : Nat) : lvRow b n n = Cut.lvTo b n := by simp [lvRow]
theorem lvRow_zero (b : List Nat) (n : Nat) : lvRow b n 0 = List.replicate n noH := by simp [lvRow, Cut.lvTo]
def LvTo (w W : World) (B : Nat) (b : List Nat) (n k : Nat) : Prop := HLine W B (lvRow b n k) ∧ Below B w W
theorem leaves_allH (b : List Nat) : AllH (Cut.leaves b) := fun h hh => by
  obtain ⟨i, _, rfl⟩ := List.mem_map.1 hh
  exact leaf_isH _

set_option maxHeartbeats 2000000 in
set_option maxRecDepth 100000 in
theorem cleaves_any (v : Value) (cs : List Nat) (w : World) (h : SliceIn w v cs) (ht : TabIn w) (hst : StartIn w) (hlen : cs.length ≤ 140737488355328) :
    Calls Tryd.prog 41 #[v] w fun e w' => e = .returned (whole w.heap.size (Cut.count cs.length)) ∧ HLine w' w.heap.size (Cut.leaves cs) ∧ Below w.heap.size w w' := by
  obtain ⟨N, hN⟩ : ∃ N, cs.length = N := ⟨_, rfl⟩
  have HN : Hid (cs.length = N) := hN
  obtain ⟨n, hn⟩ : ∃ n, Cut.count cs.length = n := ⟨_, rfl⟩
  have Hn : Hid (Cut.count cs.length = n) := hn
  have HL : Hid (Cut.leaves cs = lvRow cs n n) := by show _ = _; unfold Cut.leaves; rw [hn, lvRow_all]
  have HC : Hid (Calls Tryd.prog 37 #[.int .i64 (N : Nat)] w fun e w' => e = .returned (.int .i64 (n : Nat)) ∧ w = w') := by
    have := count_any (N : Nat) (by omega) (by omega) w
    rw [Int.toNat_natCast, ← hN, hn] at this
    rw [← hN]
    exact this
  have hcm : n * 64 < 140737488355328 + 64 := by rw [← hn]; unfold Cut.count; omega
  obtain ⟨B, hB⟩ : ∃ B, B = w.heap.size := ⟨_, rfl⟩
  have HB : Hid (B = w.heap.size) := hB
  have HLT : Hid (∀ W, Below B w W → SliceIn W v cs ∧ TabIn W ∧ StartIn W) := fun W hb => ⟨h.later (hB ▸ hb), ht.later (hB ▸ hb), hst.later (hB ▸ hb)⟩
  rw [hn]
  clear hN hn hlen
  go_enter Tryd.func41, Tryd.ntmps41
  go_wp2_with (first
    | (refine wl_blenN (.tmp 5) rfl rfl v cs rfl h N HN.out ?_)
    | (go_at_call 37; refine HC.out.mono ?_; rintro e w' ⟨rfl, rfl⟩)
    | (refine wl_make (.tmp 7) (.tmp 7) 24 29 (.agg (zerosU8 32).toArray) 32 32 rfl rfl Tryd.underlying24 info27 n rfl rfl (by omega) (by omega) ?_; rw [← hB]; intro w1 r1 s1 b1; rw [made29] at r1; have R1 : Hid (LvTo w w1 B cs n 0) := ⟨⟨by rw [lvRow_zero]; exact fun x hx => (List.mem_replicate.1 hx).2 ▸ noH_isH, by rw [lvRow_zero]; exact r1⟩, b1⟩; clear r1 s1 b1 hB)
    | (refine wl_lenN (.tmp 9) rfl rfl _ (lvRow cs n 0) rfl (R1.out.1.hin (lvRow_length cs n 0 (Nat.zero_le _)) (by omega)) n (lvRow_length cs n 0 (Nat.zero_le _)) ?_))
  go_loopw [4, 11] (fun _ i W => ∃ k : Nat, k ≤ n ∧ i = .int .i64 (k : Nat) ∧ LvTo w W B cs n k) (fun _ i _ => n - (intOf i).toNat)
  case atStart => exact ⟨0, Nat.zero_le _, rfl, R1.out⟩
  case round =>
    clear R1
    obtain ⟨k, hk, rfl, hlv⟩ := hrel
    have HV : Hid (LvTo w wr B cs n k) := hlv
    clear hlv
    by_cases hlt : k < n
    · have hlt' : (k : Int) < (n : Int) := by omega
      have HP : Hid (k < Cut.count cs.length) := by rw [Hn.out]; exact hlt
      have HX : Hid ((Cut.piece cs k).length < 1152921504606846000) := by have := Cut.piece_le cs k; show _ < _; omega
      have HE := lvRow_next cs n k hlt
      have HE' : Hid ((lvRow cs n k).set k (Tree.leaf (Cut.piece cs k)) = lvRow cs n (k + 1)) := HE
      clear HE
      generalize hc : Cut.piece cs k = c at HX HE'
      have HCE : Hid (Cut.piece cs k = c) := hc
      clear hc
      go_wp2_with (first
        | (go_at_call 39; refine (piece_any' v cs wr (HLT.out wr HV.out.2).1 k HP.out).mono ?_; rintro e w' ⟨⟨v2, rfl, s2⟩, rfl⟩; rw [HCE.out] at s2; have S2 : Hid (SliceIn wr v2 c) := s2; clear s2)
        | (go_at_call 46; refine (leaf_any v2 c wr S2.out (HLT.out wr HV.out.2).2.1 (HLT.out wr HV.out.2).2.2 HX.out).mono ?_; rintro e w3 ⟨rfl, b3⟩; have R3 : Hid (HLine w3 B (lvRow cs n k) ∧ Below B w w3) := ⟨⟨HV.out.1.1, HV.out.1.2.later b3 HV.out.1.2.lt⟩, HV.out.2.trans (b3.mono (by have := HV.out.1.2.lt; omega))⟩; clear b3)
        | (refine wl_hslot (.tmp 14) (.tmp 15) rfl rfl B n k rfl rfl hlt ?_)
        | (refine wl_hput (.tmp 20) (.tmp 19) rfl rfl rfl B k (lvRow cs n k) (Tree.leaf c) rfl rfl (leaf_isH _) R3.out.1 (by rw [lvRow_length cs n k (by omega)]; exact hlt) ?_; intro w4 r4 o4 s4; rw [HE'.out] at r4; have R4 : Hid (LvTo w w4 B cs n (k + 1)) := ⟨r4, R3.out.2.trans (o4.below (Nat.le_refl _) (by have := R3.out.1.2.lt; omega))⟩; clear r4 o4 s4))
      exact ⟨⟨k + 1, by omega, by go_num, R4.out⟩, by simp [intOf]; omega⟩
    · have hlt' : ¬ (k : Int) < (n : Int) := by omega
      have HE : Hid (k = n) := by show _ = _; omega
      go_wp2_with fail
      go_ret
      exact ⟨by rw [HB.out]; rfl, by rw [HL.out, ← HE.out, ← HB.out]; rw [← HE.out] at HV; exact HV.out.1, by rw [← HB.out]; exact HV.out.2⟩

set_option maxHeartbeats 1000000 in
set_option maxRecDepth 100000 in
theorem croot_any (v : Value) (cs : List Nat) (w : World) (h : SliceIn w v cs) (ht : TabIn w) (hst : StartIn w) (hlen : cs.length ≤ 140737488355328) :
    Calls Tryd.prog 23 #[v] w fun e w' => e = .returned (hv (Cut.root cs)) ∧ Below w.heap.size w w' := by
  have HLN : Hid ((Cut.leaves cs).length = Cut.count cs.length) := Cut.leaves_length cs
  have hcm : Cut.count cs.length * 64 < 140737488355328 + 64 := by unfold Cut.count; omega
  have HRH : Hid (IsH (Cut.root cs)) := (leaves_allH cs).root
  have HRE : Hid (Cut.root cs = Tree.root (Cut.leaves cs)) := rfl
  generalize hn : Cut.count cs.length = n at hcm HLN
  have Hn : Hid (Cut.count cs.length = n) := hn
  clear hn
  obtain ⟨g0, hg0⟩ : ∃ g0, g0 = w.heap.size := ⟨_, rfl⟩
  have G0 : Hid (g0 = w.heap.size) := hg0
  generalize Cut.root cs = r at HRH HRE ⊢
  go_enter Tryd.func23, Tryd.ntmps23
  go_upto_region 0 with fail
  refine wp_region_lit ?_
  refine wl_alloc rfl rfl ?_
  rw [← hg0]
  intro w1 r1 s1 b1
  refine wpList_nil ?_
  have R1 : Hid (HIs w1 g0 noH ∧ Below w.heap.size w w1) := ⟨r1, hg0 ▸ b1⟩
  clear r1 s1 b1 hg0
  go_wp2_with (first
    | (go_at_call 41; refine (cleaves_any v cs w1 (h.later R1.out.2) (ht.later R1.out.2) (hst.later R1.out.2) hlen).mono ?_; rintro e w2 ⟨rfl, l2, b2⟩; rw [Hn.out]; have R2 : Hid (HIs w2 g0 noH ∧ Below w.heap.size w w2 ∧ HIn w2 (whole w1.heap.size n) (Cut.leaves cs)) := ⟨R1.out.1.next b2, below_append R1.out.2 b2, l2.hin HLN.out (by omega)⟩; clear l2 b2)
    | (go_at_call 29; refine (root_any n _ (Cut.leaves cs) w2 HLN.out (by omega) R2.out.2.2 (ht.later R2.out.2.1) (hst.later R2.out.2.1)).mono ?_; rintro e w3 ⟨rfl, b3⟩; rw [← HRE.out]; have R3 : Hid (HIs w3 g0 noH ∧ Below w.heap.size w w3) := ⟨R2.out.1.next b3, below_append R2.out.2.1 b3⟩; clear b3)
    | (refine wl_store (.tmp 2) (.tmp 5) rfl rfl rfl g0 rfl noH r HRH.out rfl R3.out.1 ?_; intro w7 r7 o7 s7; have R7 : Hid (HIs w7 g0 r ∧ Below w.heap.size w w7) := ⟨r7, R3.out.2.trans (o7.below (Nat.le_of_eq G0.out.symm) R3.out.2.size)⟩; clear r7 o7 s7))
  exact bodyPost_ret (results_H Tryd.results23 _ _ g0 rfl _ R7.out.1) rfl ⟨rfl, R7.out.2⟩
/-- P7.2, plainly -/
def proofAns (cs : List Nat) (i : Int) : List (List Nat) := inclAns (Cut.leaves cs) i
def proofErr (cs : List Nat) (i : Int) : Int := inclErr (Cut.leaves cs) i
set_option maxHeartbeats 1000000 in
set_option maxRecDepth 100000 in
theorem cproof_any (v : Value) (cs : List Nat) (i : Int) (w : World) (h : SliceIn w v cs) (ht : TabIn w) (hst : StartIn w) (hlen : cs.length ≤ 140737488355328) :
    Calls Tryd.prog 21 #[v, .int .i64 i] w fun e w' => Tells w (proofAns cs i) (proofErr cs i) e w' := by
  have hcm : Cut.count cs.length * 64 < 140737488355328 + 64 := by unfold Cut.count; omega
  obtain ⟨N, hN⟩ : ∃ N, cs.length = N := ⟨_, rfl⟩
  have HN : Hid (cs.length = N) := hN
  have HC : Hid (Calls Tryd.prog 40 #[.int .i64 i, .int .i64 (N : Nat)] w fun e w' => e = .returned (.bool (decide (0 ≤ i ∧ i < (Cut.count N : Nat)))) ∧ w = w') := by
    have := numbers_any i (N : Nat) (by omega) (by omega) w
    rw [Int.toNat_natCast] at this
    exact this
  have HLN : Hid ((Cut.leaves cs).length = Cut.count N) := by rw [← hN]; exact Cut.leaves_length cs
  rw [hN] at hcm hlen
  generalize Cut.count N = n at hcm HC HLN
  by_cases hi : 0 ≤ i ∧ i < (n : Nat)
  · have HI : Hid (0 ≤ i ∧ i < (n : Nat)) := hi
    rw [decide_eq_true hi] at HC
    clear hN hi
    go_enter Tryd.func21, Tryd.ntmps21
    go_wp2_with (first
      | (refine wl_blenN (.tmp 7) rfl rfl v cs rfl h N HN.out ?_)
      | (go_at_call 40; refine HC.out.mono ?_; rintro e w' ⟨rfl, rfl⟩)
      | (go_at_call 41; refine (cleaves_any v cs w h ht hst (by rw [HN.out]; exact hlen)).mono ?_; rintro e w2 ⟨rfl, l2, b2⟩; have R2 : Hid (Below w.heap.size w w2 ∧ HIn w2 (whole w.heap.size (Cut.count cs.length)) (Cut.leaves cs)) := ⟨b2, l2.hin (Cut.leaves_length cs) (by have := HLN.out; rw [Cut.leaves_length] at this; omega)⟩; clear l2 b2)
      | (go_at_call 15; refine (incl_any _ (Cut.leaves cs) i w2 R2.out.2 (ht.later R2.out.1) (hst.later R2.out.1) (by rw [HLN.out]; omega)).mono ?_; rintro e w3 ⟨v3, rfl, o3, b3⟩; have R3 : Hid (HOwn w3 w.heap.size v3 (proofAns cs i) ∧ Below w.heap.size w w3) := ⟨o3.weaken R2.out.1.size, below_append R2.out.1 b3⟩; clear o3 b3))
    go_ret2
    exact ⟨v3, rfl, R3.out⟩
  · have HA : Hid (proofAns cs i = [] ∧ proofErr cs i = 50) := by
      unfold proofAns proofErr inclAns inclErr
      rw [HLN.out, if_neg hi, if_neg hi]
      exact ⟨rfl, rfl⟩
    rw [decide_eq_false hi] at HC
    clear hN hi
    go_enter Tryd.func21, Tryd.ntmps21
    go_wp2_with (first
      | (refine wl_blenN (.tmp 7) rfl rfl v cs rfl h N HN.out ?_)
      | (go_at_call 40; refine HC.out.mono ?_; rintro e w' ⟨rfl, rfl⟩))
    go_ret2
    exact ⟨.slice none 0 0, by rw [HA.out.2]; rfl, by rw [HA.out.1]; exact HOwn.nil _ _, Below.refl _ _⟩
end Go.Proofs.YtfnncccioipjcaaDoor

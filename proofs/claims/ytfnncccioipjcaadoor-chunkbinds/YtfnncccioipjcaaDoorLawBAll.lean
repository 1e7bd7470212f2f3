/- For every two strings of bytes, cut to one length: if they are one, so are their roots; if they are unlike, their roots are, or two unlike chunks with one hash are found, or two chunks at one place have unlike hashes: the law ChunkBinds returns true and changes nothing that was there. Condition: the tables sha.start and sha.constants start as the program's text lays them (the card ties them). -/
import Derived.Test.YtfnncccioipjcaaDoorCShown
import Derived.Test.YtfnncccioipjcaaDoorTxt
import Derived.Test.YtfnncccioipjcaaDoorOpenC
namespace Go.Proofs.YtfnncccioipjcaaDoor
open Go.RowKit

/-- some chunk's hash, of the first k, is another one -/
def unl (xs ys : List Nat) (k : Nat) : Bool := (List.range k).any fun i => !decide (Tree.leaf (Cut.piece xs i) = Tree.leaf (Cut.piece ys i))
theorem unl_succ (xs ys : List Nat) (k : Nat) : unl xs ys (k + 1) = (unl xs ys k || !decide (Tree.leaf (Cut.piece xs k) = Tree.leaf (Cut.piece ys k))) := by
  unfold unl
  rw [List.range_succ, List.any_append]
  simp
theorem unl_end (xs ys : List Nat) (hl : xs.length = ys.length) (hne : xs ≠ ys) (h : ∀ i, i < Cut.count xs.length → Cut.piece xs i ≠ Cut.piece ys i → Tree.leaf (Cut.piece xs i) ≠ Tree.leaf (Cut.piece ys i)) : unl xs ys (Cut.count xs.length) = true := by
  unfold unl
  rw [List.any_eq_true]
  apply Classical.byContradiction
  intro hno
  apply hne
  refine Cut.cut_inj xs ys hl fun i hi => ?_
  apply Classical.byContradiction
  intro hp
  exact hno ⟨i, List.mem_range.2 hi, by simpa using h i hi hp⟩
/-- what the rounds leave: the chunks, and no collision so far -/
def BindTo (w W : World) (B1 B2 : Nat) (xs ys : List Nat) (k : Nat) : Prop :=
  (SpIn W B1 xs ∧ SpIn W B2 ys ∧ Below w.heap.size w W) ∧ ∀ i, i < k → Cut.piece xs i ≠ Cut.piece ys i → Tree.leaf (Cut.piece xs i) ≠ Tree.leaf (Cut.piece ys i)
def PairIn (w W : World) (B1 B2 : Nat) (xs ys : List Nat) : Prop := SpIn W B1 xs ∧ SpIn W B2 ys ∧ Below w.heap.size w W
theorem PairIn.next {w W W' : World} {B1 B2 : Nat} {xs ys : List Nat} (h : PairIn w W B1 B2 xs ys) (hb : Below W.heap.size W W') : PairIn w W' B1 B2 xs ys := ⟨h.1.later hb, h.2.1.later hb, below_append h.2.2 hb⟩
set_option maxHeartbeats 8000000 in
set_option maxRecDepth 100000 in
theorem binds_one (va vb : Value) (cas cbs xs ys : List Nat) (LA LB M : Nat) (w : World) (ha : SliceIn w va cas) (hb : SliceIn w vb cbs) (ht : TabIn w) (hst : StartIn w) (hLA : cas.length = LA) (hLB : cbs.length = LB) (hM : min (LA : Int) (LB : Int) = (M : Int)) (hX : (cas.take M).drop 0 = xs) (hY : (cbs.take M).drop 0 = ys) (hXL : xs.length ≤ 140737488355328 ∧ ys.length ≤ 140737488355328) (HXY : Hid (decide (xs = ys) = true)) (HRR : Hid (Cut.root xs = Cut.root ys)) :
    Calls Tryd.prog 7 #[va, vb] w fun e w' => e = .returned (.bool true) ∧ Below w.heap.size w w' := by
  have HAL : Hid (cas.length = LA) := hLA
  have HBL : Hid (cbs.length = LB) := hLB
  have HM : Hid (min (LA : Int) (LB : Int) = (M : Int)) := hM
  have HML : Hid (M ≤ cas.length ∧ M ≤ cbs.length) := ⟨by omega, by omega⟩
  have HXE : Hid ((cas.take M).drop 0 = xs) := hX
  have HYE : Hid ((cbs.take M).drop 0 = ys) := hY
  have HXL : Hid (xs.length ≤ 140737488355328 ∧ ys.length ≤ 140737488355328) := hXL
  have HRX : Hid (IsH (Cut.root xs)) := (leaves_allH xs).root
  have HRY : Hid (IsH (Cut.root ys)) := (leaves_allH ys).root
  generalize hrx : Cut.root xs = rx at HRX HRR
  generalize hry : Cut.root ys = ry at HRY HRR
  have HRXE : Hid (Cut.root xs = rx) := hrx
  have HRYE : Hid (Cut.root ys = ry) := hry
  clear hrx hry hLA hLB hM hX hY hXL
  go_enter Tryd.func7, Tryd.ntmps7
  go_wp2_with ((first
    | (go_at_call 18; refine (cshown_any w ht hst).mono ?_; rintro e w1 ⟨rfl, b1⟩; have R1 : Hid (Below w.heap.size w w1) := b1; clear b1)
    | (refine wl_blenN (.tmp 16) rfl rfl va cas rfl ha LA HAL.out ?_)
    | (refine wl_blenN (.tmp 18) rfl rfl vb cbs rfl hb LB HBL.out ?_)
    | (refine wl_bsub (.tmp 21) none (some (.tmp 22)) none rfl rfl va cas rfl (ha.later R1.out) 0 M ⟨Or.inl ⟨rfl, rfl⟩, Or.inr ⟨_, rfl, HM.out, Or.inl rfl⟩, Nat.zero_le _, HML.out.1⟩ ?_; intro vx sx; rw [HXE.out] at sx; have SX : Hid (SliceIn w1 vx xs) := sx; clear sx)
    | (refine wl_bsub (.tmp 24) none (some (.tmp 25)) none rfl rfl vb cbs rfl (hb.later R1.out) 0 M ⟨Or.inl ⟨rfl, rfl⟩, Or.inr ⟨_, rfl, HM.out, Or.inl rfl⟩, Nat.zero_le _, HML.out.2⟩ ?_; intro vy sy; rw [HYE.out] at sy; have SY : Hid (SliceIn w1 vy ys) := sy; clear sy)
    | (go_at_call_of 23 vx; refine (croot_any vx xs w1 SX.out (ht.later R1.out) (hst.later R1.out) HXL.out.1).mono ?_; rw [HRXE.out]; rintro e w2 ⟨rfl, b2⟩; have R2 : Hid (Below w.heap.size w w2 ∧ SliceIn w2 vx xs ∧ SliceIn w2 vy ys) := ⟨below_append R1.out b2, SX.out.later b2, SY.out.later b2⟩; clear b2)
    | (refine wl_new rfl rfl rfl rfl rfl (.tmp 28) rfl rx HRX.out (fun _ => rfl) (fun _ => rfl) ?_; intro w3 r3 s3 b3; have R3 : Hid (HIs w3 w2.heap.size rx ∧ Below w.heap.size w w3 ∧ SliceIn w3 vx xs ∧ SliceIn w3 vy ys) := ⟨r3, below_append R2.out.1 b3, R2.out.2.1.later b3, R2.out.2.2.later b3⟩; generalize w2.heap.size = g7 at R3 ⊢; clear r3 s3 b3)
    | (go_at_call_of 23 vy; refine (croot_any vy ys w3 R3.out.2.2.2 (ht.later R3.out.2.1) (hst.later R3.out.2.1) HXL.out.2).mono ?_; rw [HRYE.out]; rintro e w4 ⟨rfl, b4⟩; have R4 : Hid (HIs w4 g7 rx ∧ Below w.heap.size w w4 ∧ SliceIn w4 vx xs ∧ SliceIn w4 vy ys) := ⟨R3.out.1.next b4, below_append R3.out.2.1 b4, R3.out.2.2.1.later b4, R3.out.2.2.2.later b4⟩; clear b4)
    | (refine wl_new rfl rfl rfl rfl rfl (.tmp 30) rfl ry HRY.out (fun _ => rfl) (fun _ => rfl) ?_; intro w5 r5 s5 b5; have R5 : Hid (HIs w5 g7 rx ∧ HIs w5 w4.heap.size ry ∧ Below w.heap.size w w5 ∧ SliceIn w5 vx xs ∧ SliceIn w5 vy ys) := ⟨R4.out.1.next b5, r5, below_append R4.out.2.1 b5, R4.out.2.2.1.later b5, R4.out.2.2.2.later b5⟩; generalize w4.heap.size = g8 at R5 ⊢; clear r5 s5 b5)
    | (refine wl rfl _ w5 (rx_string (.tmp 31) rfl vx xs rfl R5.out.2.2.2.1) ?_)
    | (refine wl rfl _ w5 (rx_string (.tmp 33) rfl vy ys rfl R5.out.2.2.2.2) ?_)
    | (refine wl rfl _ w5 (rx_seq (.tmp 32) (.tmp 34) rfl xs ys rfl rfl R5.out.2.2.2.1.mem R5.out.2.2.2.2.mem true HXY.out) ?_)
    | (refine wl_load (.tmp 7) rfl rfl _ rfl rx R5.out.1.at ?_)
    | (refine wl_load (.tmp 8) rfl rfl _ rfl ry R5.out.2.1.at ?_)
    | (refine wl_eq (.tmp 38) (.tmp 39) rfl rfl rx ry HRX.out HRY.out rfl rfl ?_; rw [decide_eq_true HRR.out])); try simp only [Act.put, List.setIfInBounds_toArray, List.set_cons_succ, List.set_cons_zero])
  go_ret
  exact ⟨rfl, R5.out.2.2.1⟩
set_option maxHeartbeats 8000000 in
set_option maxRecDepth 100000 in
theorem binds_other (va vb : Value) (cas cbs xs ys : List Nat) (LA LB M : Nat) (w : World) (ha : SliceIn w va cas) (hb : SliceIn w vb cbs) (ht : TabIn w) (hst : StartIn w) (hLA : cas.length = LA) (hLB : cbs.length = LB) (hM : min (LA : Int) (LB : Int) = (M : Int)) (hX : (cas.take M).drop 0 = xs) (hY : (cbs.take M).drop 0 = ys) (hXL : xs.length ≤ 140737488355328 ∧ ys.length ≤ 140737488355328) (HXY : Hid (decide (xs = ys) = false)) (HRR : Hid (¬ Cut.root xs = Cut.root ys)) :
    Calls Tryd.prog 7 #[va, vb] w fun e w' => e = .returned (.bool true) ∧ Below w.heap.size w w' := by
  have HAL : Hid (cas.length = LA) := hLA
  have HBL : Hid (cbs.length = LB) := hLB
  have HM : Hid (min (LA : Int) (LB : Int) = (M : Int)) := hM
  have HML : Hid (M ≤ cas.length ∧ M ≤ cbs.length) := ⟨by omega, by omega⟩
  have HXE : Hid ((cas.take M).drop 0 = xs) := hX
  have HYE : Hid ((cbs.take M).drop 0 = ys) := hY
  have HXL : Hid (xs.length ≤ 140737488355328 ∧ ys.length ≤ 140737488355328) := hXL
  have HRX : Hid (IsH (Cut.root xs)) := (leaves_allH xs).root
  have HRY : Hid (IsH (Cut.root ys)) := (leaves_allH ys).root
  generalize hrx : Cut.root xs = rx at HRX HRR
  generalize hry : Cut.root ys = ry at HRY HRR
  have HRXE : Hid (Cut.root xs = rx) := hrx
  have HRYE : Hid (Cut.root ys = ry) := hry
  clear hrx hry hLA hLB hM hX hY hXL
  go_enter Tryd.func7, Tryd.ntmps7
  go_wp2_with ((first
    | (go_at_call 18; refine (cshown_any w ht hst).mono ?_; rintro e w1 ⟨rfl, b1⟩; have R1 : Hid (Below w.heap.size w w1) := b1; clear b1)
    | (refine wl_blenN (.tmp 16) rfl rfl va cas rfl ha LA HAL.out ?_)
    | (refine wl_blenN (.tmp 18) rfl rfl vb cbs rfl hb LB HBL.out ?_)
    | (refine wl_bsub (.tmp 21) none (some (.tmp 22)) none rfl rfl va cas rfl (ha.later R1.out) 0 M ⟨Or.inl ⟨rfl, rfl⟩, Or.inr ⟨_, rfl, HM.out, Or.inl rfl⟩, Nat.zero_le _, HML.out.1⟩ ?_; intro vx sx; rw [HXE.out] at sx; have SX : Hid (SliceIn w1 vx xs) := sx; clear sx)
    | (refine wl_bsub (.tmp 24) none (some (.tmp 25)) none rfl rfl vb cbs rfl (hb.later R1.out) 0 M ⟨Or.inl ⟨rfl, rfl⟩, Or.inr ⟨_, rfl, HM.out, Or.inl rfl⟩, Nat.zero_le _, HML.out.2⟩ ?_; intro vy sy; rw [HYE.out] at sy; have SY : Hid (SliceIn w1 vy ys) := sy; clear sy)
    | (go_at_call_of 23 vx; refine (croot_any vx xs w1 SX.out (ht.later R1.out) (hst.later R1.out) HXL.out.1).mono ?_; rw [HRXE.out]; rintro e w2 ⟨rfl, b2⟩; have R2 : Hid (Below w.heap.size w w2 ∧ SliceIn w2 vx xs ∧ SliceIn w2 vy ys) := ⟨below_append R1.out b2, SX.out.later b2, SY.out.later b2⟩; clear b2)
    | (refine wl_new rfl rfl rfl rfl rfl (.tmp 28) rfl rx HRX.out (fun _ => rfl) (fun _ => rfl) ?_; intro w3 r3 s3 b3; have R3 : Hid (HIs w3 w2.heap.size rx ∧ Below w.heap.size w w3 ∧ SliceIn w3 vx xs ∧ SliceIn w3 vy ys) := ⟨r3, below_append R2.out.1 b3, R2.out.2.1.later b3, R2.out.2.2.later b3⟩; generalize w2.heap.size = g7 at R3 ⊢; clear r3 s3 b3)
    | (go_at_call_of 23 vy; refine (croot_any vy ys w3 R3.out.2.2.2 (ht.later R3.out.2.1) (hst.later R3.out.2.1) HXL.out.2).mono ?_; rw [HRYE.out]; rintro e w4 ⟨rfl, b4⟩; have R4 : Hid (HIs w4 g7 rx ∧ Below w.heap.size w w4 ∧ SliceIn w4 vx xs ∧ SliceIn w4 vy ys) := ⟨R3.out.1.next b4, below_append R3.out.2.1 b4, R3.out.2.2.1.later b4, R3.out.2.2.2.later b4⟩; clear b4)
    | (refine wl_new rfl rfl rfl rfl rfl (.tmp 30) rfl ry HRY.out (fun _ => rfl) (fun _ => rfl) ?_; intro w5 r5 s5 b5; have R5 : Hid (HIs w5 g7 rx ∧ HIs w5 w4.heap.size ry ∧ Below w.heap.size w w5 ∧ SliceIn w5 vx xs ∧ SliceIn w5 vy ys) := ⟨R4.out.1.next b5, r5, below_append R4.out.2.1 b5, R4.out.2.2.1.later b5, R4.out.2.2.2.later b5⟩; generalize w4.heap.size = g8 at R5 ⊢; clear r5 s5 b5)
    | (refine wl rfl _ w5 (rx_string (.tmp 31) rfl vx xs rfl R5.out.2.2.2.1) ?_)
    | (refine wl rfl _ w5 (rx_string (.tmp 33) rfl vy ys rfl R5.out.2.2.2.2) ?_)
    | (refine wl rfl _ w5 (rx_seq (.tmp 32) (.tmp 34) rfl xs ys rfl rfl R5.out.2.2.2.1.mem R5.out.2.2.2.2.mem false HXY.out) ?_)
    | (refine wl_load (.tmp 7) rfl rfl _ rfl rx R5.out.1.at ?_)
    | (refine wl_load (.tmp 8) rfl rfl _ rfl ry R5.out.2.1.at ?_)
    | (refine wl_ne (.tmp 42) (.tmp 43) rfl rfl rx ry HRX.out HRY.out rfl rfl ?_; rw [decide_eq_false HRR.out])); try simp only [Act.put, List.setIfInBounds_toArray, List.set_cons_succ, List.set_cons_zero])
  go_ret
  exact ⟨rfl, R5.out.2.2.1⟩
set_option maxHeartbeats 8000000 in
set_option maxRecDepth 100000 in
theorem binds_found (va vb : Value) (cas cbs xs ys : List Nat) (LA LB M : Nat) (w : World) (ha : SliceIn w va cas) (hb : SliceIn w vb cbs) (ht : TabIn w) (hst : StartIn w) (hLA : cas.length = LA) (hLB : cbs.length = LB) (hM : min (LA : Int) (LB : Int) = (M : Int)) (hX : (cas.take M).drop 0 = xs) (hY : (cbs.take M).drop 0 = ys) (hXL : xs.length ≤ 140737488355328 ∧ ys.length ≤ 140737488355328) (n : Nat) (HXY : Hid (decide (xs = ys) = false)) (HRR : Hid (Cut.root xs = Cut.root ys)) (Hn : Hid (Cut.count xs.length = n ∧ Cut.count ys.length = n ∧ xs.length = ys.length)) (hcm : n ≤ 9223372036854775807) :
    Calls Tryd.prog 7 #[va, vb] w fun e w' => e = .returned (.bool true) ∧ Below w.heap.size w w' := by
  have HAL : Hid (cas.length = LA) := hLA
  have HBL : Hid (cbs.length = LB) := hLB
  have HM : Hid (min (LA : Int) (LB : Int) = (M : Int)) := hM
  have HML : Hid (M ≤ cas.length ∧ M ≤ cbs.length) := ⟨by omega, by omega⟩
  have HXE : Hid ((cas.take M).drop 0 = xs) := hX
  have HYE : Hid ((cbs.take M).drop 0 = ys) := hY
  have HXL : Hid (xs.length ≤ 140737488355328 ∧ ys.length ≤ 140737488355328) := hXL
  have HRX : Hid (IsH (Cut.root xs)) := (leaves_allH xs).root
  have HRY : Hid (IsH (Cut.root ys)) := (leaves_allH ys).root
  generalize hrx : Cut.root xs = rx at HRX HRR
  generalize hry : Cut.root ys = ry at HRY HRR
  have HRXE : Hid (Cut.root xs = rx) := hrx
  have HRYE : Hid (Cut.root ys = ry) := hry
  clear hrx hry hLA hLB hM hX hY hXL
  go_enter Tryd.func7, Tryd.ntmps7
  go_wp2_with ((first
    | (go_at_call 18; refine (cshown_any w ht hst).mono ?_; rintro e w1 ⟨rfl, b1⟩; have R1 : Hid (Below w.heap.size w w1) := b1; clear b1)
    | (refine wl_blenN (.tmp 16) rfl rfl va cas rfl ha LA HAL.out ?_)
    | (refine wl_blenN (.tmp 18) rfl rfl vb cbs rfl hb LB HBL.out ?_)
    | (refine wl_bsub (.tmp 21) none (some (.tmp 22)) none rfl rfl va cas rfl (ha.later R1.out) 0 M ⟨Or.inl ⟨rfl, rfl⟩, Or.inr ⟨_, rfl, HM.out, Or.inl rfl⟩, Nat.zero_le _, HML.out.1⟩ ?_; intro vx sx; rw [HXE.out] at sx; have SX : Hid (SliceIn w1 vx xs) := sx; clear sx)
    | (refine wl_bsub (.tmp 24) none (some (.tmp 25)) none rfl rfl vb cbs rfl (hb.later R1.out) 0 M ⟨Or.inl ⟨rfl, rfl⟩, Or.inr ⟨_, rfl, HM.out, Or.inl rfl⟩, Nat.zero_le _, HML.out.2⟩ ?_; intro vy sy; rw [HYE.out] at sy; have SY : Hid (SliceIn w1 vy ys) := sy; clear sy)
    | (go_at_call_of 23 vx; refine (croot_any vx xs w1 SX.out (ht.later R1.out) (hst.later R1.out) HXL.out.1).mono ?_; rw [HRXE.out]; rintro e w2 ⟨rfl, b2⟩; have R2 : Hid (Below w.heap.size w w2 ∧ SliceIn w2 vx xs ∧ SliceIn w2 vy ys) := ⟨below_append R1.out b2, SX.out.later b2, SY.out.later b2⟩; clear b2)
    | (refine wl_new rfl rfl rfl rfl rfl (.tmp 28) rfl rx HRX.out (fun _ => rfl) (fun _ => rfl) ?_; intro w3 r3 s3 b3; have R3 : Hid (HIs w3 w2.heap.size rx ∧ Below w.heap.size w w3 ∧ SliceIn w3 vx xs ∧ SliceIn w3 vy ys) := ⟨r3, below_append R2.out.1 b3, R2.out.2.1.later b3, R2.out.2.2.later b3⟩; generalize w2.heap.size = g7 at R3 ⊢; clear r3 s3 b3)
    | (go_at_call_of 23 vy; refine (croot_any vy ys w3 R3.out.2.2.2 (ht.later R3.out.2.1) (hst.later R3.out.2.1) HXL.out.2).mono ?_; rw [HRYE.out]; rintro e w4 ⟨rfl, b4⟩; have R4 : Hid (HIs w4 g7 rx ∧ Below w.heap.size w w4 ∧ SliceIn w4 vx xs ∧ SliceIn w4 vy ys) := ⟨R3.out.1.next b4, below_append R3.out.2.1 b4, R3.out.2.2.1.later b4, R3.out.2.2.2.later b4⟩; clear b4)
    | (refine wl_new rfl rfl rfl rfl rfl (.tmp 30) rfl ry HRY.out (fun _ => rfl) (fun _ => rfl) ?_; intro w5 r5 s5 b5; have R5 : Hid (HIs w5 g7 rx ∧ HIs w5 w4.heap.size ry ∧ Below w.heap.size w w5 ∧ SliceIn w5 vx xs ∧ SliceIn w5 vy ys) := ⟨R4.out.1.next b5, r5, below_append R4.out.2.1 b5, R4.out.2.2.1.later b5, R4.out.2.2.2.later b5⟩; generalize w4.heap.size = g8 at R5 ⊢; clear r5 s5 b5)
    | (refine wl rfl _ w5 (rx_string (.tmp 31) rfl vx xs rfl R5.out.2.2.2.1) ?_)
    | (refine wl rfl _ w5 (rx_string (.tmp 33) rfl vy ys rfl R5.out.2.2.2.2) ?_)
    | (refine wl rfl _ w5 (rx_seq (.tmp 32) (.tmp 34) rfl xs ys rfl rfl R5.out.2.2.2.1.mem R5.out.2.2.2.2.mem false HXY.out) ?_)
    | (refine wl_load (.tmp 7) rfl rfl _ rfl rx R5.out.1.at ?_)
    | (refine wl_load (.tmp 8) rfl rfl _ rfl ry R5.out.2.1.at ?_)
    | (refine wl_ne (.tmp 42) (.tmp 43) rfl rfl rx ry HRX.out HRY.out rfl rfl ?_; rw [decide_eq_true HRR.out])
    | (go_at_call_of 19 vx; refine (split_at vx xs w5 R5.out.2.2.2.1 HXL.out.1).mono ?_; rw [Hn.out.1]; rintro e w6 ⟨rfl, p6, _, b6⟩; have R6 : Hid (SpIn w6 w5.heap.size xs ∧ Below w.heap.size w w6 ∧ SliceIn w6 vy ys) := ⟨p6, below_append R5.out.2.2.1 b6, R5.out.2.2.2.2.later b6⟩; generalize w5.heap.size = B1 at R6 ⊢; clear p6 b6)
    | (go_at_call_of 19 vy; refine (split_at vy ys w6 R6.out.2.2 HXL.out.2).mono ?_; rw [Hn.out.2.1]; rintro e w7 ⟨rfl, p7, _, b7⟩; have R7 : Hid (PairIn w w7 B1 w6.heap.size xs ys) := ⟨R6.out.1.later b7, p7, below_append R6.out.2.1 b7⟩; generalize w6.heap.size = B2 at R7 ⊢; clear p7 b7)
    | (refine wl_wlen (.tmp 50) rfl rfl B1 n rfl ?_)
    | (refine wl_wlen (.tmp 52) rfl rfl B2 n rfl ?_)); try simp only [Act.put, List.setIfInBounds_toArray, List.set_cons_succ, List.set_cons_zero])
  have HMX : Hid ((∀ c ∈ xs, c < 256) ∧ ∀ c ∈ ys, c < 256) := ⟨R5.out.2.2.2.1.mem, R5.out.2.2.2.2.mem⟩
  clear R1 R2 R3 R4 R5 R6 SX SY
  go_loopw [11, 12] (fun u i W => ∃ k : Nat, k ≤ n ∧ i = .int .i64 (k : Nat) ∧ u = .bool (unl xs ys k) ∧ BindTo w W B1 B2 xs ys k) (fun _ i _ => n - (intOf i).toNat)
  case atStart => exact ⟨0, Nat.zero_le _, rfl, rfl, R7.out, fun i hi => absurd hi (Nat.not_lt_zero _)⟩
  case round =>
    clear R7
    obtain ⟨k, hk, rfl, rfl, hbt⟩ := hrel
    have HV : Hid (BindTo w wr B1 B2 xs ys k) := hbt
    clear hbt
    by_cases hlt : k < n
    · have hlt' : (k : Int) < (n : Int) := by omega
      have HP : Hid (PairIn w wr B1 B2 xs ys) := HV.out.1
      have HKX : Hid (k < Cut.count xs.length ∧ k < Cut.count ys.length) := by rw [Hn.out.1, Hn.out.2.1]; exact ⟨hlt, hlt⟩
      have HBC : Hid ((∀ c ∈ Cut.piece xs k, c < 256) ∧ ∀ c ∈ Cut.piece ys k, c < 256) := ⟨fun c hc => HMX.out.1 c (Cut.piece_mem xs k c hc), fun c hc => HMX.out.2 c (Cut.piece_mem ys k c hc)⟩
      have HPL : Hid ((Cut.piece xs k).length + 1024 ≤ 140737488355328 ∧ (Cut.piece ys k).length + 1024 ≤ 140737488355328) := by have := Cut.piece_le xs k; have := Cut.piece_le ys k; exact ⟨by omega, by omega⟩
      have HCX : Hid (∀ W, PairIn w W B1 B2 xs ys → W.cell? ⟨B1, k, none⟩ = some (whole (B1 + 1 + k) (Cut.piece xs k).length) ∧ SliceIn W (whole (B1 + 1 + k) (Cut.piece xs k).length) (Cut.piece xs k)) := fun W hW => ⟨hW.1.cell k HKX.out.1, hW.1.slice HMX.out.1 k HKX.out.1⟩
      have HCY : Hid (∀ W, PairIn w W B1 B2 xs ys → W.cell? ⟨B2, k, none⟩ = some (whole (B2 + 1 + k) (Cut.piece ys k).length) ∧ SliceIn W (whole (B2 + 1 + k) (Cut.piece ys k).length) (Cut.piece ys k)) := fun W hW => ⟨hW.2.1.cell k HKX.out.2, hW.2.1.slice HMX.out.2 k HKX.out.2⟩
      have HUS : Hid (unl xs ys (k + 1) = (unl xs ys k || !decide (Tree.leaf (Cut.piece xs k) = Tree.leaf (Cut.piece ys k)))) := unl_succ xs ys k
      have HNX : Hid ((Cut.piece xs k ≠ Cut.piece ys k → Tree.leaf (Cut.piece xs k) ≠ Tree.leaf (Cut.piece ys k)) → ∀ i, i < k + 1 → Cut.piece xs i ≠ Cut.piece ys i → Tree.leaf (Cut.piece xs i) ≠ Tree.leaf (Cut.piece ys i)) := fun h i hi => by
        rcases Nat.lt_or_ge i k with h' | h'
        · exact HV.out.2 i h'
        · obtain rfl : i = k := by omega
          exact h
      clear HV
      generalize unl xs ys k = U at HUS ⊢
      generalize Cut.piece xs k = c at HBC HPL HCX HUS HNX
      generalize Cut.piece ys k = d at HBC HPL HCY HUS HNX
      have HLH : Hid (IsH (Tree.leaf c) ∧ IsH (Tree.leaf d)) := ⟨leaf_isH _, leaf_isH _⟩
      generalize hlc : Tree.leaf c = lc at HUS HNX HLH
      generalize hld : Tree.leaf d = ld at HUS HNX HLH
      have HLC : Hid (Tree.leaf c = lc ∧ Tree.leaf d = ld) := ⟨hlc, hld⟩
      have HEQ : Hid (c = d → lc = ld) := fun h => by rw [← hlc, ← hld, h]
      clear hlc hld
      generalize hvc : whole (B1 + 1 + k) c.length = vc at HCX
      generalize hvd : whole (B2 + 1 + k) d.length = vd at HCY
      clear hvc hvd
      go_wp2_with ((first
        | (refine wl_wlen (.tmp 56) rfl rfl B1 n rfl ?_)
        | (refine wl_wslot (.tmp 61) (.tmp 62) rfl rfl B1 n k rfl _ rfl rfl hlt ?_)
        | (refine wl_load1' one39 (.tmp 63) rfl rfl B1 k rfl vc (HCX.out wr HP.out).1 ?_)
        | (go_at_call_of 27 vc; refine (refLeaf_any vc c wr (HCX.out wr HP.out).2 HPL.out.1).mono ?_; rw [HLC.out.1]; rintro e w2 ⟨rfl, b2⟩; have R2 : Hid (PairIn w w2 B1 B2 xs ys) := HP.out.next b2; clear b2)
        | (refine wl_new rfl rfl rfl rfl rfl (.tmp 65) rfl lc HLH.out.1 (fun _ => rfl) (fun _ => rfl) ?_; intro w3 r3 s3 b3; have R3 : Hid (HIs w3 w2.heap.size lc ∧ PairIn w w3 B1 B2 xs ys) := ⟨r3, R2.out.next b3⟩; generalize w2.heap.size = g13 at R3 ⊢; clear r3 s3 b3)
        | (refine wl_wslot (.tmp 66) (.tmp 67) rfl rfl B2 n k rfl _ rfl rfl hlt ?_)
        | (refine wl_load1' one39 (.tmp 68) rfl rfl B2 k rfl vd (HCY.out w3 R3.out.2).1 ?_)
        | (go_at_call_of 27 vd; refine (refLeaf_any vd d w3 (HCY.out w3 R3.out.2).2 HPL.out.2).mono ?_; rw [HLC.out.2]; rintro e w4 ⟨rfl, b4⟩; have R4 : Hid (HIs w4 g13 lc ∧ PairIn w w4 B1 B2 xs ys) := ⟨R3.out.1.next b4, R3.out.2.next b4⟩; clear b4)
        | (refine wl_new rfl rfl rfl rfl rfl (.tmp 70) rfl ld HLH.out.2 (fun _ => rfl) (fun _ => rfl) ?_; intro w5 r5 s5 b5; have R5 : Hid (HIs w5 g13 lc ∧ HIs w5 w4.heap.size ld ∧ PairIn w w5 B1 B2 xs ys) := ⟨R4.out.1.next b5, r5, R4.out.2.next b5⟩; generalize w4.heap.size = g14 at R5 ⊢; clear r5 s5 b5)); try simp only [Act.put, List.setIfInBounds_toArray, List.set_cons_succ, List.set_cons_zero])
      refine wp_region_held (S := fun X => HIs X g13 lc ∧ HIs X g14 ld ∧ PairIn w X B1 B2 xs ys) (by kernel_rfl) ?_
      show wpAnyH _ _ _ _ _ 16 (Array.replicate 16 false) _ _
      have hS : HIs { w5 with drawn := w5.drawn + 1 } g13 lc ∧ HIs { w5 with drawn := w5.drawn + 1 } g14 ld ∧ PairIn w { w5 with drawn := w5.drawn + 1 } B1 B2 xs ys := ⟨R5.out.1.next (below_drawn w5 _), R5.out.2.1.next (below_drawn w5 _), R5.out.2.2.next (below_drawn w5 _)⟩
      refine takeH (i := 0) (some 71) rfl rfl (by kernel_rfl) (by kernel_rfl) (by kernel_rfl) (fun _ _ _ h => h) (yMove rfl (.tmp 9) rfl (whole B1 n) rfl) hS ?_
      simp only [Act.put, List.setIfInBounds_toArray, List.set_cons_succ, List.set_cons_zero]
      refine takeH (i := 1) (some 72) rfl rfl (by kernel_rfl) (by kernel_rfl) (by kernel_rfl) (fun _ _ _ h => h) (yMove rfl (.tmp 12) rfl (.int .i64 (k : Nat)) rfl) hS ?_
      simp only [Act.put, List.setIfInBounds_toArray, List.set_cons_succ, List.set_cons_zero]
      refine takeH (i := 2) (some 73) rfl rfl (by kernel_rfl) (by kernel_rfl) (by kernel_rfl) (fun _ _ _ h => h) (yRunW rfl _ (fun _ _ => rx_wslot (.tmp 71) (.tmp 72) rfl B1 n k rfl _ rfl rfl hlt)) hS ?_
      simp only [Act.put, List.setIfInBounds_toArray, List.set_cons_succ, List.set_cons_zero]
      refine takeH (i := 3) (some 74) rfl rfl (by kernel_rfl) (by kernel_rfl) (by kernel_rfl) (fun _ _ _ h => h) (yRunW rfl _ (fun X hX => rx_load1 one39 (.tmp 73) rfl B1 k rfl vc (HCX.out X hX.2.2).1)) hS ?_
      simp only [Act.put, List.setIfInBounds_toArray, List.set_cons_succ, List.set_cons_zero]
      refine takeH (i := 4) (some 75) rfl rfl (by kernel_rfl) (by kernel_rfl) (by kernel_rfl) (fun _ _ _ h => h) (yRunW rfl _ (fun X hX => rx_string (.tmp 74) rfl vc c rfl (HCX.out X hX.2.2).2)) hS ?_
      simp only [Act.put, List.setIfInBounds_toArray, List.set_cons_succ, List.set_cons_zero]
      refine takeH (i := 5) (some 76) rfl rfl (by kernel_rfl) (by kernel_rfl) (by kernel_rfl) (fun _ _ _ h => h) (yMove rfl (.tmp 10) rfl (whole B2 n) rfl) hS ?_
      simp only [Act.put, List.setIfInBounds_toArray, List.set_cons_succ, List.set_cons_zero]
      refine takeH (i := 6) (some 77) rfl rfl (by kernel_rfl) (by kernel_rfl) (by kernel_rfl) (fun _ _ _ h => h) (yMove rfl (.tmp 12) rfl (.int .i64 (k : Nat)) rfl) hS ?_
      simp only [Act.put, List.setIfInBounds_toArray, List.set_cons_succ, List.set_cons_zero]
      refine takeH (i := 7) (some 78) rfl rfl (by kernel_rfl) (by kernel_rfl) (by kernel_rfl) (fun _ _ _ h => h) (yRunW rfl _ (fun _ _ => rx_wslot (.tmp 76) (.tmp 77) rfl B2 n k rfl _ rfl rfl hlt)) hS ?_
      simp only [Act.put, List.setIfInBounds_toArray, List.set_cons_succ, List.set_cons_zero]
      refine takeH (i := 8) (some 79) rfl rfl (by kernel_rfl) (by kernel_rfl) (by kernel_rfl) (fun _ _ _ h => h) (yRunW rfl _ (fun X hX => rx_load1 one39 (.tmp 78) rfl B2 k rfl vd (HCY.out X hX.2.2).1)) hS ?_
      simp only [Act.put, List.setIfInBounds_toArray, List.set_cons_succ, List.set_cons_zero]
      refine takeH (i := 9) (some 80) rfl rfl (by kernel_rfl) (by kernel_rfl) (by kernel_rfl) (fun _ _ _ h => h) (yRunW rfl _ (fun X hX => rx_string (.tmp 79) rfl vd d rfl (HCY.out X hX.2.2).2)) hS ?_
      simp only [Act.put, List.setIfInBounds_toArray, List.set_cons_succ, List.set_cons_zero]
      by_cases hcd : c = d
      · have HCD : Hid (decide (c = d) = true) := decide_eq_true hcd
        have HLD : Hid (lc = ld) := HEQ.out hcd
        clear hcd
        refine takeH (i := 10) (some 81) rfl rfl (by kernel_rfl) (by kernel_rfl) (by kernel_rfl) (fun _ _ _ h => h) (yRunW rfl _ (fun _ _ => rx_sne (.tmp 75) (.tmp 80) rfl c d rfl rfl HBC.out.1 HBC.out.2 true HCD.out)) hS ?_
        simp only [Act.put, List.setIfInBounds_toArray, List.set_cons_succ, List.set_cons_zero]
        refine takeH (i := 11) (some 82) rfl rfl (by kernel_rfl) (by kernel_rfl) (by kernel_rfl) (fun _ _ _ h => h) (yMove rfl (.tmp 81) rfl (.bool (!true)) rfl) hS ?_
        simp only [Act.put, List.setIfInBounds_toArray, List.set_cons_succ, List.set_cons_zero]
        refine takeH (i := 12) (some 83) rfl rfl (by kernel_rfl) (by kernel_rfl) (by kernel_rfl) (fun _ _ _ h => h) (yOff rfl) hS ?_
        simp only [Act.put, List.setIfInBounds_toArray, List.set_cons_succ, List.set_cons_zero]
        refine takeH (i := 13) (some 84) rfl rfl (by kernel_rfl) (by kernel_rfl) (by kernel_rfl) (fun _ _ _ h => h) (yOff rfl) hS ?_
        simp only [Act.put, List.setIfInBounds_toArray, List.set_cons_succ, List.set_cons_zero]
        refine takeH (i := 14) (some 85) rfl rfl (by kernel_rfl) (by kernel_rfl) (by kernel_rfl) (fun _ _ _ h => h) (yOff rfl) hS ?_
        simp only [Act.put, List.setIfInBounds_toArray, List.set_cons_succ, List.set_cons_zero]
        refine takeH (i := 15) (some 86) rfl rfl (by kernel_rfl) (by kernel_rfl) (by kernel_rfl) (fun _ _ _ h => h) (yPickF rfl (.tmp 82) (.tmp 85) (.const (.bool false)) rfl rfl (.bool false) rfl) hS ?_
        simp only [Act.put, List.setIfInBounds_toArray, List.set_cons_succ, List.set_cons_zero]
        refine wpAnyH_done (by kernel_rfl) ?_ _
        have hS' := hS
        clear hS
        generalize ({ w5 with drawn := w5.drawn + 1 } : World) = w6 at hS' ⊢
        have R6 : Hid (HIs w6 g13 lc ∧ HIs w6 g14 ld ∧ PairIn w w6 B1 B2 xs ys) := hS'
        clear hS'
        cases U with
        | true =>
          go_wp2_with fail
          exact ⟨⟨k + 1, by omega, by go_num, by rw [HUS.out]; rfl, R6.out.2.2, HNX.out (fun h => absurd (of_decide_eq_true HCD.out) h)⟩, by simp [intOf]; omega⟩
        | false =>
          go_wp2_with ((first
            | (refine wl_load (.tmp 13) rfl rfl _ rfl lc R6.out.1.at ?_)
            | (refine wl_load (.tmp 14) rfl rfl _ rfl ld R6.out.2.1.at ?_)
            | (refine wl_ne (.tmp 90) (.tmp 91) rfl rfl lc ld HLH.out.1 HLH.out.2 rfl rfl ?_; rw [decide_eq_true HLD.out])); try simp only [Act.put, List.setIfInBounds_toArray, List.set_cons_succ, List.set_cons_zero])
          exact ⟨⟨k + 1, by omega, by go_num, by rw [HUS.out, decide_eq_true HLD.out]; rfl, R6.out.2.2, HNX.out (fun h => absurd (of_decide_eq_true HCD.out) h)⟩, by simp [intOf]; omega⟩
      · have HCD : Hid (decide (c = d) = false) := decide_eq_false hcd
        clear hcd
        refine takeH (i := 10) (some 81) rfl rfl (by kernel_rfl) (by kernel_rfl) (by kernel_rfl) (fun _ _ _ h => h) (yRunW rfl _ (fun _ _ => rx_sne (.tmp 75) (.tmp 80) rfl c d rfl rfl HBC.out.1 HBC.out.2 false HCD.out)) hS ?_
        simp only [Act.put, List.setIfInBounds_toArray, List.set_cons_succ, List.set_cons_zero]
        refine takeH (i := 11) (some 82) rfl rfl (by kernel_rfl) (by kernel_rfl) (by kernel_rfl) (fun _ _ _ h => h) (yMove rfl (.tmp 81) rfl (.bool (!false)) rfl) hS ?_
        simp only [Act.put, List.setIfInBounds_toArray, List.set_cons_succ, List.set_cons_zero]
        refine takeH (i := 12) (some 83) rfl rfl (by kernel_rfl) (by kernel_rfl) (by kernel_rfl) (fun _ _ _ h => h) (yRunW rfl _ (fun X hX => rx_load (.tmp 13) rfl (.pointer (some ⟨g13, 0, none⟩)) rfl lc hX.1.at)) hS ?_
        simp only [Act.put, List.setIfInBounds_toArray, List.set_cons_succ, List.set_cons_zero]
        refine takeH (i := 13) (some 84) rfl rfl (by kernel_rfl) (by kernel_rfl) (by kernel_rfl) (fun _ _ _ h => h) (yRunW rfl _ (fun X hX => rx_load (.tmp 14) rfl (.pointer (some ⟨g14, 0, none⟩)) rfl ld hX.2.1.at)) hS ?_
        simp only [Act.put, List.setIfInBounds_toArray, List.set_cons_succ, List.set_cons_zero]
        by_cases hld : lc = ld
        · have HLD : Hid (lc = ld) := hld
          clear hld
          refine takeH (i := 14) (some 85) rfl rfl (by kernel_rfl) (by kernel_rfl) (by kernel_rfl) (fun _ _ _ h => h) (yRunW rfl _ (fun _ _ => rx_eqB (.tmp 83) (.tmp 84) rfl lc ld HLH.out.1 HLH.out.2 rfl rfl true (decide_eq_true HLD.out))) hS ?_
          simp only [Act.put, List.setIfInBounds_toArray, List.set_cons_succ, List.set_cons_zero]
          refine takeH (i := 15) (some 86) rfl rfl (by kernel_rfl) (by kernel_rfl) (by kernel_rfl) (fun _ _ _ h => h) (yPickW rfl (.tmp 82) (.tmp 85) (.const (.bool false)) rfl rfl (.bool true) rfl) hS ?_
          simp only [Act.put, List.setIfInBounds_toArray, List.set_cons_succ, List.set_cons_zero]
          refine wpAnyH_done (by kernel_rfl) ?_ _
          have hS' := hS
          clear hS
          generalize ({ w5 with drawn := w5.drawn + 1 } : World) = w6 at hS' ⊢
          have R6 : Hid (HIs w6 g13 lc ∧ HIs w6 g14 ld ∧ PairIn w w6 B1 B2 xs ys) := hS'
          clear hS'
          go_wp2_with fail
          go_ret
          exact ⟨rfl, R6.out.2.2.2.2⟩
        · have HLD : Hid (¬ lc = ld) := hld
          clear hld
          refine takeH (i := 14) (some 85) rfl rfl (by kernel_rfl) (by kernel_rfl) (by kernel_rfl) (fun _ _ _ h => h) (yRunW rfl _ (fun _ _ => rx_eqB (.tmp 83) (.tmp 84) rfl lc ld HLH.out.1 HLH.out.2 rfl rfl false (decide_eq_false HLD.out))) hS ?_
          simp only [Act.put, List.setIfInBounds_toArray, List.set_cons_succ, List.set_cons_zero]
          refine takeH (i := 15) (some 86) rfl rfl (by kernel_rfl) (by kernel_rfl) (by kernel_rfl) (fun _ _ _ h => h) (yPickW rfl (.tmp 82) (.tmp 85) (.const (.bool false)) rfl rfl (.bool false) rfl) hS ?_
          simp only [Act.put, List.setIfInBounds_toArray, List.set_cons_succ, List.set_cons_zero]
          refine wpAnyH_done (by kernel_rfl) ?_ _
          have hS' := hS
          clear hS
          generalize ({ w5 with drawn := w5.drawn + 1 } : World) = w6 at hS' ⊢
          have R6 : Hid (HIs w6 g13 lc ∧ HIs w6 g14 ld ∧ PairIn w w6 B1 B2 xs ys) := hS'
          clear hS'
          cases U with
          | true =>
            go_wp2_with fail
            exact ⟨⟨k + 1, by omega, by go_num, by rw [HUS.out]; rfl, R6.out.2.2, HNX.out (fun _ => HLD.out)⟩, by simp [intOf]; omega⟩
          | false =>
            go_wp2_with ((first
              | (refine wl_load (.tmp 13) rfl rfl _ rfl lc R6.out.1.at ?_)
              | (refine wl_load (.tmp 14) rfl rfl _ rfl ld R6.out.2.1.at ?_)
              | (refine wl_ne (.tmp 90) (.tmp 91) rfl rfl lc ld HLH.out.1 HLH.out.2 rfl rfl ?_; rw [decide_eq_false HLD.out])); try simp only [Act.put, List.setIfInBounds_toArray, List.set_cons_succ, List.set_cons_zero])
            exact ⟨⟨k + 1, by omega, by go_num, by rw [HUS.out, decide_eq_false HLD.out]; rfl, R6.out.2.2, HNX.out (fun _ => HLD.out)⟩, by simp [intOf]; omega⟩
    · have hlt' : ¬ (k : Int) < (n : Int) := by omega
      have HE : Hid (k = n) := by show _ = _; omega
      have HU : Hid (unl xs ys k = true) := by
        show _ = _
        have h := unl_end xs ys Hn.out.2.2 (of_decide_eq_false HXY.out) (fun i hi => HV.out.2 i (by rw [HE.out, ← Hn.out.1]; exact hi))
        rw [Hn.out.1, ← HE.out] at h
        exact h
      rw [HU.out]
      go_wp2_with ((first
        | (refine wl_wlen (.tmp 56) rfl rfl B1 n rfl ?_)); try simp only [Act.put, List.setIfInBounds_toArray, List.set_cons_succ, List.set_cons_zero])
      go_ret
      exact ⟨rfl, HV.out.1.2.2⟩
theorem chunkBinds_any (va vb : Value) (cas cbs : List Nat) (w : World) (ha : SliceIn w va cas) (hb : SliceIn w vb cbs) (ht : TabIn w) (hst : StartIn w) (hla : cas.length ≤ 140737488355328) (hlb : cbs.length ≤ 140737488355328) :
    Calls Tryd.prog 7 #[va, vb] w fun e w' => e = .returned (.bool true) ∧ Below w.heap.size w w' := by
  have hM : min (cas.length : Int) (cbs.length : Int) = ((min cas.length cbs.length : Nat) : Int) := by omega
  have hxl : ((cas.take (min cas.length cbs.length)).drop 0).length = min cas.length cbs.length := by simp
  have hyl : ((cbs.take (min cas.length cbs.length)).drop 0).length = min cas.length cbs.length := by simp
  generalize hX : (cas.take (min cas.length cbs.length)).drop 0 = xs at hxl
  generalize hY : (cbs.take (min cas.length cbs.length)).drop 0 = ys at hyl
  have hl : xs.length ≤ 140737488355328 ∧ ys.length ≤ 140737488355328 := ⟨by omega, by omega⟩
  by_cases hxy : xs = ys
  · exact binds_one va vb cas cbs xs ys _ _ _ w ha hb ht hst rfl rfl hM hX hY hl (decide_eq_true hxy) (congrArg Cut.root hxy)
  · by_cases hr : Cut.root xs = Cut.root ys
    · exact binds_found va vb cas cbs xs ys _ _ _ w ha hb ht hst rfl rfl hM hX hY hl (Cut.count xs.length) (decide_eq_false hxy) hr ⟨rfl, by rw [hxl, hyl], by rw [hxl, hyl]⟩ (by have := Cut.count_le xs.length; omega)
    · exact binds_other va vb cas cbs xs ys _ _ _ w ha hb ht hst rfl rfl hM hX hY hl (decide_eq_false hxy) hr
end Go.Proofs.YtfnncccioipjcaaDoor

namespace Go.Proofs.YtfnncccioipjcaaDoor.chunkBinds
open Go.ChangeShapes Go.WideShapes Go.ChangeAt Go.RowKit

set_option maxRecDepth 100000 in
/-- WHAT THE WALK GIVES, FOR EVERY ARGUMENT AND EVERY WORLD THAT HOLDS THE TABLE -/
theorem contract (H : Type) (enc : TypeId × Value → H) (W : World) (base : Nat) (args : Array Value) (ds gs : List (DataW H)) (before : List MemPlace)
    (hval : ∀ (j : Nat) t v, Tryd.f7.params[j]? = some t → args[j]? = some v → Value.okWide Tryd.prog W .any base t v)
    (hW : DataW.Whole enc Tryd.prog Tryd.f7.params.toList Rows.chunkBindsSpec.vars false W args.toList ds gs before)
    (hsz : (DataW.weightsEach Tryd.prog (Tryd.f7.params.toList ++ (Rows.chunkBindsSpec.plain.varTypes Tryd.prog)) (ds ++ gs)).all (· ≤ reachBytes) = true)
    (hL : laidMetH Tryd.prog Rows.chunkBindsRow.laid W) :
    Calls Tryd.prog 7 args W fun e W' => ∃ v, e = .returned v ∧ Rows.chunkBindsSpec.post enc Tryd.prog Tryd.f7 false true false false W args v W' := by
  have hW' := hW
  obtain ⟨p, q, hA0, hV, rfl, hfz, hnd⟩ := hW
  have hA : DataW.TrodAll enc Tryd.prog W 0 (fun _ => true) true Tryd.f7.params.toList args.toList ds p := hA0
  rw [Tryd.params7] at hA hval hsz
  obtain ⟨v0, vs0, d0, ds0, p0, q0, hargs, rfl, rfl, h0, r0⟩ := trodAll_cons hA
  obtain ⟨v1, vs1, d1, ds1, p1, q1, rfl, rfl, rfl, h1, r1⟩ := trodAll_cons r0
  obtain ⟨rfl, rfl, rfl⟩ := trodAll_nil r1
  obtain rfl : args = #[v0, v1] := by cases args; simp_all
  obtain ⟨rfl, rfl⟩ := trodVars_none hV
  have lt0 : ∀ x ∈ p0, x.block < W.heap.size := by obtain ⟨m, hm⟩ := h0; exact DataW.trod_lt m _ _ _ hm
  obtain ⟨cs0, hs0, hd0⟩ := open_bytes (hval 0 39 v0 rfl rfl) h0
  have lt1 : ∀ x ∈ p1, x.block < W.heap.size := by obtain ⟨m, hm⟩ := h1; exact DataW.trod_lt m _ _ _ hm
  obtain ⟨cs1, hs1, hd1⟩ := open_bytes (hval 1 39 v1 rfl rfl) h1
  clear hA0
  have hr0 := reach hsz (j := 0) rfl rfl hd0
  have hr1 := reach hsz (j := 1) rfl rfl hd1
  have walk := chunkBinds_any v0 v1 cs0 cs1 W hs0 hs1 (tabs_of hL).2 (tabs_of hL).1 (by omega) (by omega)
  refine walk.mono fun e W' ⟨he, bel⟩ => ?_
  subst he
  exact ⟨_, rfl, _, _, _, [], _, [], hW', trodAll_mk1 (shut_bool Tryd.underlying4 _), (trodAll_cons_mk (Below.trod laidOut (by kernel_rfl) (of_decide_eq_true (by kernel_rfl)) h0 bel lt0) (trodAll_cons_mk (Below.trod laidOut (by kernel_rfl) (of_decide_eq_true (by kernel_rfl)) h1 bel lt1) trodAll_mk0)), rfl, bel.frame _, fun h => by cases h⟩

theorem laid_met (os : Os) : laidMet Tryd.prog Rows.chunkBindsRow.laid ((laidOn (World.holding Tryd.prog os ⟨#[], #[], []⟩)).forCall (fun _ _ => 0) ⟨#[], #[.slice none 0 0, .slice none 0 0], []⟩).memory :=
  laidMet_of_run' 8 (by kernel_rfl) (by kernel_rfl)
theorem reads (os : Os) {H : Type} (enc : TypeId × Value → H) : ∃ places, DataW.whole enc Tryd.prog ((laidOn (World.holding Tryd.prog os ⟨#[], #[], []⟩)).forCall (fun _ _ => 0) ⟨#[], #[.slice none 0 0, .slice none 0 0], []⟩).memory Tryd.f7.params.toList Rows.chunkBindsSpec.vars false #[Value.slice none 0 0, .slice none 0 0].toList 8 = some ([.nil, .nil], [], places) :=
  ⟨[], by kernel_rfl⟩

set_option maxRecDepth 100000 in
theorem lifted (os : Os) (started : os.Started) (H : Type) (enc : TypeId × Value → H) (F : Stop.Interp) :
    ReturnsInHanded {} Tryd.checked os 7 .any ((OpenSpec.ofChange Rows.chunkBindsSpec).preRow enc Tryd.prog Tryd.f7 Rows.chunkBindsRow.domain false Rows.chunkBindsRow.laid) (((OpenSpec.ofChange Rows.chunkBindsSpec).at F).post enc Tryd.prog Tryd.f7 false true false false) := by
  obtain ⟨places, hx⟩ := reads os enc
  refine returnsInHanded_of_row (C := Tryd.checked) (s := OpenSpec.ofChange Rows.chunkBindsSpec) own started (by kernel_rfl) Tryd.func7
    (witness_row_at (enc := enc) (C := Tryd.checked) false (laidOn (World.holding Tryd.prog os ⟨#[], #[], []⟩)) #[.slice none 0 0, .slice none 0 0] rfl (by kernel_rfl) (by kernel_rfl) (by kernel_rfl)
      (OpenSpec.preRow_of_cond 8 hx (by kernel_rfl) (fun k hk => by cases hk) (by kernel_rfl) (laid_met os))) ?_
  intro W base args ds gs before hval hW _ _ hsz hL _ _
  exact contract H enc W base args ds gs before hval hW hsz hL

theorem said : Rows.ChunkBindsSaid :=
  OpenClaim.holds_of_cond 7 Tryd.f7 rfl rfl rfl rfl rfl rfl rfl ⟨rfl, rfl, rfl, rfl, rfl⟩ rfl rfl rfl rfl rfl (by kernel_rfl) Tryd.func7 (by kernel_rfl)
    (of_decide_eq_true (by kernel_rfl)) (by unfold Func.isWrapper; first | (rw [if_pos (by decide +kernel)]; kernel_rfl) | (rw [if_neg (by decide +kernel)]; exact ⟨rfl, rfl⟩))
    (fun os started H enc _ F => by rw [OpenClaim.pre_eq_preRow]; exact lifted os started H enc F)

theorem plain (f : FuncId) (fn : Func) (hf : Tryd.pinned.checked.prog.funcNamed "muniment/munimentlaw07.ChunkBinds" = some f) (hfn : Tryd.pinned.checked.prog.funcs[f]? = some fn) :
    false = Tryd.pinned.checked.prog.looks [] ∧ ∀ (j : Nat) t, fn.params[j]? = some t → Tryd.pinned.checked.prog.wantsStandIn t = false := by
  obtain rfl : f = 7 := Option.some.inj ((show Tryd.prog.funcNamed "muniment/munimentlaw07.ChunkBinds" = some 7 by kernel_rfl).symm.trans hf) |>.symm
  obtain rfl : fn = Tryd.f7 := (Option.some.inj (Tryd.func7.symm.trans hfn)).symm
  refine ⟨by kernel_rfl, fun j t ht => ?_⟩
  rw [Tryd.params7] at ht
  have hm := Array.mem_of_getElem? ht
  have : t = 39 := by simpa using hm
  subst this
  exact (show Tryd.prog.wantsStandIn 39 = false by kernel_rfl)

end Go.Proofs.YtfnncccioipjcaaDoor.chunkBinds
namespace Go.Proofs.YtfnncccioipjcaaDoor
/-- THE CARD -/
theorem chunkBinds_card : Rows.ChunkBindsCardSaid :=
  Claim7.holds_tied_plain_at .later [] _ _ _ _ chunkBinds.said (fun _ h => by cases h) (by kernel_rfl) (fun _ h => by cases h) chunkBinds_row_tie rfl ⟨rfl, rfl⟩ (by kernel_rfl) rfl chunkBinds.plain (by kernel_rfl)
end Go.Proofs.YtfnncccioipjcaaDoor

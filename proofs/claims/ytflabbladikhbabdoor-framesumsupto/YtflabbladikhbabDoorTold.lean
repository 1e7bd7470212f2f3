/- A copy of bytes; two rows held against one another; bytes spoilt; the walks. -/
import Derived.Test.YtflabbladikhbabDoorSmall
namespace Go.Proofs.YtflabbladikhbabDoor
open Go.RowKit

set_option maxHeartbeats 400000 in
theorem told_any (v : Value) (cs : List Nat) (w : World) (h : SliceIn w v cs) (hsz : cs.length ≤ 281474976710656) :
    Calls Tryd.prog 15 #[v] w fun e w' => ∃ v', e = .returned v' ∧ BOwn w' w.heap.size v' cs ∧ Below w.heap.size w w' := by
  go_enter Tryd.func15, Tryd.ntmps15
  go_wp2_with (first
    | (refine wpList_len (.tmp 4) rfl rfl v cs rfl h ?_)
    | (refine wpList_makeN (.tmp 5) (.tmp 5) rfl rfl w.heap.size cs.length _ _ rfl rfl rfl rfl hsz (Nat.le_refl _) ?_; intro v1 w1 o1 b1; have O1 : Hid (BOwn w1 w.heap.size v1 (List.replicate cs.length 0)) := o1; have B1 : Hid (Below w.heap.size w w1) := b1; clear o1 b1)
    | (refine wpList_copyFull (.tmp 7) (.tmp 8) rfl rfl w.heap.size v1 v (List.replicate cs.length 0) cs rfl O1.out rfl (h.later B1.out) (by simp) ?_; intro w2 r o2 g2; have O2 : Hid (BOwn w2 w.heap.size v1 cs) := o2; have B2 : Hid (Below w.heap.size w w2) := B1.out.trans (O1.out.below g2 B1.out.size); clear o2 g2))
  go_ret
  exact ⟨_, rfl, O2.out, B2.out⟩

/-- are two rows one? -/
def sameB (xs ys : List Nat) : Bool := decide (xs = ys)
theorem sameB_self (xs : List Nat) : sameB xs xs = true := decide_eq_true rfl
theorem str_inj {xs ys : List Nat} (hx : ∀ c ∈ xs, c < 256) (hy : ∀ c ∈ ys, c < 256) : (strOfNums (xs.map Int.ofNat) = strOfNums (ys.map Int.ofNat)) ↔ xs = ys := by
  constructor
  · intro h
    have h1 := congrArg (fun s => s.data.toList) h
    simp only [strOfNums_data, List.map_map] at h1
    have key : ∀ zs : List Nat, (∀ c ∈ zs, c < 256) → (zs.map ((fun n : Int => UInt8.ofNat n.toNat) ∘ Int.ofNat)).map UInt8.toNat = zs := by
      intro zs hz
      rw [List.map_map]
      conv => rhs; rw [← List.map_id zs]
      apply List.map_congr_left
      intro c hc
      have := hz c hc
      simp [Function.comp]
      omega
    rw [← key xs hx, ← key ys hy, h1]
  · intro h
    rw [h]

set_option maxHeartbeats 400000 in
theorem same_any (va vb : Value) (xs ys : List Nat) (w : World) (ha : SliceIn w va xs) (hb : SliceIn w vb ys) :
    Calls Tryd.prog 9 #[va, vb] w fun e w' => e = .returned (.bool (sameB xs ys)) ∧ w = w' := by
  have HE : Hid (strOfNums (xs.map Int.ofNat) = strOfNums (ys.map Int.ofNat) ↔ xs = ys) := str_inj ha.mem hb.mem
  go_enter Tryd.func9, Tryd.ntmps9
  go_wp2_with (first
    | (refine wpList_string (.tmp 5) rfl rfl va xs rfl ha ?_; generalize hsx : strOfNums (xs.map Int.ofNat) = sx at HE ⊢; clear hsx)
    | (refine wpList_string (.tmp 7) rfl rfl vb ys rfl hb ?_; generalize hsy : strOfNums (ys.map Int.ofNat) = sy at HE ⊢; clear hsy))
  have HF : Hid ((sx.toList == sy.toList) = sameB xs ys) := by
    show _ = _
    unfold sameB
    rw [Bool.eq_iff_iff, beq_iff_eq, decide_eq_true_iff, ← HE.out, ByteArray.toList_eq, ByteArray.toList_eq]
    constructor
    · intro h
      obtain ⟨⟨l⟩⟩ := sx
      obtain ⟨⟨m⟩⟩ := sy
      have h' : l = m := h
      rw [h']
    · intro h
      rw [h]
  go_ret
  refine ⟨?_, rfl⟩
  rw [← HF.out]
  rfl

theorem grown_trans {w w1 w2 : World} {r : Option Nat} (h : w.grownBy w1 r) (k : w1.grownBy w2 r) : w.grownBy w2 r :=
  ⟨k.os.trans h.os, k.tape.trans h.tape, k.output.trans h.output, Nat.le_trans h.size k.size, fun i hi hne => (k.block i (Nat.lt_of_lt_of_le hi h.size) hne).trans (h.block i hi hne)⟩
theorem grown_below {w w1 : World} {r : Option Nat} (h : Below w.heap.size w w1) : w.grownBy w1 r :=
  ⟨h.os, h.tape, h.output, h.size, fun i hi _ => h.block i hi⟩
theorem grown_last {w w1 w2 : World} {r r' : Option Nat} (h : w.grownBy w1 r) (k : w1.grownBy w2 r') (hr : r' = r ∨ ∃ n, r' = some n ∧ w.heap.size ≤ n) : w.grownBy w2 r := by
  refine ⟨k.os.trans h.os, k.tape.trans h.tape, k.output.trans h.output, Nat.le_trans h.size k.size, fun i hi hne => (k.block i (Nat.lt_of_lt_of_le hi h.size) ?_).trans (h.block i hi hne)⟩
  rcases hr with rfl | ⟨n, rfl, hn⟩
  · exact hne
  · intro e
    injection e with e
    omega

end Go.Proofs.YtflabbladikhbabDoor

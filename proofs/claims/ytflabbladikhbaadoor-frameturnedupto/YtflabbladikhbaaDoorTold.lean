/- A copy of bytes; two rows held against one another; bytes spoilt; the walks. -/
import Derived.Test.YtflabbladikhbaaDoorSmall
namespace Go.Proofs.YtflabbladikhbaaDoor
open Go.RowKit

set_option maxHeartbeats 400000 in
theorem told_any (v : Value) (cs : List Nat) (w : World) (h : SliceIn w v cs) (hsz : cs.length ≤ 281474976710656) :
    Calls Tryd.prog 24 #[v] w fun e w' => ∃ v', e = .returned v' ∧ BOwn w' w.heap.size v' cs ∧ Below w.heap.size w w' := by
  go_enter Tryd.func24, Tryd.ntmps24
  go_wp2_with (first
    | (refine wpList_len (.tmp 4) rfl rfl v cs rfl h ?_)
    | (refine wpList_makeN (.tmp 5) (.tmp 5) rfl rfl w.heap.size cs.length _ _ rfl rfl rfl rfl hsz (Nat.le_refl _) ?_; intro v1 w1 o1 b1; have O1 : Hid (BOwn w1 w.heap.size v1 (List.replicate cs.length 0)) := o1; have B1 : Hid (Below w.heap.size w w1) := b1; clear o1 b1)
    | (refine wpList_copyFull (.tmp 7) (.tmp 8) rfl rfl w.heap.size v1 v (List.replicate cs.length 0) cs rfl O1.out rfl (h.later B1.out) (by simp) ?_; intro w2 r o2 g2; have O2 : Hid (BOwn w2 w.heap.size v1 cs) := o2; have B2 : Hid (Below w.heap.size w w2) := B1.out.trans (O1.out.below g2 B1.out.size); clear o2 g2))
  go_ret
  exact ⟨_, rfl, O2.out, B2.out⟩

/-- are two rows one? -/
def sameB (xs ys : List Nat) : Bool := decide (xs = ys)
theorem sameB_self (xs : List Nat) : sameB xs xs = true := decide_eq_true rfl
theorem str_inj {xs ys : List Nat} (hx : ∀ c ∈ xs, c < 256) (hy : ∀ c ∈ ys, c < 256) : (strOfNums (xs.map Int.ofNat) = strOfNums (ys.map Int.ofNat)) ↔ xs = ys := by
  constructor
  · intro h
    have h1 := congrArg (fun s => s.data.toList) h
    simp only [strOfNums_data, List.map_map] at h1
    have key : ∀ zs : List Nat, (∀ c ∈ zs, c < 256) → (zs.map ((fun n : Int => UInt8.ofNat n.toNat) ∘ Int.ofNat)).map UInt8.toNat = zs := by
      intro zs hz
      rw [List.map_map]
      conv => rhs; rw [← List.map_id zs]
      apply List.map_congr_left
      intro c hc
      have := hz c hc
      simp [Function.comp]
      omega
    rw [← key xs hx, ← key ys hy, h1]
  · intro h
    rw [h]

set_option maxHeartbeats 400000 in
theorem same_any (va vb : Value) (xs ys : List Nat) (w : World) (ha : SliceIn w va xs) (hb : SliceIn w vb ys) :
    Calls Tryd.prog 12 #[va, vb] w fun e w' => e = .returned (.bool (sameB xs ys)) ∧ w = w' := by
  have HE : Hid (strOfNums (xs.map Int.ofNat) = strOfNums (ys.map Int.ofNat) ↔ xs = ys) := str_inj ha.mem hb.mem
  go_enter Tryd.func12, Tryd.ntmps12
  go_wp2_with (first
    | (refine wpList_string (.tmp 5) rfl rfl va xs rfl ha ?_; generalize hsx : strOfNums (xs.map Int.ofNat) = sx at HE ⊢; clear hsx)
    | (refine wpList_string (.tmp 7) rfl rfl vb ys rfl hb ?_; generalize hsy : strOfNums (ys.map Int.ofNat) = sy at HE ⊢; clear hsy))
  have HF : Hid ((sx.toList == sy.toList) = sameB xs ys) := by
    show _ = _
    unfold sameB
    rw [Bool.eq_iff_iff, beq_iff_eq, decide_eq_true_iff, ← HE.out, ByteArray.toList_eq, ByteArray.toList_eq]
    constructor
    · intro h
      obtain ⟨⟨l⟩⟩ := sx
      obtain ⟨⟨m⟩⟩ := sy
      have h' : l = m := h
      rw [h']
    · intro h
      rw [h]
  go_ret
  refine ⟨?_, rfl⟩
  rw [← HF.out]
  rfl

theorem grown_trans {w w1 w2 : World} {r : Option Nat} (h : w.grownBy w1 r) (k : w1.grownBy w2 r) : w.grownBy w2 r :=
  ⟨k.os.trans h.os, k.tape.trans h.tape, k.output.trans h.output, Nat.le_trans h.size k.size, fun i hi hne => (k.block i (Nat.lt_of_lt_of_le hi h.size) hne).trans (h.block i hi hne)⟩
theorem grown_below {w w1 : World} {r : Option Nat} (h : Below w.heap.size w w1) : w.grownBy w1 r :=
  ⟨h.os, h.tape, h.output, h.size, fun i hi _ => h.block i hi⟩
theorem grown_last {w w1 w2 : World} {r r' : Option Nat} (h : w.grownBy w1 r) (k : w1.grownBy w2 r') (hr : r' = r ∨ ∃ n, r' = some n ∧ w.heap.size ≤ n) : w.grownBy w2 r := by
  refine ⟨k.os.trans h.os, k.tape.trans h.tape, k.output.trans h.output, Nat.le_trans h.size k.size, fun i hi hne => (k.block i (Nat.lt_of_lt_of_le hi h.size) ?_).trans (h.block i hi hne)⟩
  rcases hr with rfl | ⟨n, rfl, hn⟩
  · exact hne
  · intro e
    injection e with e
    omega

set_option maxHeartbeats 400000 in
theorem spoil_nil (w : World) : Calls Tryd.prog 13 #[.slice none 0 0] w fun e w' => e = .returned noResult ∧ Below w.heap.size w w' := by
  go_enter Tryd.func13, Tryd.ntmps13
  go_wp2
  go_loop [2] (fun i => i = .int .i64 0) (fun _ => 0)
  case atStart => rfl
  case round =>
    obtain rfl := hrel
    go_wp2_with (first
      | (refine wpList_lit1 (.const (.int .u8 98)) rfl rfl 98 (by decide) _ rfl rfl ?_; intro v1 w1 s1 b1)
      | (refine wpList_append (.tmp 13) (.tmp 14) rfl rfl w.heap.size _ v1 [] [98] rfl (BOwn.nil _ _) rfl s1 (by simp) b1.size ?_; intro v2 w2 o2 b2; have O2 : Hid (BOwn w2 w.heap.size v2 ([] ++ [98])) := o2; have B2 : Hid (Below w.heap.size w w2) := b1.trans b2; clear o2 b2 s1 b1)
      | (refine wpList_indexOwn (.tmp 16) (.tmp 18) rfl rfl w.heap.size v2 ([] ++ [98]) rfl O2.out (by simp) 0 (by simp) _ rfl rfl ?_; intro g hc hf HS))
    go_end0
    exact ⟨rfl, B2.out.trans (O2.out.below (HS.out 97).2 B2.out.size)⟩

set_option maxHeartbeats 400000 in
theorem spoil_some (v : Value) (cs : List Nat) (base : Nat) (w : World) (h : BOwn w base v cs) (hne : v.ownBlock ≠ none) (hb : ∀ c ∈ cs, c < 256) (hbase : base ≤ w.heap.size) (hsz : cs.length + 1 ≤ 140737488355328) :
    Calls Tryd.prog 13 #[v] w fun e w' => e = .returned noResult ∧ w.grownBy w' v.ownBlock := by
  have HO : Hid (BOwn w base v cs) := h
  have HN : Hid (v.ownBlock ≠ none) := hne
  have HC : Hid (∀ c ∈ cs, c < 256) := hb
  have HB : Hid (base ≤ w.heap.size) := hbase
  clear h hne hb hbase
  go_enter Tryd.func13, Tryd.ntmps13
  go_wp2
  go_loopw [2] (fun i W => ∃ k : Nat, ∃ ds : List Nat, k ≤ cs.length ∧ i = .int .i64 k ∧ BOwn W base v ds ∧ ds.length = cs.length ∧ (∀ c ∈ ds, c < 256) ∧ w.grownBy W v.ownBlock) (fun i _ => cs.length - (intOf i).toNat)
  case atStart => exact ⟨0, cs, Nat.zero_le _, rfl, HO.out, rfl, HC.out, World.grownBy.refl _ _⟩
  case round =>
    obtain ⟨k, ds, hk, rfl, hx, hl, hd, hgr⟩ := hrel
    have HX : Hid (BOwn wr base v ds) := hx
    have HL : Hid (ds.length = cs.length) := hl
    have HD : Hid (∀ c ∈ ds, c < 256) := hd
    have HG : Hid (w.grownBy wr v.ownBlock) := hgr
    have hs := hx.slice hd
    rw [← hl] at hk
    have hdl : ds.length ≤ 140737488355327 := by omega
    have HM : Hid (∀ c ∈ ds ++ [98], c < 256) := by
      intro c hc
      simp only [List.mem_append, List.mem_singleton] at hc
      rcases hc with h | rfl
      · exact hd c h
      · decide
    clear hx hl hd hgr
    by_cases hlt : k < ds.length
    · go_wp2_with (first
        | (refine wpList_len (.tmp 5) rfl rfl v ds rfl hs ?_)
        | (refine wpList_indexOwn (.tmp 10) (.tmp 11) rfl rfl base v ds rfl HX.out HD.out k hlt _ rfl rfl ?_; intro g hc hf HS))
      refine ⟨⟨k + 1, ds.set k 99, by have := HL.out; omega, by go_num, (HS.out 99).1, by rw [List.length_set]; exact HL.out, fun c hc => ?_, grown_trans HG.out (HS.out 99).2⟩, ?_⟩
      · rcases List.mem_or_eq_of_mem_set hc with h | rfl
        · exact HD.out c h
        · decide
      · have := HL.out
        simp [intOf]
        omega
    · go_wp2_with (first
        | (refine wpList_len (.tmp 5) rfl rfl v ds rfl hs ?_)
        | (refine wpList_lit1 (.const (.int .u8 98)) rfl rfl 98 (by decide) _ rfl rfl ?_; intro v1 w1 s1 b1; have B1 : Hid (Below wr.heap.size wr w1) := b1; clear b1)
        | (refine wpList_append_apart (.tmp 13) (.tmp 14) rfl rfl base v v1 ds [98] rfl (HX.out.later B1.out (Nat.le_refl _)) HN.out rfl s1 (by have := HL.out; simp; omega) (Nat.le_trans HB.out (Nat.le_trans HG.out.size B1.out.size)) ?_; intro v2 w2 o2 g2 k2; have O2 : Hid (BOwn w2 base v2 (ds ++ [98]) ∧ (v2.ownBlock = v.ownBlock ∨ v2.ownBlock = some w1.heap.size)) := ⟨o2, k2⟩; have G2 : Hid (w.grownBy w2 v.ownBlock) := grown_trans HG.out (grown_trans (grown_below B1.out) g2); clear o2 g2 k2)
        | (refine wpList_len (.tmp 17) rfl rfl v ds rfl hs ?_)
        | (refine wpList_indexOwn (.tmp 16) (.tmp 18) rfl rfl base v2 (ds ++ [98]) rfl O2.out.1 HM.out ds.length (by simp) _ rfl rfl ?_; intro g hc hf HS))
      go_end0
      refine ⟨rfl, grown_last G2.out (HS.out 97).2 ?_⟩
      rcases O2.out.2 with h | h
      · exact Or.inl h
      · exact Or.inr ⟨_, h, Nat.le_trans HG.out.size B1.out.size⟩
/-- bytes that are spoilt: nothing but their own block turns -/
theorem spoil_any (v : Value) (cs : List Nat) (base : Nat) (w : World) (h : BOwn w base v cs) (hb : ∀ c ∈ cs, c < 256) (hbase : base ≤ w.heap.size) (hsz : cs.length + 1 ≤ 140737488355328) :
    Calls Tryd.prog 13 #[v] w fun e w' => e = .returned noResult ∧ w.grownBy w' v.ownBlock := by
  by_cases hne : v.ownBlock = none
  · rcases h.2 with ⟨rfl, _⟩ | ⟨g, cap, cur, rfl, _⟩
    · exact (spoil_nil w).mono fun e w' h => ⟨h.1, grown_below h.2⟩
    · cases hne
  · exact spoil_some v cs base w h hne hb hbase hsz
end Go.Proofs.YtflabbladikhbaaDoor

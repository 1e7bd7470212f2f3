/- For every rows of bytes, of the leaves of the first 24 at the most, added one by one, each root that was told is held by verify.Consistency to be a beginning of each later one, and each leaf by verify.Inclusion to be in each root that has it: the law VerifyGrows returns true and changes nothing that was there. Condition: the tables sha.start and sha.constants start as the program's text lays them (the card ties them). -/
import Derived.Test.YtfnncccioipjcaaDoorShown
import Derived.Test.YtfnncccioipjcaaDoorPush
import Derived.Test.YtfnncccioipjcaaDoorGrowAll
import Derived.Test.YtfnncccioipjcaaDoorOpenRows
namespace Go.Proofs.YtfnncccioipjcaaDoor
open Go.RowKit

/-- the roots of the first beginnings -/
def rts (hs : List (List Nat)) (i : Nat) : List (List Nat) := (List.range (i + 1)).map fun m => Tree.root (hs.take m)
theorem rts_length (hs : List (List Nat)) (i : Nat) : (rts hs i).length = i + 1 := by simp [rts]
theorem rts_succ (hs : List (List Nat)) (i : Nat) : rts hs (i + 1) = rts hs i ++ [Tree.root (hs.take (i + 1))] := by simp [rts, List.range_succ]
theorem rts_zero (hs : List (List Nat)) : rts hs 0 = [Tree.root []] := by simp [rts]
theorem rts_at (hs : List (List Nat)) (i m : Nat) (h : m ≤ i) : (rts hs i).getD m [] = Tree.root (hs.take m) := by
  simp [rts, List.getD_eq_getElem?_getD, show m < i + 1 by omega]
theorem grows_cons (hs : List (List Nat)) (a b : Nat) (hb : b ≤ a) (ha : a ≤ hs.length) : Tree.consOk (b : Nat) (a : Nat) (Tree.root (hs.take b)) (Tree.root (hs.take a)) (consAns (hs.take a) (b : Nat)) = true := by
  have hl : (hs.take a).length = a := by rw [List.length_take]; omega
  rcases Nat.eq_zero_or_pos b with h0 | h0
  · subst h0
    have e : consAns (hs.take a) ((0 : Nat) : Int) = [] := by unfold consAns; rw [if_neg (by omega)]
    rw [e, List.take_zero]
    exact Tree.consOk_zero (hs.take a) a hl
  · have e : consAns (hs.take a) (b : Nat) = Tree.part (hs.take a) b true := by unfold consAns; rw [if_pos ⟨by omega, by omega⟩, Int.toNat_natCast]
    have h := Tree.consOk_part (hs.take a) b a hl hb h0 (Tree.root (hs.take a))
    rw [List.take_take, Nat.min_eq_left hb] at h
    rw [e, h]
    exact decide_eq_true rfl
theorem grows_incl (hs : List (List Nat)) (a b : Nat) (hb : b < a) (ha : a ≤ hs.length) : Tree.inclOk (hs.getD b []) (b : Nat) (a : Nat) (inclAns (hs.take a) (b : Nat)) (Tree.root (hs.take a)) = true := by
  have hl : (hs.take a).length = a := by rw [List.length_take]; omega
  have e : inclAns (hs.take a) (b : Nat) = Tree.incl (hs.take a) b := by unfold inclAns; rw [if_pos ⟨by omega, by omega⟩, Int.toNat_natCast]
  have h := Tree.inclOk_incl (hs.take a) b a hl hb (Tree.root (hs.take a))
  rw [Tree.getD_take hs a b hb] at h
  rw [e, h]
  exact decide_eq_true rfl
theorem grows_cerr (hs : List (List Nat)) (a b : Nat) (hb : b ≤ a) (ha : a ≤ hs.length) : consErr (hs.take a) (b : Nat) = 0 := by
  unfold consErr
  rw [List.length_take, if_pos ⟨by omega, by omega⟩]
theorem grows_ierr (hs : List (List Nat)) (a b : Nat) (hb : b < a) (ha : a ≤ hs.length) : inclErr (hs.take a) (b : Nat) = 0 := by
  unfold inclErr
  rw [List.length_take, if_pos ⟨by omega, by omega⟩]
theorem GrowAt.kept {w w' : World} {g : Nat} {v : Value} {hs : List (List Nat)} {r : Option Nat} (h : GrowAt w g v hs) (hg : w.grownBy w' r) (h1 : r ≠ some g) (h2 : ∀ k, v.ownBlock = some k → r ≠ some k) : GrowAt w' g v hs := by
  refine ⟨h.1, ?_, own_kept h.2.2.1 fun b hb => hg.block b ((h.2.2.1.2.lt b hb).2) (fun e => h2 b hb e.symm), h.2.2.2⟩
  have := hg.block g h.2.1.lt (fun e => h1 e.symm)
  unfold Row
  rw [this]
  exact h.2.1
/-- the Grow has taken the first i, and the roots so far are told -/
def GI (w2 W : World) (G : Nat) (hs : List (List Nat)) (rv : Value) (i : Nat) : Prop :=
  ∃ vg, GrowAt W G vg (hs.take i) ∧ HOwn W G rv (rts hs i) ∧ Below G w2 W ∧ (∀ k, vg.ownBlock = some k → G ≤ k) ∧ ∀ k, rv.ownBlock = some k → k ≠ G ∧ vg.ownBlock ≠ some k
def GJ (w2 W : World) (G : Nat) (hs : List (List Nat)) (rv vg : Value) (i j : Nat) : Prop :=
  GrowAt W G vg (hs.take i) ∧ HOwn W G rv (rts hs j) ∧ Below G w2 W ∧ (∀ k, vg.ownBlock = some k → G ≤ k) ∧ ∀ k, rv.ownBlock = some k → k ≠ G ∧ vg.ownBlock ≠ some k
theorem GJ.later {w2 W W' : World} {G : Nat} {hs : List (List Nat)} {rv vg : Value} {i j : Nat} (h : GJ w2 W G hs rv vg i j) (hb : Below W.heap.size W W') : GJ w2 W' G hs rv vg i j :=
  ⟨h.1.below hb, h.2.1.later hb (Nat.le_refl _), h.2.2.1.trans (hb.mono (Nat.le_of_lt h.1.2.1.lt)), h.2.2.2⟩
theorem GJ.add {w2 W W' : World} {G : Nat} {hs : List (List Nat)} {rv vg vg' : Value} {i j : Nat} (h : GJ w2 W G hs rv vg i j) (x : List Nat) (hx : hs.take (i + 1) = hs.take i ++ [x]) (hg : GrowAt W' G vg' (hs.take i ++ [x])) (hk : Kept G vg.ownBlock W W') (hl : vg'.ownBlock = vg.ownBlock ∨ ∀ k, vg'.ownBlock = some k → W.heap.size ≤ k) : GJ w2 W' G hs rv vg' (i + 1) j := by
  have hlt : ∀ k, rv.ownBlock = some k → k < W.heap.size := fun k hk => (h.2.1.2.lt k hk).2
  refine ⟨by rw [hx]; exact hg, own_kept h.2.1 fun b hb => hk.block b (hlt b hb) (h.2.2.2.2 b hb).1 (h.2.2.2.2 b hb).2, ⟨hk.os.trans h.2.2.1.os, hk.tape.trans h.2.2.1.tape, hk.output.trans h.2.2.1.output, Nat.le_trans h.2.2.1.size hk.size, fun k hkG => (hk.block k (Nat.lt_trans hkG h.1.2.1.lt) (by omega) (fun e => by have := h.2.2.2.1 k e; omega)).trans (h.2.2.1.block k hkG)⟩, fun k hk' => ?_, fun k hk' => ⟨(h.2.2.2.2 k hk').1, fun e => ?_⟩⟩
  · rcases hl with l | l
    · exact h.2.2.2.1 k (l ▸ hk')
    · have := l k hk'
      have := h.1.2.1.lt
      omega
  · rcases hl with l | l
    · exact (h.2.2.2.2 k hk').2 (l ▸ e)
    · have := l k e
      have := hlt k hk'
      omega
theorem GJ.push {w2 W W' : World} {G : Nat} {hs : List (List Nat)} {rv rv' vg : Value} {i j : Nat} (h : GJ w2 W G hs rv vg i j) (ho : HOwn W' G rv' (rts hs (j + 1))) (hg : W.grownBy W' rv.ownBlock) (hl : rv'.ownBlock = rv.ownBlock ∨ ∀ k, rv'.ownBlock = some k → W.heap.size ≤ k) : GJ w2 W' G hs rv' vg i (j + 1) := by
  refine ⟨h.1.kept hg (fun e => (h.2.2.2.2 G e).1 rfl) (fun k hk e => (h.2.2.2.2 k e).2 hk), ho, h.2.2.1.trans (h.2.1.below hg (Nat.le_of_lt h.1.2.1.lt)), h.2.2.2.1, fun k hk => ?_⟩
  rcases hl with l | l
  · exact h.2.2.2.2 k (l ▸ hk)
  · have h1 := l k hk
    refine ⟨by have := h.1.2.1.lt; omega, fun e => ?_⟩
    have := (h.1.2.2.1.2.lt k e).2
    omega
section
variable {w : World} {o : Oper} {a : Act}
theorem rx_eqG {t : Nat} (x y : Operand) (ho : o.op = .binOp .eql t x y t) (z z' : Int) (hx : a.eval x = .int .i64 z) (hy : a.eval y = .int .i64 z') (b : Bool) (hb : decide (z = z') = b) : (execOp a.eval o).run Tryd.prog w = .ok (.value (.bool b)) w := by
  subst hb
  simp only [execOp, ho, hx, hy]
  by_cases h : z = z'
  · subst h; simp [go_sem]
  · simp [go_sem, h]
end
section
variable {w : World} {ops : Array Oper} {rest : List Oper} {o : Oper} {a : Act} {Q : Exit → Act → World → Prop}
theorem wl_lit1g (x : Operand) (hgd : Region.wanted o (yielded ops a.tmps) = true) (ho : o.op = .buildSlice 24 1 #[(0, x)]) (h' : List Nat) (hh : IsH h') (hx : a.eval x = hv h') (base : Nat) (hb : base ≤ w.heap.size)
    (h : ∀ v' w', HOwn w' base v' [h'] → v'.ownBlock = some w.heap.size → Below w.heap.size w w' → wpList Tryd.prog ops Q rest (a.put o.dst v') w') : wpList Tryd.prog ops Q (o :: rest) a w :=
  wl hgd _ _ (rx_lit1 x ho h' hh hx) (h _ _ (hlit_own w base hb [h'] (AllH.one hh) (by simp)) rfl (below_alloc w _))
end
theorem en14g : EntersF 14 := enters Tryd.func14 (by kernel_rfl) (by kernel_rfl)
theorem en16g : EntersF 16 := enters Tryd.func16 (by kernel_rfl) (by kernel_rfl)
set_option maxHeartbeats 16000000 in
set_option maxRecDepth 100000 in
theorem grows_le (v : Value) (L : List (List Nat)) (w : World) (h : ListIn w v L) (ht : TabIn w) (hst : StartIn w) (hsz : L.length * 24 ≤ 140737488355328) (hL : ∀ c ∈ L, c.length + 1024 ≤ 140737488355328) (hM : L.length ≤ 24) :
    Calls Tryd.prog 3 #[v] w fun e w' => e = .returned (.bool true) ∧ Below w.heap.size w w' := by
  have h1lt := ht.lt
  obtain ⟨M, hM'⟩ : ∃ M, L.length = M := ⟨_, rfl⟩
  have HLM : Hid ((L.map Tree.leaf).length = M) := by rw [List.length_map]; exact hM'
  rw [hM'] at hM
  have HSZ : Hid (L.length * 24 ≤ 140737488355328 ∧ ∀ c ∈ L, c.length + 1024 ≤ 140737488355328) := ⟨hsz, hL⟩
  have hgt : ¬ ((24 : Int) < (M : Int)) := by omega
  have HAH : Hid (AllH (L.map Tree.leaf)) := fun x hx => by obtain ⟨c, _, rfl⟩ := List.mem_map.1 hx; exact leaf_isH c
  obtain ⟨hs, hhs⟩ : ∃ hs, L.map Tree.leaf = hs := ⟨_, rfl⟩
  obtain ⟨N, hN⟩ : ∃ N, hs.length = N := ⟨_, rfl⟩
  have hN24 : N ≤ 24 := by rw [← hN, ← hhs, List.length_map]; omega
  have HN : Hid (hs.length = N) := hN
  have HHS : Hid (L.map Tree.leaf = hs) := hhs
  rw [hhs] at HAH
  clear hM' hsz hL hhs hN
  go_enter Tryd.func3, Tryd.ntmps3
  go_wp2_with ((first
    | (go_at_call 8; refine (shown_any w ht hst).mono ?_; rintro e w1 ⟨rfl, b1⟩; have R1 : Hid (Below w.heap.size w w1) := b1; clear b1)
    | (go_at_call 9; refine (leavesF_any v L w1 (h.later R1.out) HSZ.out.1 HSZ.out.2).mono ?_; rintro e w2 ⟨vl, rfl, o2, b2⟩; have R2 : Hid (HIn w2 vl (L.map Tree.leaf) ∧ Below w.heap.size w w2) := ⟨o2.hin, below_append R1.out b2⟩; clear o2 b2)
    | (refine wl_lenN (.tmp 19) rfl rfl vl (L.map Tree.leaf) rfl R2.out.1 M HLM.out ?_)
    | (go_at_call 10; refine (newGrow_any w2).mono ?_; rintro e w3 ⟨rfl, g3, b3⟩; obtain ⟨G, hG⟩ : ∃ G, G = w2.heap.size := ⟨_, rfl⟩; rw [← hG] at g3 b3 ⊢; have R3 : Hid (GrowAt w3 G (.slice none 0 0) [] ∧ Below G w2 w3 ∧ G = w2.heap.size) := ⟨g3, b3, hG⟩; clear g3 b3 hG)); try simp only [Act.put, List.setIfInBounds_toArray, List.set_cons_succ, List.set_cons_zero])
  have R2' : Hid (HIn w2 vl hs ∧ Below w.heap.size w w2) := ⟨(by have := R2.out.1; rw [HHS.out] at this; exact this), R2.out.2⟩
  have HT2 : Hid (∀ W, Below G w2 W → HIn W vl hs ∧ TabIn W ∧ StartIn W ∧ Below w.heap.size w W) := fun W hW => by
    have hW' : Below w2.heap.size w2 W := R3.out.2.2 ▸ hW
    exact ⟨R2'.out.1.later hW', (ht.later R2'.out.2).later hW', (hst.later R2'.out.2).later hW', below_append R2'.out.2 hW'⟩
  have HG1 : Hid (1 < G) := by have := R2'.out.2.size; have := R3.out.2.2; show _ < _; omega
  have R3' : Hid (GrowAt w3 G (.slice none 0 0) [] ∧ Below G w2 w3) := ⟨R3.out.1, R3.out.2.1⟩
  clear R1 R2 R2' R3 HHS
  refine (growRoot_any G (.slice none 0 0) [] w3 R3'.out.1 (HT2.out w3 R3'.out.2).2.1 (HT2.out w3 R3'.out.2).2.2.1 (by decide)).mono ?_
  rintro e w4 ⟨rfl, b4⟩
  have R4 : Hid (GrowAt w4 G (.slice none 0 0) [] ∧ Below G w2 w4) := ⟨R3'.out.1.below b4, R3'.out.2.trans (b4.mono (Nat.le_of_lt R3'.out.1.2.1.lt))⟩
  have HRN : Hid (IsH (Tree.root [])) := AllH.nil.root
  have HRZ : Hid (rts hs 0 = [Tree.root []]) := rts_zero hs
  generalize Tree.root [] = rn at HRN HRZ ⊢
  clear b4 R3'
  go_wp2_with ((first
    | (refine wl_lit1g (.tmp 28) rfl rfl rn HRN.out rfl G (Nat.le_of_lt R4.out.1.2.1.lt) ?_; intro v5 w5 o5 k5 b5; rw [← HRZ.out] at o5; have R5 : Hid (GI w2 w5 G hs v5 0) := ⟨.slice none 0 0, by rw [List.take_zero]; exact R4.out.1.below b5, o5, R4.out.2.trans (b5.mono (Nat.le_of_lt R4.out.1.2.1.lt)), (fun k hk => by cases hk), fun k hk => ⟨(by rw [k5] at hk; injection hk with hk; have := R4.out.1.2.1.lt; omega), (by intro e; cases e)⟩⟩; clear o5 k5 b5)); try simp only [Act.put, List.setIfInBounds_toArray, List.set_cons_succ, List.set_cons_zero])
  clear R4
  go_loopw [6, 7] (fun x i W => ∃ k : Nat, k ≤ N ∧ i = .int .i64 (k : Nat) ∧ GI w2 W G hs x k) (fun _ i _ => N - (intOf i).toNat)
  case atStart => exact ⟨0, Nat.zero_le _, rfl, R5.out⟩
  case round =>
    clear R5
    obtain ⟨k, hk, rfl, vg, hgi⟩ := hrel
    have HV : Hid (GJ w2 wr G hs u6 vg k k) := hgi
    have HW : Hid (HIn wr vl hs ∧ TabIn wr ∧ StartIn wr ∧ Below w.heap.size w wr) := HT2.out wr hgi.2.2.1
    clear hgi
    by_cases hlt : k < N
    · have hlt' : (k : Int) < (N : Int) := by omega
      have HX : Hid (IsH (hs.getD k []) ∧ hs.take (k + 1) = hs.take k ++ [hs.getD k []]) := by
        have hml : k < hs.length := by have := HN.out; omega
        refine ⟨HAH.out.at k hml, ?_⟩
        rw [List.take_succ_eq_append_getElem hml]
        simp [hml]
      generalize hx : hs.getD k [] = x at HX
      have HXE : Hid (hs.getD k [] = x) := hx
      have HLT : Hid ((hs.take k).length = k) := by show _ = _; rw [List.length_take, HN.out]; omega
      have HLT1 : Hid ((hs.take (k + 1)).length = k + 1) := by show _ = _; rw [List.length_take, HN.out]; omega
      have HRS : Hid (rts hs (k + 1) = rts hs k ++ [Tree.root (hs.take (k + 1))]) := rts_succ hs k
      have HRH : Hid (IsH (Tree.root (hs.take (k + 1)))) := (HAH.out.take (k + 1)).root
      have HRL : Hid ((rts hs k).length = k + 1) := rts_length hs k
      generalize hrk : Tree.root (hs.take (k + 1)) = rk at HRS HRH
      have HRK : Hid (Tree.root (hs.take (k + 1)) = rk) := hrk
      clear hx hrk
      go_wp2_with ((first
        | (refine wl_lenN (.tmp 31) rfl rfl vl hs rfl HW.out.1 N HN.out ?_)
        | (refine wl_index (.tmp 37) (.tmp 38) rfl rfl vl hs rfl HW.out.1 _ k rfl rfl (by rw [HN.out]; exact hlt) ?_; intro p hp; rw [HXE.out] at hp; have HP : Hid (HAt wr p x) := hp; clear hp)
        | (refine wl_load (.tmp 39) rfl rfl p rfl x HP.out ?_)
        | (go_at_call 12; refine (add_any G vg (hs.take k) x wr HV.out.1 HX.out.1 HW.out.2.1 HW.out.2.2.1 HG1.out (by rw [HLT.out]; omega)).mono ?_; rintro e w6 ⟨rfl, vg', g6, k6, l6⟩; have R6 : Hid (GJ w2 w6 G hs u6 vg' (k + 1) k) := HV.out.add x HX.out.2 g6 k6 l6; clear g6 k6 l6)
        | (go_at_call 11; refine (growRoot_any G vg' (hs.take (k + 1)) w6 R6.out.1 (HT2.out w6 R6.out.2.2.1).2.1 (HT2.out w6 R6.out.2.2.1).2.2.1 (by rw [HLT1.out]; omega)).mono ?_; rw [HRK.out]; rintro e w7 ⟨rfl, b7⟩; have R7 : Hid (GJ w2 w7 G hs u6 vg' (k + 1) k) := R6.out.later b7; clear b7)
        | (refine wl_lit1 (.tmp 44) rfl rfl rk HRH.out rfl ?_; intro v8 w8 s8 b8; have R8 : Hid (GJ w2 w8 G hs u6 vg' (k + 1) k ∧ HIn w8 v8 [rk]) := ⟨R7.out.later b8, s8⟩; clear s8 b8)
        | (obtain ⟨v9, w9, hr9, o9, g9, l9⟩ := run_happend2 G u6 v8 (rts hs k) [rk] R8.out.1.2.1 R8.out.2 (by simp) (by rw [HRL.out]; simp; omega) (Nat.le_of_lt R8.out.1.1.2.1.lt); refine wl rfl _ _ (rx_append (.tmp 42) (.tmp 45) rfl u6 v8 v9 w9 rfl rfl hr9) ?_; rw [← HRS.out] at o9; have R9 : Hid (GI w2 w9 G hs v9 (k + 1)) := ⟨vg', R8.out.1.push o9 g9 l9⟩; clear hr9 o9 g9 l9)); try simp only [Act.put, List.setIfInBounds_toArray, List.set_cons_succ, List.set_cons_zero])
      exact ⟨⟨k + 1, by omega, by go_num, R9.out⟩, by simp [intOf]; omega⟩
    · have hlt' : ¬ (k : Int) < (N : Int) := by omega
      have HE : Hid (k = N) := by show _ = _; omega
      have HRV : Hid (HIn wr u6 (rts hs N) ∧ GrowAt wr G vg hs) := by
        have hv := HV.out
        have e : hs.take k = hs := List.take_of_length_le (by rw [HN.out, HE.out]; exact Nat.le_refl _)
        refine ⟨?_, ?_⟩
        · have := hv.2.1.hin
          rw [HE.out] at this
          exact this
        · have := hv.1
          rw [e] at this
          exact this
      have HRL : Hid ((rts hs N).length = N + 1) := rts_length hs N
      have HRA : Hid (∀ m, m ≤ N → (rts hs N).getD m [] = Tree.root (hs.take m) ∧ IsH (Tree.root (hs.take m))) := fun m hm => ⟨rts_at hs N m hm, (HAH.out.take m).root⟩
      generalize rts hs N = rt at HRV HRL HRA
      clear HV HT2 HE
      go_wp2_with ((first
        | (refine wl_lenN (.tmp 31) rfl rfl vl hs rfl HW.out.1 N HN.out ?_)); try simp only [Act.put, List.setIfInBounds_toArray, List.set_cons_succ, List.set_cons_zero])
      obtain ⟨w6, hw6⟩ : ∃ w6, w6 = wr := ⟨_, rfl⟩
      rw [← hw6] at HW HRV ⊢
      clear hw6
      go_loopw [8] (fun i W => ∃ a : Nat, a ≤ N + 1 ∧ i = .int .i64 (a : Nat) ∧ Below w6.heap.size w6 W) (fun i _ => N + 1 - (intOf i).toNat)
      case atStart => exact ⟨0, by omega, rfl, Below.refl _ _⟩
      case round =>
        obtain ⟨a, ha, rfl, hba⟩ := hrel
        have HBA : Hid (Below w6.heap.size w6 wr) := hba
        clear hba
        by_cases haN : a ≤ N
        · have haN' : (a : Int) ≤ (N : Int) := by omega
          go_wp2_with ((first
            | (refine wl_lenN (.tmp 48) rfl rfl vl hs rfl HW.out.1 N HN.out ?_)); try simp only [Act.put, List.setIfInBounds_toArray, List.set_cons_succ, List.set_cons_zero])
          obtain ⟨w7, hw7⟩ : ∃ w7, w7 = wr := ⟨_, rfl⟩
          rw [← hw7] at HBA ⊢
          clear hw7
          go_loopw [9] (fun i W => ∃ b : Nat, b ≤ a + 1 ∧ i = .int .i64 (b : Nat) ∧ Below w6.heap.size w6 W) (fun i _ => a + 1 - (intOf i).toNat)
          case atStart => exact ⟨0, by omega, rfl, HBA.out⟩
          case round =>
            clear HBA
            obtain ⟨b, hb, rfl, hbb⟩ := hrel
            have HBB : Hid (Below w6.heap.size w6 wr) := hbb
            clear hbb
            by_cases hba : b ≤ a
            · have hba' : (b : Int) ≤ (a : Int) := by omega
              have HOK : Hid (Tree.consOk (b : Nat) (a : Nat) (Tree.root (hs.take b)) (Tree.root (hs.take a)) (consAns (hs.take a) (b : Nat)) = true ∧ consErr (hs.take a) (b : Nat) = 0) := ⟨grows_cons hs a b hba (by rw [HN.out]; exact haN), grows_cerr hs a b hba (by rw [HN.out]; exact haN)⟩
              have HIK : Hid (b < a → Tree.inclOk (hs.getD b []) (b : Nat) (a : Nat) (inclAns (hs.take a) (b : Nat)) (Tree.root (hs.take a)) = true ∧ inclErr (hs.take a) (b : Nat) = 0 ∧ IsH (hs.getD b [])) := fun h => ⟨grows_incl hs a b h (by rw [HN.out]; exact haN), grows_ierr hs a b h (by rw [HN.out]; exact haN), HAH.out.at b (by rw [HN.out]; omega)⟩
              have HTL : Hid ((hs.take a).length ≤ 4398046511104) := by show _ ≤ _; rw [List.length_take]; omega
              obtain ⟨p1, q1, i1⟩ := run_hindex (HRV.out.1.later HBB.out) b (by rw [HRL.out]; omega)
              obtain ⟨p2, q2, i2⟩ := run_hindex (HRV.out.1.later HBB.out) a (by rw [HRL.out]; omega)
              rw [(HRA.out b (by omega)).1] at i1
              rw [(HRA.out a haN).1] at i2
              have HP1 : Hid ((∀ w', (Instr.indexAt 24 u6 (.int .i64 (b : Nat))).run Tryd.prog w' = .ok p1 w') ∧ HAt wr p1 (Tree.root (hs.take b))) := ⟨q1, i1⟩
              have HP2 : Hid ((∀ w', (Instr.indexAt 24 u6 (.int .i64 (a : Nat))).run Tryd.prog w' = .ok p2 w') ∧ HAt wr p2 (Tree.root (hs.take a))) := ⟨q2, i2⟩
              have HRB : Hid (IsH (Tree.root (hs.take b)) ∧ IsH (Tree.root (hs.take a))) := ⟨i1.1, i2.1⟩
              clear q1 i1 q2 i2
              generalize Tree.root (hs.take b) = rb at HOK HP1 HRB
              generalize Tree.root (hs.take a) = ra at HOK HIK HP2 HRB
              generalize hca : consAns (hs.take a) (b : Nat) = ca at HOK
              have HCA : Hid (consAns (hs.take a) (b : Nat) = ca) := hca
              clear hca
              have HHW : Hid (HIn wr vl hs ∧ TabIn wr ∧ StartIn wr) := ⟨HW.out.1.later HBB.out, HW.out.2.1.later HBB.out, HW.out.2.2.1.later HBB.out⟩
              go_wp2_with ((first
                | (refine wl_to (.tmp 59) (.tmp 60) rfl rfl vl hs rfl HHW.out.1 _ a rfl rfl (by rw [HN.out]; exact haN) ?_; intro vt svt; have SVT : Hid (HIn wr vt (hs.take a)) := svt; clear svt)
                | (go_at_call 13; refine (cons_any vt (hs.take a) (b : Nat) wr SVT.out HHW.out.2.1 HHW.out.2.2 HTL.out).mono ?_; rw [HOK.out.2, HCA.out]; rintro e w8 ⟨v8, rfl, o8, b8⟩; have R8 : Hid (HIn w8 v8 ca ∧ Below wr.heap.size wr w8) := ⟨o8.hin, b8⟩; clear o8 b8)); try simp only [Act.put, List.setIfInBounds_toArray, List.set_cons_succ, List.set_cons_zero])
              refine wp_region_held (S := fun X => Below w8.heap.size w8 X) (by kernel_rfl) ?_
              show wpAnyH _ _ _ _ _ 17 (Array.replicate 17 false) _ _
              have hS : Below w8.heap.size w8 { w8 with drawn := w8.drawn + 1 } := below_drawn w8 _
              have HA1 : Hid (∀ X, Below w8.heap.size w8 X → HAt X p1 rb ∧ HAt X p2 ra) := fun X hX => ⟨(HP1.out.2.later R8.out.2).later hX, (HP2.out.2.later R8.out.2).later hX⟩
              refine takeH (i := 0) (some 66) rfl rfl (by kernel_rfl) (by kernel_rfl) (by kernel_rfl) (fun _ _ _ h => h) (yMove rfl (.tmp 11) rfl (.int .i64 0) rfl) hS ?_
              simp only [Act.put, List.setIfInBounds_toArray, List.set_cons_succ, List.set_cons_zero]
              refine takeH (i := 1) (some 67) rfl rfl (by kernel_rfl) (by kernel_rfl) (by kernel_rfl) (fun _ _ _ h => h) (yNeI rfl (.tmp 66) (.const (.int .i64 0)) rfl 0 0 rfl rfl false (by decide)) hS ?_
              simp only [Act.put, List.setIfInBounds_toArray, List.set_cons_succ, List.set_cons_zero]
              refine takeH (i := 2) (some 68) rfl rfl (by kernel_rfl) (by kernel_rfl) (by kernel_rfl) (fun _ _ _ h => h) (yMove rfl (.tmp 67) rfl (.bool false) rfl) hS ?_
              simp only [Act.put, List.setIfInBounds_toArray, List.set_cons_succ, List.set_cons_zero]
              refine takeH (i := 3) (some 69) rfl rfl (by kernel_rfl) (by kernel_rfl) (by kernel_rfl) (fun _ _ _ h => h) (yMoveW rfl (.tmp 9) rfl (.int .i64 (b : Nat)) rfl) hS ?_
              simp only [Act.put, List.setIfInBounds_toArray, List.set_cons_succ, List.set_cons_zero]
              refine takeH (i := 4) (some 70) rfl rfl (by kernel_rfl) (by kernel_rfl) (by kernel_rfl) (fun _ _ _ h => h) (yMoveW rfl (.tmp 8) rfl (.int .i64 (a : Nat)) rfl) hS ?_
              simp only [Act.put, List.setIfInBounds_toArray, List.set_cons_succ, List.set_cons_zero]
              refine takeH (i := 5) (some 71) rfl rfl (by kernel_rfl) (by kernel_rfl) (by kernel_rfl) (fun _ _ _ h => h) (yMoveW rfl (.tmp 6) rfl (u6) rfl) hS ?_
              simp only [Act.put, List.setIfInBounds_toArray, List.set_cons_succ, List.set_cons_zero]
              refine takeH (i := 6) (some 72) rfl rfl (by kernel_rfl) (by kernel_rfl) (by kernel_rfl) (fun _ _ _ h => h) (yMoveW rfl (.tmp 9) rfl (.int .i64 (b : Nat)) rfl) hS ?_
              simp only [Act.put, List.setIfInBounds_toArray, List.set_cons_succ, List.set_cons_zero]
              refine takeH (i := 7) (some 73) rfl rfl (by kernel_rfl) (by kernel_rfl) (by kernel_rfl) (fun _ _ _ h => h) (yRunW rfl p1 (fun _ _ => rx_index (.tmp 71) (.tmp 72) rfl u6 p1 rfl _ rfl HP1.out.1)) hS ?_
              simp only [Act.put, List.setIfInBounds_toArray, List.set_cons_succ, List.set_cons_zero]
              refine takeH (i := 8) (some 74) rfl rfl (by kernel_rfl) (by kernel_rfl) (by kernel_rfl) (fun _ _ _ h => h) (yRunW rfl _ (fun X hX => rx_load (.tmp 73) rfl p1 rfl rb (HA1.out X hX).1)) hS ?_
              simp only [Act.put, List.setIfInBounds_toArray, List.set_cons_succ, List.set_cons_zero]
              refine takeH (i := 9) (some 75) rfl rfl (by kernel_rfl) (by kernel_rfl) (by kernel_rfl) (fun _ _ _ h => h) (yMoveW rfl (.tmp 6) rfl (u6) rfl) hS ?_
              simp only [Act.put, List.setIfInBounds_toArray, List.set_cons_succ, List.set_cons_zero]
              refine takeH (i := 10) (some 76) rfl rfl (by kernel_rfl) (by kernel_rfl) (by kernel_rfl) (fun _ _ _ h => h) (yMoveW rfl (.tmp 8) rfl (.int .i64 (a : Nat)) rfl) hS ?_
              simp only [Act.put, List.setIfInBounds_toArray, List.set_cons_succ, List.set_cons_zero]
              refine takeH (i := 11) (some 77) rfl rfl (by kernel_rfl) (by kernel_rfl) (by kernel_rfl) (fun _ _ _ h => h) (yRunW rfl p2 (fun _ _ => rx_index (.tmp 75) (.tmp 76) rfl u6 p2 rfl _ rfl HP2.out.1)) hS ?_
              simp only [Act.put, List.setIfInBounds_toArray, List.set_cons_succ, List.set_cons_zero]
              refine takeH (i := 12) (some 78) rfl rfl (by kernel_rfl) (by kernel_rfl) (by kernel_rfl) (fun _ _ _ h => h) (yRunW rfl _ (fun X hX => rx_load (.tmp 77) rfl p2 rfl ra (HA1.out X hX).2)) hS ?_
              simp only [Act.put, List.setIfInBounds_toArray, List.set_cons_succ, List.set_cons_zero]
              refine takeH (i := 13) (some 79) rfl rfl (by kernel_rfl) (by kernel_rfl) (by kernel_rfl) (fun _ _ _ h => h) (yMoveW rfl (.tmp 10) rfl (v8) rfl) hS ?_
              simp only [Act.put, List.setIfInBounds_toArray, List.set_cons_succ, List.set_cons_zero]
              refine oneH (i := 14) (by kernel_rfl) ?_
              refine opCallW (some 80) rfl rfl rfl 14 _ (run_call en14g [.tmp 69, .tmp 70, .tmp 74, .tmp 78, .tmp 79] _ rfl [.int .i64 (b : Nat), .int .i64 (a : Nat), hv rb, hv ra, v8] rfl) ?_
              refine (vcons_any rb ra (b : Nat) (a : Nat) v8 ca _ HRB.out.1 HRB.out.2 (R8.out.1.later hS) ((HHW.out.2.1.later R8.out.2).later hS) ((HHW.out.2.2.later R8.out.2).later hS) (by omega)).mono ?_
              rw [HOK.out.1]
              rintro e w9 ⟨rfl, b9⟩
              have hS9 : Below w8.heap.size w8 w9 := below_append hS b9
              refine ⟨_, rfl, hS9, ?_⟩
              clear hS b9
              simp only [Act.put, List.setIfInBounds_toArray, List.set_cons_succ, List.set_cons_zero]
              refine takeH (i := 15) (some 81) rfl rfl (by kernel_rfl) (by kernel_rfl) (by kernel_rfl) (fun _ _ _ h => h) (yNotW rfl (.tmp 80) rfl true rfl) hS9 ?_
              simp only [Act.put, List.setIfInBounds_toArray, List.set_cons_succ, List.set_cons_zero]
              refine takeH (i := 16) (some 82) rfl rfl (by kernel_rfl) (by kernel_rfl) (by kernel_rfl) (fun _ _ _ h => h) (yPickF rfl (.tmp 68) (.const (.bool true)) (.tmp 81) rfl rfl (.bool (!true)) rfl) hS9 ?_
              simp only [Act.put, List.setIfInBounds_toArray, List.set_cons_succ, List.set_cons_zero]
              refine wpAnyH_done (by kernel_rfl) ?_ _
              have R9 : Hid (Below w6.heap.size w6 w9 ∧ Below wr.heap.size wr w9) := ⟨below_append HBB.out (below_append R8.out.2 hS9), below_append R8.out.2 hS9⟩
              clear hS9
              by_cases hlta : b < a
              · have HLA : Hid (decide ((b : Int) = (a : Int)) = false) := decide_eq_false (by omega)
                obtain ⟨hi1, hi2, hi3⟩ := HIK.out hlta
                have HI1 : Hid (Tree.inclOk (hs.getD b []) (b : Nat) (a : Nat) (inclAns (hs.take a) (b : Nat)) ra = true) := hi1
                have HI2 : Hid (inclErr (hs.take a) (b : Nat) = 0) := hi2
                obtain ⟨p3, q3, i3⟩ := run_hindex (HHW.out.1.later R9.out.2) b (by rw [HN.out]; omega)
                have HP3 : Hid ((∀ w', (Instr.indexAt 24 vl (.int .i64 (b : Nat))).run Tryd.prog w' = .ok p3 w') ∧ HAt w9 p3 (hs.getD b [])) := ⟨q3, i3⟩
                have HX3 : Hid (IsH (hs.getD b [])) := hi3
                clear hi1 hi2 hi3 q3 i3 HIK
                generalize hs.getD b [] = x3 at HI1 HP3 HX3
                generalize hia : inclAns (hs.take a) (b : Nat) = ia at HI1
                have HIA : Hid (inclAns (hs.take a) (b : Nat) = ia) := hia
                clear hia
                go_wp2_with ((first
                  | (refine wl rfl _ w9 (rx_eqG (.tmp 83) (.tmp 84) rfl (b : Nat) (a : Nat) rfl rfl false HLA.out) ?_)
                  | (refine wl_to (.tmp 87) (.tmp 88) rfl rfl vl hs rfl (HHW.out.1.later R9.out.2) _ a rfl rfl (by rw [HN.out]; exact haN) ?_; intro vq svq; have SVQ : Hid (HIn w9 vq (hs.take a)) := svq; clear svq)
                  | (go_at_call 15; refine (incl_any vq (hs.take a) (b : Nat) w9 SVQ.out (HHW.out.2.1.later R9.out.2) (HHW.out.2.2.later R9.out.2) HTL.out).mono ?_; rw [HI2.out, HIA.out]; rintro e w10 ⟨v10, rfl, o10, b10⟩; have R10 : Hid (HIn w10 v10 ia ∧ Below w9.heap.size w9 w10) := ⟨o10.hin, b10⟩; clear o10 b10)); try simp only [Act.put, List.setIfInBounds_toArray, List.set_cons_succ, List.set_cons_zero])
                refine wp_region_held (S := fun X => Below w10.heap.size w10 X) (by kernel_rfl) ?_
                show wpAnyH _ _ _ _ _ 17 (Array.replicate 17 false) _ _
                have hS : Below w10.heap.size w10 { w10 with drawn := w10.drawn + 1 } := below_drawn w10 _
                have HA3 : Hid (∀ X, Below w10.heap.size w10 X → HAt X p3 x3 ∧ HAt X p2 ra ∧ TabIn X ∧ StartIn X) := fun X hX => ⟨(HP3.out.2.later R10.out.2).later hX, ((HP2.out.2.later R9.out.2).later R10.out.2).later hX, ((HHW.out.2.1.later R9.out.2).later R10.out.2).later hX, ((HHW.out.2.2.later R9.out.2).later R10.out.2).later hX⟩
                refine takeH (i := 0) (some 94) rfl rfl (by kernel_rfl) (by kernel_rfl) (by kernel_rfl) (fun _ _ _ h => h) (yMove rfl (.tmp 13) rfl (.int .i64 0) rfl) hS ?_
                simp only [Act.put, List.setIfInBounds_toArray, List.set_cons_succ, List.set_cons_zero]
                refine takeH (i := 1) (some 95) rfl rfl (by kernel_rfl) (by kernel_rfl) (by kernel_rfl) (fun _ _ _ h => h) (yNeI rfl (.tmp 94) (.const (.int .i64 0)) rfl 0 0 rfl rfl false (by decide)) hS ?_
                simp only [Act.put, List.setIfInBounds_toArray, List.set_cons_succ, List.set_cons_zero]
                refine takeH (i := 2) (some 96) rfl rfl (by kernel_rfl) (by kernel_rfl) (by kernel_rfl) (fun _ _ _ h => h) (yMove rfl (.tmp 95) rfl (.bool false) rfl) hS ?_
                simp only [Act.put, List.setIfInBounds_toArray, List.set_cons_succ, List.set_cons_zero]
                refine takeH (i := 3) (some 97) rfl rfl (by kernel_rfl) (by kernel_rfl) (by kernel_rfl) (fun _ _ _ h => h) (yMoveW rfl (.tmp 4) rfl (vl) rfl) hS ?_
                simp only [Act.put, List.setIfInBounds_toArray, List.set_cons_succ, List.set_cons_zero]
                refine takeH (i := 4) (some 98) rfl rfl (by kernel_rfl) (by kernel_rfl) (by kernel_rfl) (fun _ _ _ h => h) (yMoveW rfl (.tmp 9) rfl (.int .i64 (b : Nat)) rfl) hS ?_
                simp only [Act.put, List.setIfInBounds_toArray, List.set_cons_succ, List.set_cons_zero]
                refine takeH (i := 5) (some 99) rfl rfl (by kernel_rfl) (by kernel_rfl) (by kernel_rfl) (fun _ _ _ h => h) (yRunW rfl p3 (fun _ _ => rx_index (.tmp 97) (.tmp 98) rfl vl p3 rfl _ rfl HP3.out.1)) hS ?_
                simp only [Act.put, List.setIfInBounds_toArray, List.set_cons_succ, List.set_cons_zero]
                refine takeH (i := 6) (some 100) rfl rfl (by kernel_rfl) (by kernel_rfl) (by kernel_rfl) (fun _ _ _ h => h) (yRunW rfl _ (fun X hX => rx_load (.tmp 99) rfl p3 rfl x3 (HA3.out X hX).1)) hS ?_
                simp only [Act.put, List.setIfInBounds_toArray, List.set_cons_succ, List.set_cons_zero]
                refine takeH (i := 7) (some 101) rfl rfl (by kernel_rfl) (by kernel_rfl) (by kernel_rfl) (fun _ _ _ h => h) (yMoveW rfl (.tmp 9) rfl (.int .i64 (b : Nat)) rfl) hS ?_
                simp only [Act.put, List.setIfInBounds_toArray, List.set_cons_succ, List.set_cons_zero]
                refine takeH (i := 8) (some 102) rfl rfl (by kernel_rfl) (by kernel_rfl) (by kernel_rfl) (fun _ _ _ h => h) (yMoveW rfl (.tmp 8) rfl (.int .i64 (a : Nat)) rfl) hS ?_
                simp only [Act.put, List.setIfInBounds_toArray, List.set_cons_succ, List.set_cons_zero]
                refine takeH (i := 9) (some 103) rfl rfl (by kernel_rfl) (by kernel_rfl) (by kernel_rfl) (fun _ _ _ h => h) (yMoveW rfl (.tmp 12) rfl (v10) rfl) hS ?_
                simp only [Act.put, List.setIfInBounds_toArray, List.set_cons_succ, List.set_cons_zero]
                refine takeH (i := 10) (some 104) rfl rfl (by kernel_rfl) (by kernel_rfl) (by kernel_rfl) (fun _ _ _ h => h) (yMoveW rfl (.tmp 6) rfl (u6) rfl) hS ?_
                simp only [Act.put, List.setIfInBounds_toArray, List.set_cons_succ, List.set_cons_zero]
                refine takeH (i := 11) (some 105) rfl rfl (by kernel_rfl) (by kernel_rfl) (by kernel_rfl) (fun _ _ _ h => h) (yMoveW rfl (.tmp 8) rfl (.int .i64 (a : Nat)) rfl) hS ?_
                simp only [Act.put, List.setIfInBounds_toArray, List.set_cons_succ, List.set_cons_zero]
                refine takeH (i := 12) (some 106) rfl rfl (by kernel_rfl) (by kernel_rfl) (by kernel_rfl) (fun _ _ _ h => h) (yRunW rfl p2 (fun _ _ => rx_index (.tmp 104) (.tmp 105) rfl u6 p2 rfl _ rfl HP2.out.1)) hS ?_
                simp only [Act.put, List.setIfInBounds_toArray, List.set_cons_succ, List.set_cons_zero]
                refine takeH (i := 13) (some 107) rfl rfl (by kernel_rfl) (by kernel_rfl) (by kernel_rfl) (fun _ _ _ h => h) (yRunW rfl _ (fun X hX => rx_load (.tmp 106) rfl p2 rfl ra (HA3.out X hX).2.1)) hS ?_
                simp only [Act.put, List.setIfInBounds_toArray, List.set_cons_succ, List.set_cons_zero]
                refine oneH (i := 14) (by kernel_rfl) ?_
                refine opCallW (some 108) rfl rfl rfl 16 _ (run_call en16g [.tmp 100, .tmp 101, .tmp 102, .tmp 103, .tmp 107] _ rfl [hv x3, .int .i64 (b : Nat), .int .i64 (a : Nat), v10, hv ra] rfl) ?_
                refine (vincl_any x3 ra (b : Nat) (a : Nat) v10 ia _ HX3.out HRB.out.2 (R10.out.1.later hS) (HA3.out _ hS).2.2.1 (HA3.out _ hS).2.2.2 (by omega)).mono ?_
                rw [HI1.out]
                rintro e w11 ⟨rfl, b11⟩
                have hS11 : Below w10.heap.size w10 w11 := below_append hS b11
                refine ⟨_, rfl, hS11, ?_⟩
                clear hS b11
                simp only [Act.put, List.setIfInBounds_toArray, List.set_cons_succ, List.set_cons_zero]
                refine takeH (i := 15) (some 109) rfl rfl (by kernel_rfl) (by kernel_rfl) (by kernel_rfl) (fun _ _ _ h => h) (yNotW rfl (.tmp 108) rfl true rfl) hS11 ?_
                simp only [Act.put, List.setIfInBounds_toArray, List.set_cons_succ, List.set_cons_zero]
                refine takeH (i := 16) (some 110) rfl rfl (by kernel_rfl) (by kernel_rfl) (by kernel_rfl) (fun _ _ _ h => h) (yPickF rfl (.tmp 96) (.const (.bool true)) (.tmp 109) rfl rfl (.bool (!true)) rfl) hS11 ?_
                simp only [Act.put, List.setIfInBounds_toArray, List.set_cons_succ, List.set_cons_zero]
                refine wpAnyH_done (by kernel_rfl) ?_ _
                have R11 : Hid (Below w6.heap.size w6 w11) := below_append R9.out.1 (below_append R10.out.2 hS11)
                clear hS11
                go_wp2_with fail
                exact ⟨⟨b + 1, by omega, by go_num, R11.out⟩, by simp [intOf]; omega⟩
              · have HLA : Hid (decide ((b : Int) = (a : Int)) = true) := decide_eq_true (by omega)
                go_wp2_with ((first
                  | (refine wl rfl _ w9 (rx_eqG (.tmp 83) (.tmp 84) rfl (b : Nat) (a : Nat) rfl rfl true HLA.out) ?_)); try simp only [Act.put, List.setIfInBounds_toArray, List.set_cons_succ, List.set_cons_zero])
                exact ⟨⟨b + 1, by omega, by go_num, R9.out.1⟩, by simp [intOf]; omega⟩
            · have hba' : ¬ (b : Int) ≤ (a : Int) := by omega
              go_wp2_with fail
              exact ⟨⟨a + 1, by omega, by go_num, HBB.out⟩, by simp [intOf]; omega⟩
        · have haN' : ¬ (a : Int) ≤ (N : Int) := by omega
          go_wp2_with ((first
            | (refine wl_lenN (.tmp 48) rfl rfl vl hs rfl HW.out.1 N HN.out ?_)
            | (go_at_call 17; refine (growSize_any G vg hs wr (HRV.out.2.below HBA.out)).mono ?_; rw [HN.out]; rintro e w' ⟨rfl, rfl⟩)
            | (refine wl_lenN (.tmp 115) rfl rfl vl hs rfl HW.out.1 N HN.out ?_)); try simp only [Act.put, List.setIfInBounds_toArray, List.set_cons_succ, List.set_cons_zero])
          go_ret
          exact ⟨rfl, below_append HW.out.2.2.2 HBA.out⟩
set_option maxHeartbeats 16000000 in
set_option maxRecDepth 100000 in
theorem grows_gt (v : Value) (L : List (List Nat)) (w : World) (h : ListIn w v L) (ht : TabIn w) (hst : StartIn w) (hsz : L.length * 24 ≤ 140737488355328) (hL : ∀ c ∈ L, c.length + 1024 ≤ 140737488355328) (hM : 24 < L.length) :
    Calls Tryd.prog 3 #[v] w fun e w' => e = .returned (.bool true) ∧ Below w.heap.size w w' := by
  have h1lt := ht.lt
  obtain ⟨M, hM'⟩ : ∃ M, L.length = M := ⟨_, rfl⟩
  have HLM : Hid ((L.map Tree.leaf).length = M) := by rw [List.length_map]; exact hM'
  rw [hM'] at hM
  have HSZ : Hid (L.length * 24 ≤ 140737488355328 ∧ ∀ c ∈ L, c.length + 1024 ≤ 140737488355328) := ⟨hsz, hL⟩
  have hgt : (24 : Int) < (M : Int) := by omega
  have HAH : Hid (AllH ((L.map Tree.leaf).take 24)) := AllH.take (fun x hx => by obtain ⟨c, _, rfl⟩ := List.mem_map.1 hx; exact leaf_isH c) 24
  obtain ⟨hs, hhs⟩ : ∃ hs, (L.map Tree.leaf).take 24 = hs := ⟨_, rfl⟩
  obtain ⟨N, hN⟩ : ∃ N, hs.length = N := ⟨_, rfl⟩
  have hN24 : N ≤ 24 := by rw [← hN, ← hhs, List.length_take]; omega
  have HN : Hid (hs.length = N) := hN
  have HHS : Hid ((L.map Tree.leaf).take 24 = hs) := hhs
  rw [hhs] at HAH
  clear hM' hsz hL hhs hN
  go_enter Tryd.func3, Tryd.ntmps3
  go_wp2_with ((first
    | (go_at_call 8; refine (shown_any w ht hst).mono ?_; rintro e w1 ⟨rfl, b1⟩; have R1 : Hid (Below w.heap.size w w1) := b1; clear b1)
    | (go_at_call 9; refine (leavesF_any v L w1 (h.later R1.out) HSZ.out.1 HSZ.out.2).mono ?_; rintro e w2 ⟨vl, rfl, o2, b2⟩; have R2 : Hid (HIn w2 vl (L.map Tree.leaf) ∧ Below w.heap.size w w2) := ⟨o2.hin, below_append R1.out b2⟩; clear o2 b2)
    | (refine wl_lenN (.tmp 19) rfl rfl vl (L.map Tree.leaf) rfl R2.out.1 M HLM.out ?_)
    | (refine wl_to (.tmp 22) (.const (.int .i64 24)) rfl rfl vl (L.map Tree.leaf) rfl R2.out.1 _ 24 rfl rfl (by rw [HLM.out]; omega) ?_; intro vh hv; rw [HHS.out] at hv; have RH : Hid (HIn w2 vh hs) := hv; clear hv)
    | (go_at_call 10; refine (newGrow_any w2).mono ?_; rintro e w3 ⟨rfl, g3, b3⟩; obtain ⟨G, hG⟩ : ∃ G, G = w2.heap.size := ⟨_, rfl⟩; rw [← hG] at g3 b3 ⊢; have R3 : Hid (GrowAt w3 G (.slice none 0 0) [] ∧ Below G w2 w3 ∧ G = w2.heap.size) := ⟨g3, b3, hG⟩; clear g3 b3 hG)); try simp only [Act.put, List.setIfInBounds_toArray, List.set_cons_succ, List.set_cons_zero])
  have R2' : Hid (HIn w2 vh hs ∧ Below w.heap.size w w2) := ⟨RH.out, R2.out.2⟩
  have HT2 : Hid (∀ W, Below G w2 W → HIn W vh hs ∧ TabIn W ∧ StartIn W ∧ Below w.heap.size w W) := fun W hW => by
    have hW' : Below w2.heap.size w2 W := R3.out.2.2 ▸ hW
    exact ⟨R2'.out.1.later hW', (ht.later R2'.out.2).later hW', (hst.later R2'.out.2).later hW', below_append R2'.out.2 hW'⟩
  have HG1 : Hid (1 < G) := by have := R2'.out.2.size; have := R3.out.2.2; show _ < _; omega
  have R3' : Hid (GrowAt w3 G (.slice none 0 0) [] ∧ Below G w2 w3) := ⟨R3.out.1, R3.out.2.1⟩
  clear R1 R2 R2' R3 RH
  refine (growRoot_any G (.slice none 0 0) [] w3 R3'.out.1 (HT2.out w3 R3'.out.2).2.1 (HT2.out w3 R3'.out.2).2.2.1 (by decide)).mono ?_
  rintro e w4 ⟨rfl, b4⟩
  have R4 : Hid (GrowAt w4 G (.slice none 0 0) [] ∧ Below G w2 w4) := ⟨R3'.out.1.below b4, R3'.out.2.trans (b4.mono (Nat.le_of_lt R3'.out.1.2.1.lt))⟩
  have HRN : Hid (IsH (Tree.root [])) := AllH.nil.root
  have HRZ : Hid (rts hs 0 = [Tree.root []]) := rts_zero hs
  generalize Tree.root [] = rn at HRN HRZ ⊢
  clear b4 R3'
  go_wp2_with ((first
    | (refine wl_lit1g (.tmp 28) rfl rfl rn HRN.out rfl G (Nat.le_of_lt R4.out.1.2.1.lt) ?_; intro v5 w5 o5 k5 b5; rw [← HRZ.out] at o5; have R5 : Hid (GI w2 w5 G hs v5 0) := ⟨.slice none 0 0, by rw [List.take_zero]; exact R4.out.1.below b5, o5, R4.out.2.trans (b5.mono (Nat.le_of_lt R4.out.1.2.1.lt)), (fun k hk => by cases hk), fun k hk => ⟨(by rw [k5] at hk; injection hk with hk; have := R4.out.1.2.1.lt; omega), (by intro e; cases e)⟩⟩; clear o5 k5 b5)); try simp only [Act.put, List.setIfInBounds_toArray, List.set_cons_succ, List.set_cons_zero])
  clear R4
  go_loopw [6, 7] (fun x i W => ∃ k : Nat, k ≤ N ∧ i = .int .i64 (k : Nat) ∧ GI w2 W G hs x k) (fun _ i _ => N - (intOf i).toNat)
  case atStart => exact ⟨0, Nat.zero_le _, rfl, R5.out⟩
  case round =>
    clear R5
    obtain ⟨k, hk, rfl, vg, hgi⟩ := hrel
    have HV : Hid (GJ w2 wr G hs u6 vg k k) := hgi
    have HW : Hid (HIn wr vh hs ∧ TabIn wr ∧ StartIn wr ∧ Below w.heap.size w wr) := HT2.out wr hgi.2.2.1
    clear hgi
    by_cases hlt : k < N
    · have hlt' : (k : Int) < (N : Int) := by omega
      have HX : Hid (IsH (hs.getD k []) ∧ hs.take (k + 1) = hs.take k ++ [hs.getD k []]) := by
        have hml : k < hs.length := by have := HN.out; omega
        refine ⟨HAH.out.at k hml, ?_⟩
        rw [List.take_succ_eq_append_getElem hml]
        simp [hml]
      generalize hx : hs.getD k [] = x at HX
      have HXE : Hid (hs.getD k [] = x) := hx
      have HLT : Hid ((hs.take k).length = k) := by show _ = _; rw [List.length_take, HN.out]; omega
      have HLT1 : Hid ((hs.take (k + 1)).length = k + 1) := by show _ = _; rw [List.length_take, HN.out]; omega
      have HRS : Hid (rts hs (k + 1) = rts hs k ++ [Tree.root (hs.take (k + 1))]) := rts_succ hs k
      have HRH : Hid (IsH (Tree.root (hs.take (k + 1)))) := (HAH.out.take (k + 1)).root
      have HRL : Hid ((rts hs k).length = k + 1) := rts_length hs k
      generalize hrk : Tree.root (hs.take (k + 1)) = rk at HRS HRH
      have HRK : Hid (Tree.root (hs.take (k + 1)) = rk) := hrk
      clear hx hrk
      go_wp2_with ((first
        | (refine wl_lenN (.tmp 31) rfl rfl vh hs rfl HW.out.1 N HN.out ?_)
        | (refine wl_index (.tmp 37) (.tmp 38) rfl rfl vh hs rfl HW.out.1 _ k rfl rfl (by rw [HN.out]; exact hlt) ?_; intro p hp; rw [HXE.out] at hp; have HP : Hid (HAt wr p x) := hp; clear hp)
        | (refine wl_load (.tmp 39) rfl rfl p rfl x HP.out ?_)
        | (go_at_call 12; refine (add_any G vg (hs.take k) x wr HV.out.1 HX.out.1 HW.out.2.1 HW.out.2.2.1 HG1.out (by rw [HLT.out]; omega)).mono ?_; rintro e w6 ⟨rfl, vg', g6, k6, l6⟩; have R6 : Hid (GJ w2 w6 G hs u6 vg' (k + 1) k) := HV.out.add x HX.out.2 g6 k6 l6; clear g6 k6 l6)
        | (go_at_call 11; refine (growRoot_any G vg' (hs.take (k + 1)) w6 R6.out.1 (HT2.out w6 R6.out.2.2.1).2.1 (HT2.out w6 R6.out.2.2.1).2.2.1 (by rw [HLT1.out]; omega)).mono ?_; rw [HRK.out]; rintro e w7 ⟨rfl, b7⟩; have R7 : Hid (GJ w2 w7 G hs u6 vg' (k + 1) k) := R6.out.later b7; clear b7)
        | (refine wl_lit1 (.tmp 44) rfl rfl rk HRH.out rfl ?_; intro v8 w8 s8 b8; have R8 : Hid (GJ w2 w8 G hs u6 vg' (k + 1) k ∧ HIn w8 v8 [rk]) := ⟨R7.out.later b8, s8⟩; clear s8 b8)
        | (obtain ⟨v9, w9, hr9, o9, g9, l9⟩ := run_happend2 G u6 v8 (rts hs k) [rk] R8.out.1.2.1 R8.out.2 (by simp) (by rw [HRL.out]; simp; omega) (Nat.le_of_lt R8.out.1.1.2.1.lt); refine wl rfl _ _ (rx_append (.tmp 42) (.tmp 45) rfl u6 v8 v9 w9 rfl rfl hr9) ?_; rw [← HRS.out] at o9; have R9 : Hid (GI w2 w9 G hs v9 (k + 1)) := ⟨vg', R8.out.1.push o9 g9 l9⟩; clear hr9 o9 g9 l9)); try simp only [Act.put, List.setIfInBounds_toArray, List.set_cons_succ, List.set_cons_zero])
      exact ⟨⟨k + 1, by omega, by go_num, R9.out⟩, by simp [intOf]; omega⟩
    · have hlt' : ¬ (k : Int) < (N : Int) := by omega
      have HE : Hid (k = N) := by show _ = _; omega
      have HRV : Hid (HIn wr u6 (rts hs N) ∧ GrowAt wr G vg hs) := by
        have hv := HV.out
        have e : hs.take k = hs := List.take_of_length_le (by rw [HN.out, HE.out]; exact Nat.le_refl _)
        refine ⟨?_, ?_⟩
        · have := hv.2.1.hin
          rw [HE.out] at this
          exact this
        · have := hv.1
          rw [e] at this
          exact this
      have HRL : Hid ((rts hs N).length = N + 1) := rts_length hs N
      have HRA : Hid (∀ m, m ≤ N → (rts hs N).getD m [] = Tree.root (hs.take m) ∧ IsH (Tree.root (hs.take m))) := fun m hm => ⟨rts_at hs N m hm, (HAH.out.take m).root⟩
      generalize rts hs N = rt at HRV HRL HRA
      clear HV HT2 HE
      go_wp2_with ((first
        | (refine wl_lenN (.tmp 31) rfl rfl vh hs rfl HW.out.1 N HN.out ?_)); try simp only [Act.put, List.setIfInBounds_toArray, List.set_cons_succ, List.set_cons_zero])
      obtain ⟨w6, hw6⟩ : ∃ w6, w6 = wr := ⟨_, rfl⟩
      rw [← hw6] at HW HRV ⊢
      clear hw6
      go_loopw [8] (fun i W => ∃ a : Nat, a ≤ N + 1 ∧ i = .int .i64 (a : Nat) ∧ Below w6.heap.size w6 W) (fun i _ => N + 1 - (intOf i).toNat)
      case atStart => exact ⟨0, by omega, rfl, Below.refl _ _⟩
      case round =>
        obtain ⟨a, ha, rfl, hba⟩ := hrel
        have HBA : Hid (Below w6.heap.size w6 wr) := hba
        clear hba
        by_cases haN : a ≤ N
        · have haN' : (a : Int) ≤ (N : Int) := by omega
          go_wp2_with ((first
            | (refine wl_lenN (.tmp 48) rfl rfl vh hs rfl HW.out.1 N HN.out ?_)); try simp only [Act.put, List.setIfInBounds_toArray, List.set_cons_succ, List.set_cons_zero])
          obtain ⟨w7, hw7⟩ : ∃ w7, w7 = wr := ⟨_, rfl⟩
          rw [← hw7] at HBA ⊢
          clear hw7
          go_loopw [9] (fun i W => ∃ b : Nat, b ≤ a + 1 ∧ i = .int .i64 (b : Nat) ∧ Below w6.heap.size w6 W) (fun i _ => a + 1 - (intOf i).toNat)
          case atStart => exact ⟨0, by omega, rfl, HBA.out⟩
          case round =>
            clear HBA
            obtain ⟨b, hb, rfl, hbb⟩ := hrel
            have HBB : Hid (Below w6.heap.size w6 wr) := hbb
            clear hbb
            by_cases hba : b ≤ a
            · have hba' : (b : Int) ≤ (a : Int) := by omega
              have HOK : Hid (Tree.consOk (b : Nat) (a : Nat) (Tree.root (hs.take b)) (Tree.root (hs.take a)) (consAns (hs.take a) (b : Nat)) = true ∧ consErr (hs.take a) (b : Nat) = 0) := ⟨grows_cons hs a b hba (by rw [HN.out]; exact haN), grows_cerr hs a b hba (by rw [HN.out]; exact haN)⟩
              have HIK : Hid (b < a → Tree.inclOk (hs.getD b []) (b : Nat) (a : Nat) (inclAns (hs.take a) (b : Nat)) (Tree.root (hs.take a)) = true ∧ inclErr (hs.take a) (b : Nat) = 0 ∧ IsH (hs.getD b [])) := fun h => ⟨grows_incl hs a b h (by rw [HN.out]; exact haN), grows_ierr hs a b h (by rw [HN.out]; exact haN), HAH.out.at b (by rw [HN.out]; omega)⟩
              have HTL : Hid ((hs.take a).length ≤ 4398046511104) := by show _ ≤ _; rw [List.length_take]; omega
              obtain ⟨p1, q1, i1⟩ := run_hindex (HRV.out.1.later HBB.out) b (by rw [HRL.out]; omega)
              obtain ⟨p2, q2, i2⟩ := run_hindex (HRV.out.1.later HBB.out) a (by rw [HRL.out]; omega)
              rw [(HRA.out b (by omega)).1] at i1
              rw [(HRA.out a haN).1] at i2
              have HP1 : Hid ((∀ w', (Instr.indexAt 24 u6 (.int .i64 (b : Nat))).run Tryd.prog w' = .ok p1 w') ∧ HAt wr p1 (Tree.root (hs.take b))) := ⟨q1, i1⟩
              have HP2 : Hid ((∀ w', (Instr.indexAt 24 u6 (.int .i64 (a : Nat))).run Tryd.prog w' = .ok p2 w') ∧ HAt wr p2 (Tree.root (hs.take a))) := ⟨q2, i2⟩
              have HRB : Hid (IsH (Tree.root (hs.take b)) ∧ IsH (Tree.root (hs.take a))) := ⟨i1.1, i2.1⟩
              clear q1 i1 q2 i2
              generalize Tree.root (hs.take b) = rb at HOK HP1 HRB
              generalize Tree.root (hs.take a) = ra at HOK HIK HP2 HRB
              generalize hca : consAns (hs.take a) (b : Nat) = ca at HOK
              have HCA : Hid (consAns (hs.take a) (b : Nat) = ca) := hca
              clear hca
              have HHW : Hid (HIn wr vh hs ∧ TabIn wr ∧ StartIn wr) := ⟨HW.out.1.later HBB.out, HW.out.2.1.later HBB.out, HW.out.2.2.1.later HBB.out⟩
              go_wp2_with ((first
                | (refine wl_to (.tmp 59) (.tmp 60) rfl rfl vh hs rfl HHW.out.1 _ a rfl rfl (by rw [HN.out]; exact haN) ?_; intro vt svt; have SVT : Hid (HIn wr vt (hs.take a)) := svt; clear svt)
                | (go_at_call 13; refine (cons_any vt (hs.take a) (b : Nat) wr SVT.out HHW.out.2.1 HHW.out.2.2 HTL.out).mono ?_; rw [HOK.out.2, HCA.out]; rintro e w8 ⟨v8, rfl, o8, b8⟩; have R8 : Hid (HIn w8 v8 ca ∧ Below wr.heap.size wr w8) := ⟨o8.hin, b8⟩; clear o8 b8)); try simp only [Act.put, List.setIfInBounds_toArray, List.set_cons_succ, List.set_cons_zero])
              refine wp_region_held (S := fun X => Below w8.heap.size w8 X) (by kernel_rfl) ?_
              show wpAnyH _ _ _ _ _ 17 (Array.replicate 17 false) _ _
              have hS : Below w8.heap.size w8 { w8 with drawn := w8.drawn + 1 } := below_drawn w8 _
              have HA1 : Hid (∀ X, Below w8.heap.size w8 X → HAt X p1 rb ∧ HAt X p2 ra) := fun X hX => ⟨(HP1.out.2.later R8.out.2).later hX, (HP2.out.2.later R8.out.2).later hX⟩
              refine takeH (i := 0) (some 66) rfl rfl (by kernel_rfl) (by kernel_rfl) (by kernel_rfl) (fun _ _ _ h => h) (yMove rfl (.tmp 11) rfl (.int .i64 0) rfl) hS ?_
              simp only [Act.put, List.setIfInBounds_toArray, List.set_cons_succ, List.set_cons_zero]
              refine takeH (i := 1) (some 67) rfl rfl (by kernel_rfl) (by kernel_rfl) (by kernel_rfl) (fun _ _ _ h => h) (yNeI rfl (.tmp 66) (.const (.int .i64 0)) rfl 0 0 rfl rfl false (by decide)) hS ?_
              simp only [Act.put, List.setIfInBounds_toArray, List.set_cons_succ, List.set_cons_zero]
              refine takeH (i := 2) (some 68) rfl rfl (by kernel_rfl) (by kernel_rfl) (by kernel_rfl) (fun _ _ _ h => h) (yMove rfl (.tmp 67) rfl (.bool false) rfl) hS ?_
              simp only [Act.put, List.setIfInBounds_toArray, List.set_cons_succ, List.set_cons_zero]
              refine takeH (i := 3) (some 69) rfl rfl (by kernel_rfl) (by kernel_rfl) (by kernel_rfl) (fun _ _ _ h => h) (yMoveW rfl (.tmp 9) rfl (.int .i64 (b : Nat)) rfl) hS ?_
              simp only [Act.put, List.setIfInBounds_toArray, List.set_cons_succ, List.set_cons_zero]
              refine takeH (i := 4) (some 70) rfl rfl (by kernel_rfl) (by kernel_rfl) (by kernel_rfl) (fun _ _ _ h => h) (yMoveW rfl (.tmp 8) rfl (.int .i64 (a : Nat)) rfl) hS ?_
              simp only [Act.put, List.setIfInBounds_toArray, List.set_cons_succ, List.set_cons_zero]
              refine takeH (i := 5) (some 71) rfl rfl (by kernel_rfl) (by kernel_rfl) (by kernel_rfl) (fun _ _ _ h => h) (yMoveW rfl (.tmp 6) rfl (u6) rfl) hS ?_
              simp only [Act.put, List.setIfInBounds_toArray, List.set_cons_succ, List.set_cons_zero]
              refine takeH (i := 6) (some 72) rfl rfl (by kernel_rfl) (by kernel_rfl) (by kernel_rfl) (fun _ _ _ h => h) (yMoveW rfl (.tmp 9) rfl (.int .i64 (b : Nat)) rfl) hS ?_
              simp only [Act.put, List.setIfInBounds_toArray, List.set_cons_succ, List.set_cons_zero]
              refine takeH (i := 7) (some 73) rfl rfl (by kernel_rfl) (by kernel_rfl) (by kernel_rfl) (fun _ _ _ h => h) (yRunW rfl p1 (fun _ _ => rx_index (.tmp 71) (.tmp 72) rfl u6 p1 rfl _ rfl HP1.out.1)) hS ?_
              simp only [Act.put, List.setIfInBounds_toArray, List.set_cons_succ, List.set_cons_zero]
              refine takeH (i := 8) (some 74) rfl rfl (by kernel_rfl) (by kernel_rfl) (by kernel_rfl) (fun _ _ _ h => h) (yRunW rfl _ (fun X hX => rx_load (.tmp 73) rfl p1 rfl rb (HA1.out X hX).1)) hS ?_
              simp only [Act.put, List.setIfInBounds_toArray, List.set_cons_succ, List.set_cons_zero]
              refine takeH (i := 9) (some 75) rfl rfl (by kernel_rfl) (by kernel_rfl) (by kernel_rfl) (fun _ _ _ h => h) (yMoveW rfl (.tmp 6) rfl (u6) rfl) hS ?_
              simp only [Act.put, List.setIfInBounds_toArray, List.set_cons_succ, List.set_cons_zero]
              refine takeH (i := 10) (some 76) rfl rfl (by kernel_rfl) (by kernel_rfl) (by kernel_rfl) (fun _ _ _ h => h) (yMoveW rfl (.tmp 8) rfl (.int .i64 (a : Nat)) rfl) hS ?_
              simp only [Act.put, List.setIfInBounds_toArray, List.set_cons_succ, List.set_cons_zero]
              refine takeH (i := 11) (some 77) rfl rfl (by kernel_rfl) (by kernel_rfl) (by kernel_rfl) (fun _ _ _ h => h) (yRunW rfl p2 (fun _ _ => rx_index (.tmp 75) (.tmp 76) rfl u6 p2 rfl _ rfl HP2.out.1)) hS ?_
              simp only [Act.put, List.setIfInBounds_toArray, List.set_cons_succ, List.set_cons_zero]
              refine takeH (i := 12) (some 78) rfl rfl (by kernel_rfl) (by kernel_rfl) (by kernel_rfl) (fun _ _ _ h => h) (yRunW rfl _ (fun X hX => rx_load (.tmp 77) rfl p2 rfl ra (HA1.out X hX).2)) hS ?_
              simp only [Act.put, List.setIfInBounds_toArray, List.set_cons_succ, List.set_cons_zero]
              refine takeH (i := 13) (some 79) rfl rfl (by kernel_rfl) (by kernel_rfl) (by kernel_rfl) (fun _ _ _ h => h) (yMoveW rfl (.tmp 10) rfl (v8) rfl) hS ?_
              simp only [Act.put, List.setIfInBounds_toArray, List.set_cons_succ, List.set_cons_zero]
              refine oneH (i := 14) (by kernel_rfl) ?_
              refine opCallW (some 80) rfl rfl rfl 14 _ (run_call en14g [.tmp 69, .tmp 70, .tmp 74, .tmp 78, .tmp 79] _ rfl [.int .i64 (b : Nat), .int .i64 (a : Nat), hv rb, hv ra, v8] rfl) ?_
              refine (vcons_any rb ra (b : Nat) (a : Nat) v8 ca _ HRB.out.1 HRB.out.2 (R8.out.1.later hS) ((HHW.out.2.1.later R8.out.2).later hS) ((HHW.out.2.2.later R8.out.2).later hS) (by omega)).mono ?_
              rw [HOK.out.1]
              rintro e w9 ⟨rfl, b9⟩
              have hS9 : Below w8.heap.size w8 w9 := below_append hS b9
              refine ⟨_, rfl, hS9, ?_⟩
              clear hS b9
              simp only [Act.put, List.setIfInBounds_toArray, List.set_cons_succ, List.set_cons_zero]
              refine takeH (i := 15) (some 81) rfl rfl (by kernel_rfl) (by kernel_rfl) (by kernel_rfl) (fun _ _ _ h => h) (yNotW rfl (.tmp 80) rfl true rfl) hS9 ?_
              simp only [Act.put, List.setIfInBounds_toArray, List.set_cons_succ, List.set_cons_zero]
              refine takeH (i := 16) (some 82) rfl rfl (by kernel_rfl) (by kernel_rfl) (by kernel_rfl) (fun _ _ _ h => h) (yPickF rfl (.tmp 68) (.const (.bool true)) (.tmp 81) rfl rfl (.bool (!true)) rfl) hS9 ?_
              simp only [Act.put, List.setIfInBounds_toArray, List.set_cons_succ, List.set_cons_zero]
              refine wpAnyH_done (by kernel_rfl) ?_ _
              have R9 : Hid (Below w6.heap.size w6 w9 ∧ Below wr.heap.size wr w9) := ⟨below_append HBB.out (below_append R8.out.2 hS9), below_append R8.out.2 hS9⟩
              clear hS9
              by_cases hlta : b < a
              · have HLA : Hid (decide ((b : Int) = (a : Int)) = false) := decide_eq_false (by omega)
                obtain ⟨hi1, hi2, hi3⟩ := HIK.out hlta
                have HI1 : Hid (Tree.inclOk (hs.getD b []) (b : Nat) (a : Nat) (inclAns (hs.take a) (b : Nat)) ra = true) := hi1
                have HI2 : Hid (inclErr (hs.take a) (b : Nat) = 0) := hi2
                obtain ⟨p3, q3, i3⟩ := run_hindex (HHW.out.1.later R9.out.2) b (by rw [HN.out]; omega)
                have HP3 : Hid ((∀ w', (Instr.indexAt 24 vh (.int .i64 (b : Nat))).run Tryd.prog w' = .ok p3 w') ∧ HAt w9 p3 (hs.getD b [])) := ⟨q3, i3⟩
                have HX3 : Hid (IsH (hs.getD b [])) := hi3
                clear hi1 hi2 hi3 q3 i3 HIK
                generalize hs.getD b [] = x3 at HI1 HP3 HX3
                generalize hia : inclAns (hs.take a) (b : Nat) = ia at HI1
                have HIA : Hid (inclAns (hs.take a) (b : Nat) = ia) := hia
                clear hia
                go_wp2_with ((first
                  | (refine wl rfl _ w9 (rx_eqG (.tmp 83) (.tmp 84) rfl (b : Nat) (a : Nat) rfl rfl false HLA.out) ?_)
                  | (refine wl_to (.tmp 87) (.tmp 88) rfl rfl vh hs rfl (HHW.out.1.later R9.out.2) _ a rfl rfl (by rw [HN.out]; exact haN) ?_; intro vq svq; have SVQ : Hid (HIn w9 vq (hs.take a)) := svq; clear svq)
                  | (go_at_call 15; refine (incl_any vq (hs.take a) (b : Nat) w9 SVQ.out (HHW.out.2.1.later R9.out.2) (HHW.out.2.2.later R9.out.2) HTL.out).mono ?_; rw [HI2.out, HIA.out]; rintro e w10 ⟨v10, rfl, o10, b10⟩; have R10 : Hid (HIn w10 v10 ia ∧ Below w9.heap.size w9 w10) := ⟨o10.hin, b10⟩; clear o10 b10)); try simp only [Act.put, List.setIfInBounds_toArray, List.set_cons_succ, List.set_cons_zero])
                refine wp_region_held (S := fun X => Below w10.heap.size w10 X) (by kernel_rfl) ?_
                show wpAnyH _ _ _ _ _ 17 (Array.replicate 17 false) _ _
                have hS : Below w10.heap.size w10 { w10 with drawn := w10.drawn + 1 } := below_drawn w10 _
                have HA3 : Hid (∀ X, Below w10.heap.size w10 X → HAt X p3 x3 ∧ HAt X p2 ra ∧ TabIn X ∧ StartIn X) := fun X hX => ⟨(HP3.out.2.later R10.out.2).later hX, ((HP2.out.2.later R9.out.2).later R10.out.2).later hX, ((HHW.out.2.1.later R9.out.2).later R10.out.2).later hX, ((HHW.out.2.2.later R9.out.2).later R10.out.2).later hX⟩
                refine takeH (i := 0) (some 94) rfl rfl (by kernel_rfl) (by kernel_rfl) (by kernel_rfl) (fun _ _ _ h => h) (yMove rfl (.tmp 13) rfl (.int .i64 0) rfl) hS ?_
                simp only [Act.put, List.setIfInBounds_toArray, List.set_cons_succ, List.set_cons_zero]
                refine takeH (i := 1) (some 95) rfl rfl (by kernel_rfl) (by kernel_rfl) (by kernel_rfl) (fun _ _ _ h => h) (yNeI rfl (.tmp 94) (.const (.int .i64 0)) rfl 0 0 rfl rfl false (by decide)) hS ?_
                simp only [Act.put, List.setIfInBounds_toArray, List.set_cons_succ, List.set_cons_zero]
                refine takeH (i := 2) (some 96) rfl rfl (by kernel_rfl) (by kernel_rfl) (by kernel_rfl) (fun _ _ _ h => h) (yMove rfl (.tmp 95) rfl (.bool false) rfl) hS ?_
                simp only [Act.put, List.setIfInBounds_toArray, List.set_cons_succ, List.set_cons_zero]
                refine takeH (i := 3) (some 97) rfl rfl (by kernel_rfl) (by kernel_rfl) (by kernel_rfl) (fun _ _ _ h => h) (yMoveW rfl (.tmp 4) rfl (vh) rfl) hS ?_
                simp only [Act.put, List.setIfInBounds_toArray, List.set_cons_succ, List.set_cons_zero]
                refine takeH (i := 4) (some 98) rfl rfl (by kernel_rfl) (by kernel_rfl) (by kernel_rfl) (fun _ _ _ h => h) (yMoveW rfl (.tmp 9) rfl (.int .i64 (b : Nat)) rfl) hS ?_
                simp only [Act.put, List.setIfInBounds_toArray, List.set_cons_succ, List.set_cons_zero]
                refine takeH (i := 5) (some 99) rfl rfl (by kernel_rfl) (by kernel_rfl) (by kernel_rfl) (fun _ _ _ h => h) (yRunW rfl p3 (fun _ _ => rx_index (.tmp 97) (.tmp 98) rfl vh p3 rfl _ rfl HP3.out.1)) hS ?_
                simp only [Act.put, List.setIfInBounds_toArray, List.set_cons_succ, List.set_cons_zero]
                refine takeH (i := 6) (some 100) rfl rfl (by kernel_rfl) (by kernel_rfl) (by kernel_rfl) (fun _ _ _ h => h) (yRunW rfl _ (fun X hX => rx_load (.tmp 99) rfl p3 rfl x3 (HA3.out X hX).1)) hS ?_
                simp only [Act.put, List.setIfInBounds_toArray, List.set_cons_succ, List.set_cons_zero]
                refine takeH (i := 7) (some 101) rfl rfl (by kernel_rfl) (by kernel_rfl) (by kernel_rfl) (fun _ _ _ h => h) (yMoveW rfl (.tmp 9) rfl (.int .i64 (b : Nat)) rfl) hS ?_
                simp only [Act.put, List.setIfInBounds_toArray, List.set_cons_succ, List.set_cons_zero]
                refine takeH (i := 8) (some 102) rfl rfl (by kernel_rfl) (by kernel_rfl) (by kernel_rfl) (fun _ _ _ h => h) (yMoveW rfl (.tmp 8) rfl (.int .i64 (a : Nat)) rfl) hS ?_
                simp only [Act.put, List.setIfInBounds_toArray, List.set_cons_succ, List.set_cons_zero]
                refine takeH (i := 9) (some 103) rfl rfl (by kernel_rfl) (by kernel_rfl) (by kernel_rfl) (fun _ _ _ h => h) (yMoveW rfl (.tmp 12) rfl (v10) rfl) hS ?_
                simp only [Act.put, List.setIfInBounds_toArray, List.set_cons_succ, List.set_cons_zero]
                refine takeH (i := 10) (some 104) rfl rfl (by kernel_rfl) (by kernel_rfl) (by kernel_rfl) (fun _ _ _ h => h) (yMoveW rfl (.tmp 6) rfl (u6) rfl) hS ?_
                simp only [Act.put, List.setIfInBounds_toArray, List.set_cons_succ, List.set_cons_zero]
                refine takeH (i := 11) (some 105) rfl rfl (by kernel_rfl) (by kernel_rfl) (by kernel_rfl) (fun _ _ _ h => h) (yMoveW rfl (.tmp 8) rfl (.int .i64 (a : Nat)) rfl) hS ?_
                simp only [Act.put, List.setIfInBounds_toArray, List.set_cons_succ, List.set_cons_zero]
                refine takeH (i := 12) (some 106) rfl rfl (by kernel_rfl) (by kernel_rfl) (by kernel_rfl) (fun _ _ _ h => h) (yRunW rfl p2 (fun _ _ => rx_index (.tmp 104) (.tmp 105) rfl u6 p2 rfl _ rfl HP2.out.1)) hS ?_
                simp only [Act.put, List.setIfInBounds_toArray, List.set_cons_succ, List.set_cons_zero]
                refine takeH (i := 13) (some 107) rfl rfl (by kernel_rfl) (by kernel_rfl) (by kernel_rfl) (fun _ _ _ h => h) (yRunW rfl _ (fun X hX => rx_load (.tmp 106) rfl p2 rfl ra (HA3.out X hX).2.1)) hS ?_
                simp only [Act.put, List.setIfInBounds_toArray, List.set_cons_succ, List.set_cons_zero]
                refine oneH (i := 14) (by kernel_rfl) ?_
                refine opCallW (some 108) rfl rfl rfl 16 _ (run_call en16g [.tmp 100, .tmp 101, .tmp 102, .tmp 103, .tmp 107] _ rfl [hv x3, .int .i64 (b : Nat), .int .i64 (a : Nat), v10, hv ra] rfl) ?_
                refine (vincl_any x3 ra (b : Nat) (a : Nat) v10 ia _ HX3.out HRB.out.2 (R10.out.1.later hS) (HA3.out _ hS).2.2.1 (HA3.out _ hS).2.2.2 (by omega)).mono ?_
                rw [HI1.out]
                rintro e w11 ⟨rfl, b11⟩
                have hS11 : Below w10.heap.size w10 w11 := below_append hS b11
                refine ⟨_, rfl, hS11, ?_⟩
                clear hS b11
                simp only [Act.put, List.setIfInBounds_toArray, List.set_cons_succ, List.set_cons_zero]
                refine takeH (i := 15) (some 109) rfl rfl (by kernel_rfl) (by kernel_rfl) (by kernel_rfl) (fun _ _ _ h => h) (yNotW rfl (.tmp 108) rfl true rfl) hS11 ?_
                simp only [Act.put, List.setIfInBounds_toArray, List.set_cons_succ, List.set_cons_zero]
                refine takeH (i := 16) (some 110) rfl rfl (by kernel_rfl) (by kernel_rfl) (by kernel_rfl) (fun _ _ _ h => h) (yPickF rfl (.tmp 96) (.const (.bool true)) (.tmp 109) rfl rfl (.bool (!true)) rfl) hS11 ?_
                simp only [Act.put, List.setIfInBounds_toArray, List.set_cons_succ, List.set_cons_zero]
                refine wpAnyH_done (by kernel_rfl) ?_ _
                have R11 : Hid (Below w6.heap.size w6 w11) := below_append R9.out.1 (below_append R10.out.2 hS11)
                clear hS11
                go_wp2_with fail
                exact ⟨⟨b + 1, by omega, by go_num, R11.out⟩, by simp [intOf]; omega⟩
              · have HLA : Hid (decide ((b : Int) = (a : Int)) = true) := decide_eq_true (by omega)
                go_wp2_with ((first
                  | (refine wl rfl _ w9 (rx_eqG (.tmp 83) (.tmp 84) rfl (b : Nat) (a : Nat) rfl rfl true HLA.out) ?_)); try simp only [Act.put, List.setIfInBounds_toArray, List.set_cons_succ, List.set_cons_zero])
                exact ⟨⟨b + 1, by omega, by go_num, R9.out.1⟩, by simp [intOf]; omega⟩
            · have hba' : ¬ (b : Int) ≤ (a : Int) := by omega
              go_wp2_with fail
              exact ⟨⟨a + 1, by omega, by go_num, HBB.out⟩, by simp [intOf]; omega⟩
        · have haN' : ¬ (a : Int) ≤ (N : Int) := by omega
          go_wp2_with ((first
            | (refine wl_lenN (.tmp 48) rfl rfl vh hs rfl HW.out.1 N HN.out ?_)
            | (go_at_call 17; refine (growSize_any G vg hs wr (HRV.out.2.below HBA.out)).mono ?_; rw [HN.out]; rintro e w' ⟨rfl, rfl⟩)
            | (refine wl_lenN (.tmp 115) rfl rfl vh hs rfl HW.out.1 N HN.out ?_)); try simp only [Act.put, List.setIfInBounds_toArray, List.set_cons_succ, List.set_cons_zero])
          go_ret
          exact ⟨rfl, below_append HW.out.2.2.2 HBA.out⟩
theorem verifyGrows_any (v : Value) (L : List (List Nat)) (w : World) (h : ListIn w v L) (ht : TabIn w) (hst : StartIn w) (hsz : L.length * 24 ≤ 140737488351232) (hL : ∀ c ∈ L, c.length ≤ 140737488351232) :
    Calls Tryd.prog 3 #[v] w fun e w' => e = .returned (.bool true) ∧ Below w.heap.size w w' := by
  by_cases hM : L.length ≤ 24
  · exact grows_le v L w h ht hst (by omega) (fun c hc => by have := hL c hc; omega) hM
  · exact grows_gt v L w h ht hst (by omega) (fun c hc => by have := hL c hc; omega) (by omega)
end Go.Proofs.YtfnncccioipjcaaDoor

namespace Go.Proofs.YtfnncccioipjcaaDoor.verifyGrows
open Go.ChangeShapes Go.WideShapes Go.ChangeAt Go.RowKit

set_option maxRecDepth 100000 in
/-- WHAT THE WALK GIVES, FOR EVERY ARGUMENT AND EVERY WORLD THAT HOLDS THE TABLE -/
theorem contract (H : Type) (enc : TypeId × Value → H) (W : World) (base : Nat) (args : Array Value) (ds gs : List (DataW H)) (before : List MemPlace)
    (hval : ∀ (j : Nat) t v, Tryd.f3.params[j]? = some t → args[j]? = some v → Value.okWide Tryd.prog W .any base t v)
    (hW : DataW.Whole enc Tryd.prog Tryd.f3.params.toList Rows.verifyGrowsSpec.vars false W args.toList ds gs before)
    (hsz : (DataW.weightsEach Tryd.prog (Tryd.f3.params.toList ++ (Rows.verifyGrowsSpec.plain.varTypes Tryd.prog)) (ds ++ gs)).all (· ≤ reachBytes) = true)
    (hL : laidMetH Tryd.prog Rows.verifyGrowsRow.laid W) :
    Calls Tryd.prog 3 args W fun e W' => ∃ v, e = .returned v ∧ Rows.verifyGrowsSpec.post enc Tryd.prog Tryd.f3 false true false false W args v W' := by
  have hW' := hW
  obtain ⟨p, q, hA0, hV, rfl, hfz, hnd⟩ := hW
  have hA : DataW.TrodAll enc Tryd.prog W 0 (fun _ => true) true Tryd.f3.params.toList args.toList ds p := hA0
  rw [Tryd.params3] at hA hval hsz
  obtain ⟨v0, vs0, d0, ds0, p0, q0, hargs, rfl, rfl, h0, r0⟩ := trodAll_cons hA
  obtain ⟨rfl, rfl, rfl⟩ := trodAll_nil r0
  obtain rfl : args = #[v0] := by cases args; simp_all
  obtain ⟨rfl, rfl⟩ := trodVars_none hV
  have lt0 : ∀ x ∈ p0, x.block < W.heap.size := by obtain ⟨m, hm⟩ := h0; exact DataW.trod_lt m _ _ _ hm
  obtain ⟨L0, hs0, hd0, hw0⟩ := open_rows (hval 0 22 v0 rfl rfl) h0
  clear hA0
  have hw := hw0 (reach_rows hsz (j := 0) rfl rfl)
  have walk := verifyGrows_any v0 L0 W hs0 (tabs_of hL).2 (tabs_of hL).1 hw.1 hw.2
  refine walk.mono fun e W' ⟨he, bel⟩ => ?_
  subst he
  exact ⟨_, rfl, _, _, _, [], _, [], hW', trodAll_mk1 (shut_bool Tryd.underlying4 _), (trodAll_cons_mk (Below.trod laidOut (by kernel_rfl) (of_decide_eq_true (by kernel_rfl)) h0 bel lt0) trodAll_mk0), rfl, bel.frame _, fun h => by cases h⟩

theorem laid_met (os : Os) : laidMet Tryd.prog Rows.verifyGrowsRow.laid ((laidOn (World.holding Tryd.prog os ⟨#[], #[], []⟩)).forCall (fun _ _ => 0) ⟨#[], #[.slice none 0 0], []⟩).memory :=
  laidMet_of_run' 8 (by kernel_rfl) (by kernel_rfl)
theorem reads (os : Os) {H : Type} (enc : TypeId × Value → H) : ∃ places, DataW.whole enc Tryd.prog ((laidOn (World.holding Tryd.prog os ⟨#[], #[], []⟩)).forCall (fun _ _ => 0) ⟨#[], #[.slice none 0 0], []⟩).memory Tryd.f3.params.toList Rows.verifyGrowsSpec.vars false #[Value.slice none 0 0].toList 8 = some ([.nil], [], places) :=
  ⟨[], by kernel_rfl⟩

set_option maxRecDepth 100000 in
theorem lifted (os : Os) (started : os.Started) (H : Type) (enc : TypeId × Value → H) (F : Stop.Interp) :
    ReturnsInHanded {} Tryd.checked os 3 .any ((OpenSpec.ofChange Rows.verifyGrowsSpec).preRow enc Tryd.prog Tryd.f3 Rows.verifyGrowsRow.domain false Rows.verifyGrowsRow.laid) (((OpenSpec.ofChange Rows.verifyGrowsSpec).at F).post enc Tryd.prog Tryd.f3 false true false false) := by
  obtain ⟨places, hx⟩ := reads os enc
  refine returnsInHanded_of_row (C := Tryd.checked) (s := OpenSpec.ofChange Rows.verifyGrowsSpec) own started (by kernel_rfl) Tryd.func3
    (witness_row_at (enc := enc) (C := Tryd.checked) false (laidOn (World.holding Tryd.prog os ⟨#[], #[], []⟩)) #[.slice none 0 0] rfl (by kernel_rfl) (by kernel_rfl) (by kernel_rfl)
      (OpenSpec.preRow_of_cond 8 hx (by kernel_rfl) (fun k hk => by cases hk) (by kernel_rfl) (laid_met os))) ?_
  intro W base args ds gs before hval hW _ _ hsz hL _ _
  exact contract H enc W base args ds gs before hval hW hsz hL

theorem said : Rows.VerifyGrowsSaid :=
  OpenClaim.holds_of_cond 3 Tryd.f3 rfl rfl rfl rfl rfl rfl rfl ⟨rfl, rfl, rfl, rfl, rfl⟩ rfl rfl rfl rfl rfl (by kernel_rfl) Tryd.func3 (by kernel_rfl)
    (of_decide_eq_true (by kernel_rfl)) (by unfold Func.isWrapper; first | (rw [if_pos (by decide +kernel)]; kernel_rfl) | (rw [if_neg (by decide +kernel)]; exact ⟨rfl, rfl⟩))
    (fun os started H enc _ F => by rw [OpenClaim.pre_eq_preRow]; exact lifted os started H enc F)

theorem plain (f : FuncId) (fn : Func) (hf : Tryd.pinned.checked.prog.funcNamed "muniment/munimentlaw06.VerifyGrows" = some f) (hfn : Tryd.pinned.checked.prog.funcs[f]? = some fn) :
    false = Tryd.pinned.checked.prog.looks [] ∧ ∀ (j : Nat) t, fn.params[j]? = some t → Tryd.pinned.checked.prog.wantsStandIn t = false := by
  obtain rfl : f = 3 := Option.some.inj ((show Tryd.prog.funcNamed "muniment/munimentlaw06.VerifyGrows" = some 3 by kernel_rfl).symm.trans hf) |>.symm
  obtain rfl : fn = Tryd.f3 := (Option.some.inj (Tryd.func3.symm.trans hfn)).symm
  refine ⟨by kernel_rfl, fun j t ht => ?_⟩
  rw [Tryd.params3] at ht
  have hm := Array.mem_of_getElem? ht
  have : t = 22 := by simpa using hm
  subst this
  exact (show Tryd.prog.wantsStandIn 22 = false by kernel_rfl)

end Go.Proofs.YtfnncccioipjcaaDoor.verifyGrows
namespace Go.Proofs.YtfnncccioipjcaaDoor
/-- THE CARD -/
theorem verifyGrows_card : Rows.VerifyGrowsCardSaid :=
  Claim7.holds_tied_plain_at .later [] _ _ _ _ verifyGrows.said (fun _ h => by cases h) (by kernel_rfl) (fun _ h => by cases h) verifyGrows_row_tie rfl ⟨rfl, rfl⟩ (by kernel_rfl) rfl verifyGrows.plain (by kernel_rfl)
end Go.Proofs.YtfnncccioipjcaaDoor

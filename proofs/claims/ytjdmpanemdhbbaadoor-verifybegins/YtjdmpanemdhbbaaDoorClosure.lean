/- The program's proofs: the closures of tree.Inclusion and tree.Consistency. -/
import Derived.Test.YtjdmpanemdhbbaaDoorRefProof
namespace Go.Proofs.YtjdmpanemdhbbaaDoor
open Go.RowKit

def pt (g : Nat) : Value := .pointer (some ⟨g, 0, none⟩)
/-- the closures -/
def fv33 (gf gp : Nat) : Value := .func (.func 32) #[] #[pt gf, pt gp]
def fv35 (gf gp : Nat) : Value := .func (.func 33) #[] #[pt gp, pt gf]
/-- the closure and the proof so far -/
def PrIn (W : World) (gf gp tf B : Nat) (fv : Value) (P : List (List Nat)) : Prop := ∃ pv, Row W gf tf [fv] ∧ Row W gp 24 [pv] ∧ HOwn W B pv P ∧ B ≤ W.heap.size
theorem HOwn.only {w w' : World} {B g : Nat} {v : Value} {hs : List (List Nat)} (h : HOwn w B v hs) (ho : Only g w w') (hg : g < B) : HOwn w' B v hs := by
  obtain ⟨ha, hl, h⟩ := h
  refine ⟨ha, hl, ?_⟩
  rcases h with h | ⟨b, cap, cur, h1, h2, h3, h4⟩
  · exact Or.inl h
  · exact Or.inr ⟨b, cap, cur, h1, h2, (ho.block b (Array.getElem?_eq_some_iff.1 h3).1 (by omega)).trans h3, h4⟩
/-- where they lie -/
def Lie (w0 : World) (gf gp B : Nat) : Prop := w0.heap.size ≤ gf ∧ w0.heap.size ≤ gp ∧ gf < B ∧ gp < B ∧ gf ≠ gp

set_option maxHeartbeats 1000000 in
theorem incl1_one (w0 : World) (gf gp B : Nat) (v : Value) (hs : List (List Nat)) (m : Nat) (P : List (List Nat)) (W : World) (hn : hs.length = 1) (h : HIn w0 v hs) (hp : PrIn W gf gp 58 B (fv33 gf gp) P) (hb : Below w0.heap.size w0 W) :
    Calls Tryd.prog 32 #[v, .int .i64 (m : Nat), pt gf, pt gp] W fun e W' => e = .returned noResult ∧ PrIn W' gf gp 58 B (fv33 gf gp) (P ++ Tree.incl hs m) ∧ Below w0.heap.size w0 W' := by
  have HN : Hid (hs.length = 1) := hn
  have R0 : Hid (PrIn W gf gp 58 B (fv33 gf gp) (P ++ Tree.incl hs m) ∧ Below w0.heap.size w0 W) := ⟨by rw [Tree.incl_one hs m (by omega), List.append_nil]; exact hp, hb⟩
  clear hn hp hb
  go_enter Tryd.func32, Tryd.ntmps32
  go_wp2_with (first | (refine wl_lenN (.tmp 7) rfl rfl v hs rfl h 1 HN.out ?_))
  first | go_end0 | refine bodyPost_ret (results_none rfl _ _ _) rfl ?_
  exact ⟨rfl, R0.out.1, R0.out.2⟩
set_option maxHeartbeats 2000000 in
set_option maxRecDepth 100000 in
theorem incl1_any (w0 : World) (ht : TabIn w0) (hst : StartIn w0) (gf gp B : Nat) (hg : Lie w0 gf gp B) : ∀ (n : Nat) (v : Value) (hs : List (List Nat)) (m : Nat) (P : List (List Nat)) (W : World), hs.length = n → n ≤ 1099511627776 → m < n → P.length + (Tree.incl hs m).length ≤ 1000 → HIn w0 v hs → PrIn W gf gp 58 B (fv33 gf gp) P → Below w0.heap.size w0 W →
    Calls Tryd.prog 32 #[v, .int .i64 (m : Nat), pt gf, pt gp] W fun e W' => e = .returned noResult ∧ PrIn W' gf gp 58 B (fv33 gf gp) (P ++ Tree.incl hs m) ∧ Below w0.heap.size w0 W' := by
  have HG : Hid (Lie w0 gf gp B) := hg
  clear hg
  intro n
  induction n using Nat.strongRecOn with
  | _ n ih =>
  intro v hs m P W hn hmax hm hP h hp hb
  by_cases h1 : n = 1
  · exact incl1_one w0 gf gp B v hs m P W (by omega) h hp hb
  have R0 : Hid (PrIn W gf gp 58 B (fv33 gf gp) P ∧ Below w0.heap.size w0 W) := ⟨hp, hb⟩
  clear hp hb
  have h2 : 2 ≤ n := by omega
  have HN : Hid (hs.length = n) := hn
  have hk := Tree.half_lt n h2
  have hkp := Tree.half_pos n
  have hkg := Tree.half_ge n h2
  have HK : Hid (∀ W, Calls Tryd.prog 31 #[.int .i64 (n : Nat)] W fun e w' => e = .returned (.int .i64 (Tree.half n : Nat)) ∧ W = w') := fun W => split_any n W h2 (by omega)
  have hne1 : ((n : Int) == 1) = false := by simp; omega
  have hne1' : ¬ ((n : Int) = 1) := by omega
  by_cases hlow : m < Tree.half n
  · have hR : Tree.incl hs m = Tree.incl (hs.take (Tree.half n)) m ++ [Tree.root (hs.drop (Tree.half n))] := by
      have := Tree.incl_low hs m (by omega) (by rw [hn]; exact hlow)
      rwa [hn] at this
    have HR : Hid (P ++ Tree.incl hs m = (P ++ Tree.incl (hs.take (Tree.half n)) m) ++ [Tree.root (hs.drop (Tree.half n))]) := by show _ = _; rw [hR, List.append_assoc]
    have LP : Hid (P.length + (Tree.incl (hs.take (Tree.half n)) m).length ≤ 1000) := by
      show _ ≤ _
      rw [hR, List.length_append] at hP
      omega
    clear hR hP
    generalize Tree.half n = k at hk hkp hkg HK HR LP hlow
    obtain ⟨va, ra, sa⟩ := run_hto h k (by omega)
    obtain ⟨vb, rb, sb⟩ := run_hfrom h k (by omega)
    have HA : Hid (∀ w', (Instr.slice 24 v none (some (.int .i64 (k : Nat))) none).run Tryd.prog w' = .ok va w') := ra
    have HBr : Hid (∀ w', (Instr.slice 24 v (some (.int .i64 (k : Nat))) none none).run Tryd.prog w' = .ok vb w') := rb
    have HSva : Hid (HIn w0 va (hs.take k)) := sa
    have HSvb : Hid (HIn w0 vb (hs.drop k)) := sb
    have LA : Hid ((hs.take k).length = k) := by show _ = _; rw [List.length_take]; omega
    have LB : Hid ((hs.drop k).length = n - k) := by show _ = _; rw [List.length_drop]; omega
    clear ra rb sa sb hn
    have hlow' : (m : Int) < (k : Int) := by omega
    go_enter Tryd.func32, Tryd.ntmps32
    go_wp2_with (first
      | (refine wl_lenN (.tmp 7) rfl rfl v hs rfl h n HN.out ?_)
      | (refine wl_lenN (.tmp 10) rfl rfl v hs rfl h n HN.out ?_)
      | (go_at_call 31; refine (HK.out _).mono ?_; rintro e w' ⟨rfl, rfl⟩))
    refine wp_region_held (S := fun W => Row W gf 58 [(fv33 gf gp)]) (by kernel_rfl) ?_
    show wpAnyH _ _ _ _ _ 6 (Array.replicate 6 false) _ _
    have hS : Row { W with drawn := W.drawn + 1 } gf 58 [(fv33 gf gp)] := R0.out.1.elim fun pv h => h.1
    have p0 : PrIn { W with drawn := W.drawn + 1 } gf gp 58 B (fv33 gf gp) P := R0.out.1
    have b0 : Below w0.heap.size w0 { W with drawn := W.drawn + 1 } := below_append R0.out.2 (below_drawn W _)
    clear R0
    refine takeH (i := 0) (some 16) rfl rfl (by kernel_rfl) (by kernel_rfl) (by kernel_rfl) (fun _ _ _ h => h) (yRun rfl _ (fun W hW => rx_load1 one48 (.tmp 2) rfl gf 0 rfl (fv33 gf gp) (Row.at hW 0 (fv33 gf gp) rfl))) hS ?_
    simp only [Act.put, List.setIfInBounds_toArray, List.set_cons_succ, List.set_cons_zero]
    refine takeH (i := 1) (some 17) rfl rfl (by kernel_rfl) (by kernel_rfl) (by kernel_rfl) (fun _ _ _ h => h) (yMove rfl (.tmp 0) rfl (v) rfl) hS ?_
    simp only [Act.put, List.setIfInBounds_toArray, List.set_cons_succ, List.set_cons_zero]
    refine takeH (i := 2) (some 18) rfl rfl (by kernel_rfl) (by kernel_rfl) (by kernel_rfl) (fun _ _ _ h => h) (yMove rfl (.tmp 6) rfl (.int .i64 (k : Nat)) rfl) hS ?_
    simp only [Act.put, List.setIfInBounds_toArray, List.set_cons_succ, List.set_cons_zero]
    refine takeH (i := 3) (some 19) rfl rfl (by kernel_rfl) (by kernel_rfl) (by kernel_rfl) (fun _ _ _ h => h) (ySub rfl (.tmp 17) none (some (.tmp 18)) rfl v va rfl HA.out) hS ?_
    simp only [Act.put, List.setIfInBounds_toArray, List.set_cons_succ, List.set_cons_zero]
    refine takeH (i := 4) (some 20) rfl rfl (by kernel_rfl) (by kernel_rfl) (by kernel_rfl) (fun _ _ _ h => h) (yMove rfl (.tmp 1) rfl (.int .i64 (m : Nat)) rfl) hS ?_
    simp only [Act.put, List.setIfInBounds_toArray, List.set_cons_succ, List.set_cons_zero]
    refine oneH (i := 5) (by kernel_rfl) ?_
    refine opCallA (some 21) rfl rfl rfl 32 _ (run_callV en33 16 [pt gf, pt gp] [.tmp 19, .tmp 20] _ rfl rfl [va, .int .i64 (m : Nat)] rfl) ?_
    refine (ih k (by omega) va (hs.take k) m P _ LA.out (by omega) (by omega) LP.out HSva.out p0 b0).mono ?_
    rintro e w1 ⟨rfl, p1, b1⟩
    have R1 : Hid (PrIn w1 gf gp 58 B (fv33 gf gp) (P ++ Tree.incl (hs.take k) m) ∧ Below w0.heap.size w0 w1) := ⟨p1, b1⟩
    refine ⟨_, rfl, p1.elim fun pv h => h.1, ?_⟩
    clear p1 b1 p0 b0 hS
    simp only [Act.put, List.setIfInBounds_toArray, List.set_cons_succ, List.set_cons_zero]
    refine wpAnyH_done (by kernel_rfl) ?_ _
    go_wp2_with fail
    obtain ⟨pv, hpv⟩ := R1.out.1
    have RP : Hid (Row w1 gp 24 [pv] ∧ Row w1 gf 58 [(fv33 gf gp)] ∧ HOwn w1 B pv (P ++ Tree.incl (hs.take k) m) ∧ B ≤ w1.heap.size ∧ Below w0.heap.size w0 w1) := ⟨hpv.2.1, hpv.1, hpv.2.2.1, hpv.2.2.2, R1.out.2⟩
    clear hpv R1
    refine wp_region_until (S := fun W => Row W gp 24 [pv]) 7 (by kernel_rfl) ?_
    show wpAnyU _ _ _ _ _ _ 8 (Array.replicate 8 false) _ _
    have hS : Row { w1 with drawn := w1.drawn + 1 } gp 24 [pv] := RP.out.1
    have bd : Below w0.heap.size w0 { w1 with drawn := w1.drawn + 1 } := below_append RP.out.2.2.2.2 (below_drawn w1 _)
    refine takeU (i := 0) (some 22) rfl rfl (by kernel_rfl) (by kernel_rfl) (by kernel_rfl) (by kernel_rfl) (by kernel_rfl) (fun _ _ _ h => h) (yRun rfl _ (fun W hW => rx_load1 one24 (.tmp 3) rfl gp 0 rfl pv (Row.at hW 0 pv rfl))) hS ?_
    simp only [Act.put, List.setIfInBounds_toArray, List.set_cons_succ, List.set_cons_zero]
    refine takeU (i := 1) (some 23) rfl rfl (by kernel_rfl) (by kernel_rfl) (by kernel_rfl) (by kernel_rfl) (by kernel_rfl) (fun _ _ _ h => h) (yMove rfl (.tmp 0) rfl (v) rfl) hS ?_
    simp only [Act.put, List.setIfInBounds_toArray, List.set_cons_succ, List.set_cons_zero]
    refine takeU (i := 2) (some 24) rfl rfl (by kernel_rfl) (by kernel_rfl) (by kernel_rfl) (by kernel_rfl) (by kernel_rfl) (fun _ _ _ h => h) (yMove rfl (.tmp 6) rfl (.int .i64 (k : Nat)) rfl) hS ?_
    simp only [Act.put, List.setIfInBounds_toArray, List.set_cons_succ, List.set_cons_zero]
    refine takeU (i := 3) (some 25) rfl rfl (by kernel_rfl) (by kernel_rfl) (by kernel_rfl) (by kernel_rfl) (by kernel_rfl) (fun _ _ _ h => h) (ySub rfl (.tmp 23) (some (.tmp 24)) none rfl v vb rfl HBr.out) hS ?_
    simp only [Act.put, List.setIfInBounds_toArray, List.set_cons_succ, List.set_cons_zero]
    refine oneU (i := 4) (by kernel_rfl) ?_
    refine opCallA (some 26) rfl rfl rfl 16 _ (run_call en12 [.tmp 25] _ rfl [vb] rfl) ?_
    refine (root_any _ vb (hs.drop k) _ LB.out (by omega) (HSvb.out.later bd) (ht.later bd) (hst.later bd)).mono ?_
    rintro e w2 ⟨rfl, b2⟩
    have b12 : Below w1.heap.size w1 w2 := below_append (below_drawn w1 _) b2
    have P2 : Hid (Row w2 gp 24 [pv] ∧ Row w2 gf 58 [(fv33 gf gp)] ∧ HOwn w2 B pv (P ++ Tree.incl (hs.take k) m) ∧ B ≤ w2.heap.size ∧ Below w0.heap.size w0 w2) := ⟨RP.out.1.later b12 RP.out.1.lt, RP.out.2.1.later b12 RP.out.2.1.lt, RP.out.2.2.1.later b12 (Nat.le_refl _), Nat.le_trans RP.out.2.2.2.1 b12.size, below_append RP.out.2.2.2.2 b12⟩
    refine ⟨_, rfl, fun _ => P2.out.1, ?_⟩
    clear b2 b12 hS RP bd
    have HH : Hid (IsH (Tree.root (hs.drop k))) := HSvb.out.all.root
    generalize Tree.root (hs.drop k) = rt at HR HH ⊢
    simp only [Act.put, List.setIfInBounds_toArray, List.set_cons_succ, List.set_cons_zero]
    refine oneU (i := 5) (by kernel_rfl) ?_
    refine opVal (some 27) rfl rfl rfl _ _ (rx_lit1 (.tmp 26) rfl rt HH.out rfl) ?_
    have b4 := below_alloc w2 (.cells (bcells [rt].flatten).toArray 23)
    have hl4 : HIn (w2.alloc (.cells (bcells [rt].flatten).toArray 23)) (.slice (some ⟨w2.heap.size, 0, none⟩) 1 1) [rt] := (hlit_own w2 w2.heap.size (Nat.le_refl _) [rt] (AllH.one HH.out) (by simp)).hin
    generalize w2.alloc (.cells (bcells [rt].flatten).toArray 23) = w4 at b4 hl4 ⊢
    have P4 : Hid (Row w4 gp 24 [pv] ∧ Row w4 gf 58 [(fv33 gf gp)] ∧ HOwn w4 B pv (P ++ Tree.incl (hs.take k) m) ∧ B ≤ w4.heap.size ∧ Below w0.heap.size w0 w4) := ⟨P2.out.1.later b4 P2.out.1.lt, P2.out.2.1.later b4 P2.out.2.1.lt, P2.out.2.2.1.later b4 (Nat.le_refl _), Nat.le_trans P2.out.2.2.2.1 b4.size, below_append P2.out.2.2.2.2 b4⟩
    refine ⟨fun _ => P4.out.1, ?_⟩
    clear b4 P2
    simp only [Act.put, List.setIfInBounds_toArray, List.set_cons_succ, List.set_cons_zero]
    refine oneU (i := 6) (by kernel_rfl) ?_
    obtain ⟨v5, w5, hr5, o5, g5⟩ := run_happend B 24 pv _ (P ++ Tree.incl (hs.take k) m) [rt] P4.out.2.2.1 hl4 (by have := LP.out; simp only [List.length_cons, List.length_nil, List.length_append]; omega) P4.out.2.2.2.1
    refine opVal (some 28) rfl rfl rfl v5 w5 (rx_append (.tmp 22) (.tmp 27) rfl pv _ v5 w5 rfl rfl hr5) ?_
    have b5 : Below B w4 w5 := P4.out.2.2.1.below g5 P4.out.2.2.2.1
    have P5 : Hid (Row w5 gp 24 [pv] ∧ Row w5 gf 58 [(fv33 gf gp)] ∧ HOwn w5 B v5 ((P ++ Tree.incl (hs.take k) m) ++ [rt]) ∧ B ≤ w5.heap.size ∧ Below w0.heap.size w0 w5) := ⟨P4.out.1.later b5 HG.out.2.2.2.1, P4.out.2.1.later b5 HG.out.2.2.1, o5, Nat.le_trans P4.out.2.2.2.1 b5.size, P4.out.2.2.2.2.trans (b5.mono (Nat.le_trans HG.out.1 (Nat.le_of_lt HG.out.2.2.1)))⟩
    refine ⟨fun _ => P5.out.1, ?_⟩
    clear b5 P4 o5 g5 hr5 hl4
    simp only [Act.put, List.setIfInBounds_toArray, List.set_cons_succ, List.set_cons_zero]
    refine oneU (i := 7) (by kernel_rfl) ?_
    refine opSkip rfl rfl rfl _ (rx_store1 size24 (.tmp 3) (.tmp 28) rfl gp 0 24 [pv] rfl v5 rfl P5.out.2.2.1.one P5.out.1 (by simp)) ?_
    have o6 : Only gp w5 (w5.setRow gp (splice [pv] 0 [v5]).toArray) := (Only.refl gp w5).setRow _
    have R6 : Hid (PrIn (w5.setRow gp (splice [pv] 0 [v5]).toArray) gf gp 58 B (fv33 gf gp) (P ++ Tree.incl hs m) ∧ Below w0.heap.size w0 (w5.setRow gp (splice [pv] 0 [v5]).toArray)) := by
      refine ⟨⟨v5, o6.row HG.out.2.2.2.2 P5.out.2.1, P5.out.1.one v5, ?_, Nat.le_trans P5.out.2.2.2.1 o6.size⟩, P5.out.2.2.2.2.trans (o6.below HG.out.2.1 P5.out.2.2.2.2.size)⟩
      rw [HR.out]
      exact P5.out.2.2.1.only o6 HG.out.2.2.2.1
    refine ⟨fun h => absurd h (by decide), ?_⟩
    generalize w5.setRow gp (splice [pv] 0 [v5]).toArray = w6 at R6 ⊢
    clear o6 P5
    refine wpAnyU_done (by kernel_rfl) ?_ _
    go_wp2_with fail
    first | go_end0 | refine bodyPost_ret (results_none rfl _ _ _) rfl ?_
    exact ⟨rfl, R6.out.1, R6.out.2⟩
  · have hR : Tree.incl hs m = Tree.incl (hs.drop (Tree.half n)) (m - Tree.half n) ++ [Tree.root (hs.take (Tree.half n))] := by
      have := Tree.incl_high hs m (by omega) (by rw [hn]; exact hlow)
      rwa [hn] at this
    have HR : Hid (P ++ Tree.incl hs m = (P ++ Tree.incl (hs.drop (Tree.half n)) (m - Tree.half n)) ++ [Tree.root (hs.take (Tree.half n))]) := by show _ = _; rw [hR, List.append_assoc]
    have LP : Hid (P.length + (Tree.incl (hs.drop (Tree.half n)) (m - Tree.half n)).length ≤ 1000) := by
      show _ ≤ _
      rw [hR, List.length_append] at hP
      omega
    clear hR hP
    generalize Tree.half n = k at hk hkp hkg HK HR LP hlow
    obtain ⟨va, ra, sa⟩ := run_hto h k (by omega)
    obtain ⟨vb, rb, sb⟩ := run_hfrom h k (by omega)
    have HA : Hid (∀ w', (Instr.slice 24 v none (some (.int .i64 (k : Nat))) none).run Tryd.prog w' = .ok va w') := ra
    have HBr : Hid (∀ w', (Instr.slice 24 v (some (.int .i64 (k : Nat))) none none).run Tryd.prog w' = .ok vb w') := rb
    have HSva : Hid (HIn w0 va (hs.take k)) := sa
    have HSvb : Hid (HIn w0 vb (hs.drop k)) := sb
    have LA : Hid ((hs.take k).length = k) := by show _ = _; rw [List.length_take]; omega
    have LB : Hid ((hs.drop k).length = n - k) := by show _ = _; rw [List.length_drop]; omega
    clear ra rb sa sb hn
    have hlow' : ¬ (m : Int) < (k : Int) := by omega
    go_enter Tryd.func32, Tryd.ntmps32
    go_wp2_with (first
      | (refine wl_lenN (.tmp 7) rfl rfl v hs rfl h n HN.out ?_)
      | (refine wl_lenN (.tmp 10) rfl rfl v hs rfl h n HN.out ?_)
      | (go_at_call 31; refine (HK.out _).mono ?_; rintro e w' ⟨rfl, rfl⟩))
    refine wp_region_held (S := fun W => Row W gf 58 [(fv33 gf gp)]) (by kernel_rfl) ?_
    show wpAnyH _ _ _ _ _ 8 (Array.replicate 8 false) _ _
    have hS : Row { W with drawn := W.drawn + 1 } gf 58 [(fv33 gf gp)] := R0.out.1.elim fun pv h => h.1
    have p0 : PrIn { W with drawn := W.drawn + 1 } gf gp 58 B (fv33 gf gp) P := R0.out.1
    have b0 : Below w0.heap.size w0 { W with drawn := W.drawn + 1 } := below_append R0.out.2 (below_drawn W _)
    clear R0
    refine takeH (i := 0) (some 29) rfl rfl (by kernel_rfl) (by kernel_rfl) (by kernel_rfl) (fun _ _ _ h => h) (yRun rfl _ (fun W hW => rx_load1 one48 (.tmp 2) rfl gf 0 rfl (fv33 gf gp) (Row.at hW 0 (fv33 gf gp) rfl))) hS ?_
    simp only [Act.put, List.setIfInBounds_toArray, List.set_cons_succ, List.set_cons_zero]
    refine takeH (i := 1) (some 30) rfl rfl (by kernel_rfl) (by kernel_rfl) (by kernel_rfl) (fun _ _ _ h => h) (yMove rfl (.tmp 0) rfl (v) rfl) hS ?_
    simp only [Act.put, List.setIfInBounds_toArray, List.set_cons_succ, List.set_cons_zero]
    refine takeH (i := 2) (some 31) rfl rfl (by kernel_rfl) (by kernel_rfl) (by kernel_rfl) (fun _ _ _ h => h) (yMove rfl (.tmp 6) rfl (.int .i64 (k : Nat)) rfl) hS ?_
    simp only [Act.put, List.setIfInBounds_toArray, List.set_cons_succ, List.set_cons_zero]
    refine takeH (i := 3) (some 32) rfl rfl (by kernel_rfl) (by kernel_rfl) (by kernel_rfl) (fun _ _ _ h => h) (ySub rfl (.tmp 30) (some (.tmp 31)) none rfl v vb rfl HBr.out) hS ?_
    simp only [Act.put, List.setIfInBounds_toArray, List.set_cons_succ, List.set_cons_zero]
    refine takeH (i := 4) (some 33) rfl rfl (by kernel_rfl) (by kernel_rfl) (by kernel_rfl) (fun _ _ _ h => h) (yMove rfl (.tmp 1) rfl (.int .i64 (m : Nat)) rfl) hS ?_
    simp only [Act.put, List.setIfInBounds_toArray, List.set_cons_succ, List.set_cons_zero]
    refine takeH (i := 5) (some 34) rfl rfl (by kernel_rfl) (by kernel_rfl) (by kernel_rfl) (fun _ _ _ h => h) (yMove rfl (.tmp 6) rfl (.int .i64 (k : Nat)) rfl) hS ?_
    simp only [Act.put, List.setIfInBounds_toArray, List.set_cons_succ, List.set_cons_zero]
    refine takeH (i := 6) (some 35) rfl rfl (by kernel_rfl) (by kernel_rfl) (by kernel_rfl) (fun _ _ _ h => h) (yRun rfl _ (fun _ _ => rx_minus (.tmp 33) (.tmp 34) rfl m k rfl rfl (by omega) (by omega))) hS ?_
    simp only [Act.put, List.setIfInBounds_toArray, List.set_cons_succ, List.set_cons_zero]
    refine oneH (i := 7) (by kernel_rfl) ?_
    refine opCallA (some 36) rfl rfl rfl 32 _ (run_callV en33 29 [pt gf, pt gp] [.tmp 32, .tmp 35] _ rfl rfl [vb, .int .i64 ((m - k : Nat) : Int)] rfl) ?_
    refine (ih (n - k) (by omega) vb (hs.drop k) (m - k) P _ LB.out (by omega) (by omega) LP.out HSvb.out p0 b0).mono ?_
    rintro e w1 ⟨rfl, p1, b1⟩
    have R1 : Hid (PrIn w1 gf gp 58 B (fv33 gf gp) (P ++ Tree.incl (hs.drop k) (m - k)) ∧ Below w0.heap.size w0 w1) := ⟨p1, b1⟩
    refine ⟨_, rfl, p1.elim fun pv h => h.1, ?_⟩
    clear p1 b1 p0 b0 hS
    simp only [Act.put, List.setIfInBounds_toArray, List.set_cons_succ, List.set_cons_zero]
    refine wpAnyH_done (by kernel_rfl) ?_ _
    go_wp2_with fail
    obtain ⟨pv, hpv⟩ := R1.out.1
    have RP : Hid (Row w1 gp 24 [pv] ∧ Row w1 gf 58 [(fv33 gf gp)] ∧ HOwn w1 B pv (P ++ Tree.incl (hs.drop k) (m - k)) ∧ B ≤ w1.heap.size ∧ Below w0.heap.size w0 w1) := ⟨hpv.2.1, hpv.1, hpv.2.2.1, hpv.2.2.2, R1.out.2⟩
    clear hpv R1
    refine wp_region_until (S := fun W => Row W gp 24 [pv]) 7 (by kernel_rfl) ?_
    show wpAnyU _ _ _ _ _ _ 8 (Array.replicate 8 false) _ _
    have hS : Row { w1 with drawn := w1.drawn + 1 } gp 24 [pv] := RP.out.1
    have bd : Below w0.heap.size w0 { w1 with drawn := w1.drawn + 1 } := below_append RP.out.2.2.2.2 (below_drawn w1 _)
    refine takeU (i := 0) (some 37) rfl rfl (by kernel_rfl) (by kernel_rfl) (by kernel_rfl) (by kernel_rfl) (by kernel_rfl) (fun _ _ _ h => h) (yRun rfl _ (fun W hW => rx_load1 one24 (.tmp 3) rfl gp 0 rfl pv (Row.at hW 0 pv rfl))) hS ?_
    simp only [Act.put, List.setIfInBounds_toArray, List.set_cons_succ, List.set_cons_zero]
    refine takeU (i := 1) (some 38) rfl rfl (by kernel_rfl) (by kernel_rfl) (by kernel_rfl) (by kernel_rfl) (by kernel_rfl) (fun _ _ _ h => h) (yMove rfl (.tmp 0) rfl (v) rfl) hS ?_
    simp only [Act.put, List.setIfInBounds_toArray, List.set_cons_succ, List.set_cons_zero]
    refine takeU (i := 2) (some 39) rfl rfl (by kernel_rfl) (by kernel_rfl) (by kernel_rfl) (by kernel_rfl) (by kernel_rfl) (fun _ _ _ h => h) (yMove rfl (.tmp 6) rfl (.int .i64 (k : Nat)) rfl) hS ?_
    simp only [Act.put, List.setIfInBounds_toArray, List.set_cons_succ, List.set_cons_zero]
    refine takeU (i := 3) (some 40) rfl rfl (by kernel_rfl) (by kernel_rfl) (by kernel_rfl) (by kernel_rfl) (by kernel_rfl) (fun _ _ _ h => h) (ySub rfl (.tmp 38) none (some (.tmp 39)) rfl v va rfl HA.out) hS ?_
    simp only [Act.put, List.setIfInBounds_toArray, List.set_cons_succ, List.set_cons_zero]
    refine oneU (i := 4) (by kernel_rfl) ?_
    refine opCallA (some 41) rfl rfl rfl 16 _ (run_call en12 [.tmp 40] _ rfl [va] rfl) ?_
    refine (root_any _ va (hs.take k) _ LA.out (by omega) (HSva.out.later bd) (ht.later bd) (hst.later bd)).mono ?_
    rintro e w2 ⟨rfl, b2⟩
    have b12 : Below w1.heap.size w1 w2 := below_append (below_drawn w1 _) b2
    have P2 : Hid (Row w2 gp 24 [pv] ∧ Row w2 gf 58 [(fv33 gf gp)] ∧ HOwn w2 B pv (P ++ Tree.incl (hs.drop k) (m - k)) ∧ B ≤ w2.heap.size ∧ Below w0.heap.size w0 w2) := ⟨RP.out.1.later b12 RP.out.1.lt, RP.out.2.1.later b12 RP.out.2.1.lt, RP.out.2.2.1.later b12 (Nat.le_refl _), Nat.le_trans RP.out.2.2.2.1 b12.size, below_append RP.out.2.2.2.2 b12⟩
    refine ⟨_, rfl, fun _ => P2.out.1, ?_⟩
    clear b2 b12 hS RP bd
    have HH : Hid (IsH (Tree.root (hs.take k))) := HSva.out.all.root
    generalize Tree.root (hs.take k) = rt at HR HH ⊢
    simp only [Act.put, List.setIfInBounds_toArray, List.set_cons_succ, List.set_cons_zero]
    refine oneU (i := 5) (by kernel_rfl) ?_
    refine opVal (some 42) rfl rfl rfl _ _ (rx_lit1 (.tmp 41) rfl rt HH.out rfl) ?_
    have b4 := below_alloc w2 (.cells (bcells [rt].flatten).toArray 23)
    have hl4 : HIn (w2.alloc (.cells (bcells [rt].flatten).toArray 23)) (.slice (some ⟨w2.heap.size, 0, none⟩) 1 1) [rt] := (hlit_own w2 w2.heap.size (Nat.le_refl _) [rt] (AllH.one HH.out) (by simp)).hin
    generalize w2.alloc (.cells (bcells [rt].flatten).toArray 23) = w4 at b4 hl4 ⊢
    have P4 : Hid (Row w4 gp 24 [pv] ∧ Row w4 gf 58 [(fv33 gf gp)] ∧ HOwn w4 B pv (P ++ Tree.incl (hs.drop k) (m - k)) ∧ B ≤ w4.heap.size ∧ Below w0.heap.size w0 w4) := ⟨P2.out.1.later b4 P2.out.1.lt, P2.out.2.1.later b4 P2.out.2.1.lt, P2.out.2.2.1.later b4 (Nat.le_refl _), Nat.le_trans P2.out.2.2.2.1 b4.size, below_append P2.out.2.2.2.2 b4⟩
    refine ⟨fun _ => P4.out.1, ?_⟩
    clear b4 P2
    simp only [Act.put, List.setIfInBounds_toArray, List.set_cons_succ, List.set_cons_zero]
    refine oneU (i := 6) (by kernel_rfl) ?_
    obtain ⟨v5, w5, hr5, o5, g5⟩ := run_happend B 24 pv _ (P ++ Tree.incl (hs.drop k) (m - k)) [rt] P4.out.2.2.1 hl4 (by have := LP.out; simp only [List.length_cons, List.length_nil, List.length_append]; omega) P4.out.2.2.2.1
    refine opVal (some 43) rfl rfl rfl v5 w5 (rx_append (.tmp 37) (.tmp 42) rfl pv _ v5 w5 rfl rfl hr5) ?_
    have b5 : Below B w4 w5 := P4.out.2.2.1.below g5 P4.out.2.2.2.1
    have P5 : Hid (Row w5 gp 24 [pv] ∧ Row w5 gf 58 [(fv33 gf gp)] ∧ HOwn w5 B v5 ((P ++ Tree.incl (hs.drop k) (m - k)) ++ [rt]) ∧ B ≤ w5.heap.size ∧ Below w0.heap.size w0 w5) := ⟨P4.out.1.later b5 HG.out.2.2.2.1, P4.out.2.1.later b5 HG.out.2.2.1, o5, Nat.le_trans P4.out.2.2.2.1 b5.size, P4.out.2.2.2.2.trans (b5.mono (Nat.le_trans HG.out.1 (Nat.le_of_lt HG.out.2.2.1)))⟩
    refine ⟨fun _ => P5.out.1, ?_⟩
    clear b5 P4 o5 g5 hr5 hl4
    simp only [Act.put, List.setIfInBounds_toArray, List.set_cons_succ, List.set_cons_zero]
    refine oneU (i := 7) (by kernel_rfl) ?_
    refine opSkip rfl rfl rfl _ (rx_store1 size24 (.tmp 3) (.tmp 43) rfl gp 0 24 [pv] rfl v5 rfl P5.out.2.2.1.one P5.out.1 (by simp)) ?_
    have o6 : Only gp w5 (w5.setRow gp (splice [pv] 0 [v5]).toArray) := (Only.refl gp w5).setRow _
    have R6 : Hid (PrIn (w5.setRow gp (splice [pv] 0 [v5]).toArray) gf gp 58 B (fv33 gf gp) (P ++ Tree.incl hs m) ∧ Below w0.heap.size w0 (w5.setRow gp (splice [pv] 0 [v5]).toArray)) := by
      refine ⟨⟨v5, o6.row HG.out.2.2.2.2 P5.out.2.1, P5.out.1.one v5, ?_, Nat.le_trans P5.out.2.2.2.1 o6.size⟩, P5.out.2.2.2.2.trans (o6.below HG.out.2.1 P5.out.2.2.2.2.size)⟩
      rw [HR.out]
      exact P5.out.2.2.1.only o6 HG.out.2.2.2.1
    refine ⟨fun h => absurd h (by decide), ?_⟩
    generalize w5.setRow gp (splice [pv] 0 [v5]).toArray = w6 at R6 ⊢
    clear o6 P5
    refine wpAnyU_done (by kernel_rfl) ?_ _
    go_wp2_with fail
    first | go_end0 | refine bodyPost_ret (results_none rfl _ _ _) rfl ?_
    exact ⟨rfl, R6.out.1, R6.out.2⟩

set_option maxHeartbeats 1000000 in
theorem cons1_whole (w0 : World) (gf gp B : Nat) (v : Value) (hs : List (List Nat)) (m : Nat) (P : List (List Nat)) (W : World) (hn : hs.length = m) (h : HIn w0 v hs) (hp : PrIn W gf gp 59 B (fv35 gf gp) P) (hb : Below w0.heap.size w0 W) :
    Calls Tryd.prog 33 #[v, .int .i64 (m : Nat), .bool true, pt gp, pt gf] W fun e W' => e = .returned noResult ∧ PrIn W' gf gp 59 B (fv35 gf gp) (P ++ Tree.part hs m true) ∧ Below w0.heap.size w0 W' := by
  have HN : Hid (hs.length = m) := hn
  have R0 : Hid (PrIn W gf gp 59 B (fv35 gf gp) (P ++ Tree.part hs m true) ∧ Below w0.heap.size w0 W) := ⟨by rw [Tree.part_all hs m true hn.symm, if_pos rfl, List.append_nil]; exact hp, hb⟩
  clear hn hp hb
  go_enter Tryd.func33, Tryd.ntmps33
  go_wp2_with (first | (refine wl_lenN (.tmp 10) rfl rfl v hs rfl h m HN.out ?_))
  first | go_end0 | refine bodyPost_ret (results_none rfl _ _ _) rfl ?_
  exact ⟨rfl, R0.out.1, R0.out.2⟩
set_option maxHeartbeats 1000000 in
set_option maxRecDepth 100000 in
theorem cons1_other (w0 : World) (ht : TabIn w0) (hst : StartIn w0) (gf gp B : Nat) (hg : Lie w0 gf gp B) (v : Value) (hs : List (List Nat)) (m : Nat) (P : List (List Nat)) (w1 : World) (hn : hs.length = m) (hmax : m ≤ 1099511627776) (hP : P.length ≤ 1000) (h : HIn w0 v hs) (hp : PrIn w1 gf gp 59 B (fv35 gf gp) P) (hb : Below w0.heap.size w0 w1) :
    Calls Tryd.prog 33 #[v, .int .i64 (m : Nat), .bool false, pt gp, pt gf] w1 fun e W' => e = .returned noResult ∧ PrIn W' gf gp 59 B (fv35 gf gp) (P ++ Tree.part hs m false) ∧ Below w0.heap.size w0 W' := by
  have HG : Hid (Lie w0 gf gp B) := hg
  have HN : Hid (hs.length = m) := hn
  have HR : Hid (P ++ Tree.part hs m false = P ++ [Tree.root hs]) := by show _ = _; rw [Tree.part_all hs m false hn.symm]; rfl
  have R1 : Hid (PrIn w1 gf gp 59 B (fv35 gf gp) P ∧ Below w0.heap.size w0 w1) := ⟨hp, hb⟩
  have HSv : Hid (HIn w0 v hs) := h
  have LP : Hid (P.length ≤ 1000) := hP
  clear hn hp hb hg hP
  go_enter Tryd.func33, Tryd.ntmps33
  go_wp2_with (first | (refine wl_lenN (.tmp 10) rfl rfl v hs rfl h m HN.out ?_))
  obtain ⟨pv, hpv⟩ := R1.out.1
  have RP : Hid (Row w1 gp 24 [pv] ∧ Row w1 gf 59 [(fv35 gf gp)] ∧ HOwn w1 B pv (P) ∧ B ≤ w1.heap.size ∧ Below w0.heap.size w0 w1) := ⟨hpv.2.1, hpv.1, hpv.2.2.1, hpv.2.2.2, R1.out.2⟩
  clear hpv R1
  refine wp_region_until (S := fun W => Row W gp 24 [pv]) 5 (by kernel_rfl) ?_
  show wpAnyU _ _ _ _ _ _ 6 (Array.replicate 6 false) _ _
  have hS : Row { w1 with drawn := w1.drawn + 1 } gp 24 [pv] := RP.out.1
  have bd : Below w0.heap.size w0 { w1 with drawn := w1.drawn + 1 } := below_append RP.out.2.2.2.2 (below_drawn w1 _)
  refine takeU (i := 0) (some 15) rfl rfl (by kernel_rfl) (by kernel_rfl) (by kernel_rfl) (by kernel_rfl) (by kernel_rfl) (fun _ _ _ h => h) (yRun rfl _ (fun W hW => rx_load1 one24 (.tmp 3) rfl gp 0 rfl pv (Row.at hW 0 pv rfl))) hS ?_
  simp only [Act.put, List.setIfInBounds_toArray, List.set_cons_succ, List.set_cons_zero]
  refine takeU (i := 1) (some 16) rfl rfl (by kernel_rfl) (by kernel_rfl) (by kernel_rfl) (by kernel_rfl) (by kernel_rfl) (fun _ _ _ h => h) (yMove rfl (.tmp 0) rfl (v) rfl) hS ?_
  simp only [Act.put, List.setIfInBounds_toArray, List.set_cons_succ, List.set_cons_zero]
  refine oneU (i := 2) (by kernel_rfl) ?_
  refine opCallA (some 17) rfl rfl rfl 16 _ (run_call en12 [.tmp 16] _ rfl [v] rfl) ?_
  refine (root_any _ v (hs) _ HN.out (by omega) (HSv.out.later bd) (ht.later bd) (hst.later bd)).mono ?_
  rintro e w2 ⟨rfl, b2⟩
  have b12 : Below w1.heap.size w1 w2 := below_append (below_drawn w1 _) b2
  have P2 : Hid (Row w2 gp 24 [pv] ∧ Row w2 gf 59 [(fv35 gf gp)] ∧ HOwn w2 B pv (P) ∧ B ≤ w2.heap.size ∧ Below w0.heap.size w0 w2) := ⟨RP.out.1.later b12 RP.out.1.lt, RP.out.2.1.later b12 RP.out.2.1.lt, RP.out.2.2.1.later b12 (Nat.le_refl _), Nat.le_trans RP.out.2.2.2.1 b12.size, below_append RP.out.2.2.2.2 b12⟩
  refine ⟨_, rfl, fun _ => P2.out.1, ?_⟩
  clear b2 b12 hS RP bd
  have HH : Hid (IsH (Tree.root (hs))) := HSv.out.all.root
  generalize Tree.root (hs) = rt at HR HH ⊢
  simp only [Act.put, List.setIfInBounds_toArray, List.set_cons_succ, List.set_cons_zero]
  refine oneU (i := 3) (by kernel_rfl) ?_
  refine opVal (some 18) rfl rfl rfl _ _ (rx_lit1 (.tmp 17) rfl rt HH.out rfl) ?_
  have b4 := below_alloc w2 (.cells (bcells [rt].flatten).toArray 23)
  have hl4 : HIn (w2.alloc (.cells (bcells [rt].flatten).toArray 23)) (.slice (some ⟨w2.heap.size, 0, none⟩) 1 1) [rt] := (hlit_own w2 w2.heap.size (Nat.le_refl _) [rt] (AllH.one HH.out) (by simp)).hin
  generalize w2.alloc (.cells (bcells [rt].flatten).toArray 23) = w4 at b4 hl4 ⊢
  have P4 : Hid (Row w4 gp 24 [pv] ∧ Row w4 gf 59 [(fv35 gf gp)] ∧ HOwn w4 B pv (P) ∧ B ≤ w4.heap.size ∧ Below w0.heap.size w0 w4) := ⟨P2.out.1.later b4 P2.out.1.lt, P2.out.2.1.later b4 P2.out.2.1.lt, P2.out.2.2.1.later b4 (Nat.le_refl _), Nat.le_trans P2.out.2.2.2.1 b4.size, below_append P2.out.2.2.2.2 b4⟩
  refine ⟨fun _ => P4.out.1, ?_⟩
  clear b4 P2
  simp only [Act.put, List.setIfInBounds_toArray, List.set_cons_succ, List.set_cons_zero]
  refine oneU (i := 4) (by kernel_rfl) ?_
  obtain ⟨v5, w5, hr5, o5, g5⟩ := run_happend B 24 pv _ (P) [rt] P4.out.2.2.1 hl4 (by have := LP.out; simp only [List.length_cons, List.length_nil]; omega) P4.out.2.2.2.1
  refine opVal (some 19) rfl rfl rfl v5 w5 (rx_append (.tmp 15) (.tmp 18) rfl pv _ v5 w5 rfl rfl hr5) ?_
  have b5 : Below B w4 w5 := P4.out.2.2.1.below g5 P4.out.2.2.2.1
  have P5 : Hid (Row w5 gp 24 [pv] ∧ Row w5 gf 59 [(fv35 gf gp)] ∧ HOwn w5 B v5 ((P) ++ [rt]) ∧ B ≤ w5.heap.size ∧ Below w0.heap.size w0 w5) := ⟨P4.out.1.later b5 HG.out.2.2.2.1, P4.out.2.1.later b5 HG.out.2.2.1, o5, Nat.le_trans P4.out.2.2.2.1 b5.size, P4.out.2.2.2.2.trans (b5.mono (Nat.le_trans HG.out.1 (Nat.le_of_lt HG.out.2.2.1)))⟩
  refine ⟨fun _ => P5.out.1, ?_⟩
  clear b5 P4 o5 g5 hr5 hl4
  simp only [Act.put, List.setIfInBounds_toArray, List.set_cons_succ, List.set_cons_zero]
  refine oneU (i := 5) (by kernel_rfl) ?_
  refine opSkip rfl rfl rfl _ (rx_store1 size24 (.tmp 3) (.tmp 19) rfl gp 0 24 [pv] rfl v5 rfl P5.out.2.2.1.one P5.out.1 (by simp)) ?_
  have o6 : Only gp w5 (w5.setRow gp (splice [pv] 0 [v5]).toArray) := (Only.refl gp w5).setRow _
  have R6 : Hid (PrIn (w5.setRow gp (splice [pv] 0 [v5]).toArray) gf gp 59 B (fv35 gf gp) (P ++ Tree.part hs m false) ∧ Below w0.heap.size w0 (w5.setRow gp (splice [pv] 0 [v5]).toArray)) := by
    refine ⟨⟨v5, o6.row HG.out.2.2.2.2 P5.out.2.1, P5.out.1.one v5, ?_, Nat.le_trans P5.out.2.2.2.1 o6.size⟩, P5.out.2.2.2.2.trans (o6.below HG.out.2.1 P5.out.2.2.2.2.size)⟩
    rw [HR.out]
    exact P5.out.2.2.1.only o6 HG.out.2.2.2.1
  refine ⟨fun h => absurd h (by decide), ?_⟩
  generalize w5.setRow gp (splice [pv] 0 [v5]).toArray = w6 at R6 ⊢
  clear o6 P5
  refine wpAnyU_done (by kernel_rfl) ?_ _
  go_wp2_with fail
  first | go_end0 | refine bodyPost_ret (results_none rfl _ _ _) rfl ?_
  exact ⟨rfl, R6.out.1, R6.out.2⟩

set_option maxHeartbeats 2000000 in
set_option maxRecDepth 100000 in
theorem cons1_any (w0 : World) (ht : TabIn w0) (hst : StartIn w0) (gf gp B : Nat) (hg : Lie w0 gf gp B) : ∀ (n : Nat) (v : Value) (hs : List (List Nat)) (m : Nat) (b : Bool) (P : List (List Nat)) (W : World), hs.length = n → n ≤ 1099511627776 → 1 ≤ m → m ≤ n → P.length + (Tree.part hs m b).length ≤ 1000 → HIn w0 v hs → PrIn W gf gp 59 B (fv35 gf gp) P → Below w0.heap.size w0 W →
    Calls Tryd.prog 33 #[v, .int .i64 (m : Nat), .bool b, pt gp, pt gf] W fun e W' => e = .returned noResult ∧ PrIn W' gf gp 59 B (fv35 gf gp) (P ++ Tree.part hs m b) ∧ Below w0.heap.size w0 W' := by
  have HG : Hid (Lie w0 gf gp B) := hg
  clear hg
  intro n
  induction n using Nat.strongRecOn with
  | _ n ih =>
  intro v hs m b P W hn hmax hm1 hm hP h hp hb
  by_cases hall : m = n
  · cases b with
    | true => exact cons1_whole w0 gf gp B v hs m P W (by omega) h hp hb
    | false => exact cons1_other w0 ht hst gf gp B HG.out v hs m P W (by omega) (by omega) (by omega) h hp hb
  have R0 : Hid (PrIn W gf gp 59 B (fv35 gf gp) P ∧ Below w0.heap.size w0 W) := ⟨hp, hb⟩
  clear hp hb
  have h2 : 2 ≤ n := by omega
  have HN : Hid (hs.length = n) := hn
  have hk := Tree.half_lt n h2
  have hkp := Tree.half_pos n
  have hkg := Tree.half_ge n h2
  have HK : Hid (∀ W, Calls Tryd.prog 31 #[.int .i64 (n : Nat)] W fun e w' => e = .returned (.int .i64 (Tree.half n : Nat)) ∧ W = w') := fun W => split_any n W h2 (by omega)
  have hneq : ((m : Int) == (n : Int)) = false := by simp; omega
  have hneq' : ¬ ((m : Int) = (n : Int)) := by omega
  by_cases hlow : m ≤ Tree.half n
  · have hR : Tree.part hs m b = Tree.part (hs.take (Tree.half n)) m b ++ [Tree.root (hs.drop (Tree.half n))] := by
      have := Tree.part_low hs m b (by omega) (by omega) (by rw [hn]; exact hlow)
      rwa [hn] at this
    have HR : Hid (P ++ Tree.part hs m b = (P ++ Tree.part (hs.take (Tree.half n)) m b) ++ [Tree.root (hs.drop (Tree.half n))]) := by show _ = _; rw [hR, List.append_assoc]
    have LP : Hid (P.length + (Tree.part (hs.take (Tree.half n)) m b).length ≤ 1000) := by
      show _ ≤ _
      rw [hR, List.length_append] at hP
      omega
    clear hR hP
    generalize Tree.half n = k at hk hkp hkg HK HR LP hlow
    obtain ⟨va, ra, sa⟩ := run_hto h k (by omega)
    obtain ⟨vb, rb, sb⟩ := run_hfrom h k (by omega)
    have HA : Hid (∀ w', (Instr.slice 24 v none (some (.int .i64 (k : Nat))) none).run Tryd.prog w' = .ok va w') := ra
    have HBr : Hid (∀ w', (Instr.slice 24 v (some (.int .i64 (k : Nat))) none none).run Tryd.prog w' = .ok vb w') := rb
    have HSva : Hid (HIn w0 va (hs.take k)) := sa
    have HSvb : Hid (HIn w0 vb (hs.drop k)) := sb
    have LA : Hid ((hs.take k).length = k) := by show _ = _; rw [List.length_take]; omega
    have LB : Hid ((hs.drop k).length = n - k) := by show _ = _; rw [List.length_drop]; omega
    clear ra rb sa sb hn
    have hlow' : (m : Int) ≤ (k : Int) := by omega
    go_enter Tryd.func33, Tryd.ntmps33
    go_wp2_with (first
      | (refine wl_lenN (.tmp 10) rfl rfl v hs rfl h n HN.out ?_)
      | (refine wl_lenN (.tmp 20) rfl rfl v hs rfl h n HN.out ?_)
      | (go_at_call 31; refine (HK.out _).mono ?_; rintro e w' ⟨rfl, rfl⟩))
    refine wp_region_held (S := fun W => Row W gf 59 [(fv35 gf gp)]) (by kernel_rfl) ?_
    show wpAnyH _ _ _ _ _ 7 (Array.replicate 7 false) _ _
    have hS : Row { W with drawn := W.drawn + 1 } gf 59 [(fv35 gf gp)] := R0.out.1.elim fun pv h => h.1
    have p0 : PrIn { W with drawn := W.drawn + 1 } gf gp 59 B (fv35 gf gp) P := R0.out.1
    have b0 : Below w0.heap.size w0 { W with drawn := W.drawn + 1 } := below_append R0.out.2 (below_drawn W _)
    clear R0
    refine takeH (i := 0) (some 26) rfl rfl (by kernel_rfl) (by kernel_rfl) (by kernel_rfl) (fun _ _ _ h => h) (yRun rfl _ (fun W hW => rx_load1 one50 (.tmp 4) rfl gf 0 rfl (fv35 gf gp) (Row.at hW 0 (fv35 gf gp) rfl))) hS ?_
    simp only [Act.put, List.setIfInBounds_toArray, List.set_cons_succ, List.set_cons_zero]
    refine takeH (i := 1) (some 27) rfl rfl (by kernel_rfl) (by kernel_rfl) (by kernel_rfl) (fun _ _ _ h => h) (yMove rfl (.tmp 0) rfl (v) rfl) hS ?_
    simp only [Act.put, List.setIfInBounds_toArray, List.set_cons_succ, List.set_cons_zero]
    refine takeH (i := 2) (some 28) rfl rfl (by kernel_rfl) (by kernel_rfl) (by kernel_rfl) (fun _ _ _ h => h) (yMove rfl (.tmp 8) rfl (.int .i64 (k : Nat)) rfl) hS ?_
    simp only [Act.put, List.setIfInBounds_toArray, List.set_cons_succ, List.set_cons_zero]
    refine takeH (i := 3) (some 29) rfl rfl (by kernel_rfl) (by kernel_rfl) (by kernel_rfl) (fun _ _ _ h => h) (ySub rfl (.tmp 27) none (some (.tmp 28)) rfl v va rfl HA.out) hS ?_
    simp only [Act.put, List.setIfInBounds_toArray, List.set_cons_succ, List.set_cons_zero]
    refine takeH (i := 4) (some 30) rfl rfl (by kernel_rfl) (by kernel_rfl) (by kernel_rfl) (fun _ _ _ h => h) (yMove rfl (.tmp 1) rfl (.int .i64 (m : Nat)) rfl) hS ?_
    simp only [Act.put, List.setIfInBounds_toArray, List.set_cons_succ, List.set_cons_zero]
    refine takeH (i := 5) (some 31) rfl rfl (by kernel_rfl) (by kernel_rfl) (by kernel_rfl) (fun _ _ _ h => h) (yMove rfl (.tmp 2) rfl (.bool b) rfl) hS ?_
    simp only [Act.put, List.setIfInBounds_toArray, List.set_cons_succ, List.set_cons_zero]
    refine oneH (i := 6) (by kernel_rfl) ?_
    refine opCallA (some 32) rfl rfl rfl 33 _ (run_callV en35 26 [pt gp, pt gf] [.tmp 29, .tmp 30, .tmp 31] _ rfl rfl [va, .int .i64 (m : Nat), .bool b] rfl) ?_
    refine (ih k (by omega) va (hs.take k) m b P _ LA.out (by omega) (by omega) (by omega) LP.out HSva.out p0 b0).mono ?_
    rintro e w1 ⟨rfl, p1, b1⟩
    have R1 : Hid (PrIn w1 gf gp 59 B (fv35 gf gp) (P ++ Tree.part (hs.take k) m b) ∧ Below w0.heap.size w0 w1) := ⟨p1, b1⟩
    refine ⟨_, rfl, p1.elim fun pv h => h.1, ?_⟩
    clear p1 b1 p0 b0 hS
    simp only [Act.put, List.setIfInBounds_toArray, List.set_cons_succ, List.set_cons_zero]
    refine wpAnyH_done (by kernel_rfl) ?_ _
    go_wp2_with fail
    obtain ⟨pv, hpv⟩ := R1.out.1
    have RP : Hid (Row w1 gp 24 [pv] ∧ Row w1 gf 59 [(fv35 gf gp)] ∧ HOwn w1 B pv (P ++ Tree.part (hs.take k) m b) ∧ B ≤ w1.heap.size ∧ Below w0.heap.size w0 w1) := ⟨hpv.2.1, hpv.1, hpv.2.2.1, hpv.2.2.2, R1.out.2⟩
    clear hpv R1
    refine wp_region_until (S := fun W => Row W gp 24 [pv]) 7 (by kernel_rfl) ?_
    show wpAnyU _ _ _ _ _ _ 8 (Array.replicate 8 false) _ _
    have hS : Row { w1 with drawn := w1.drawn + 1 } gp 24 [pv] := RP.out.1
    have bd : Below w0.heap.size w0 { w1 with drawn := w1.drawn + 1 } := below_append RP.out.2.2.2.2 (below_drawn w1 _)
    refine takeU (i := 0) (some 33) rfl rfl (by kernel_rfl) (by kernel_rfl) (by kernel_rfl) (by kernel_rfl) (by kernel_rfl) (fun _ _ _ h => h) (yRun rfl _ (fun W hW => rx_load1 one24 (.tmp 3) rfl gp 0 rfl pv (Row.at hW 0 pv rfl))) hS ?_
    simp only [Act.put, List.setIfInBounds_toArray, List.set_cons_succ, List.set_cons_zero]
    refine takeU (i := 1) (some 34) rfl rfl (by kernel_rfl) (by kernel_rfl) (by kernel_rfl) (by kernel_rfl) (by kernel_rfl) (fun _ _ _ h => h) (yMove rfl (.tmp 0) rfl (v) rfl) hS ?_
    simp only [Act.put, List.setIfInBounds_toArray, List.set_cons_succ, List.set_cons_zero]
    refine takeU (i := 2) (some 35) rfl rfl (by kernel_rfl) (by kernel_rfl) (by kernel_rfl) (by kernel_rfl) (by kernel_rfl) (fun _ _ _ h => h) (yMove rfl (.tmp 8) rfl (.int .i64 (k : Nat)) rfl) hS ?_
    simp only [Act.put, List.setIfInBounds_toArray, List.set_cons_succ, List.set_cons_zero]
    refine takeU (i := 3) (some 36) rfl rfl (by kernel_rfl) (by kernel_rfl) (by kernel_rfl) (by kernel_rfl) (by kernel_rfl) (fun _ _ _ h => h) (ySub rfl (.tmp 34) (some (.tmp 35)) none rfl v vb rfl HBr.out) hS ?_
    simp only [Act.put, List.setIfInBounds_toArray, List.set_cons_succ, List.set_cons_zero]
    refine oneU (i := 4) (by kernel_rfl) ?_
    refine opCallA (some 37) rfl rfl rfl 16 _ (run_call en12 [.tmp 36] _ rfl [vb] rfl) ?_
    refine (root_any _ vb (hs.drop k) _ LB.out (by omega) (HSvb.out.later bd) (ht.later bd) (hst.later bd)).mono ?_
    rintro e w2 ⟨rfl, b2⟩
    have b12 : Below w1.heap.size w1 w2 := below_append (below_drawn w1 _) b2
    have P2 : Hid (Row w2 gp 24 [pv] ∧ Row w2 gf 59 [(fv35 gf gp)] ∧ HOwn w2 B pv (P ++ Tree.part (hs.take k) m b) ∧ B ≤ w2.heap.size ∧ Below w0.heap.size w0 w2) := ⟨RP.out.1.later b12 RP.out.1.lt, RP.out.2.1.later b12 RP.out.2.1.lt, RP.out.2.2.1.later b12 (Nat.le_refl _), Nat.le_trans RP.out.2.2.2.1 b12.size, below_append RP.out.2.2.2.2 b12⟩
    refine ⟨_, rfl, fun _ => P2.out.1, ?_⟩
    clear b2 b12 hS RP bd
    have HH : Hid (IsH (Tree.root (hs.drop k))) := HSvb.out.all.root
    generalize Tree.root (hs.drop k) = rt at HR HH ⊢
    simp only [Act.put, List.setIfInBounds_toArray, List.set_cons_succ, List.set_cons_zero]
    refine oneU (i := 5) (by kernel_rfl) ?_
    refine opVal (some 38) rfl rfl rfl _ _ (rx_lit1 (.tmp 37) rfl rt HH.out rfl) ?_
    have b4 := below_alloc w2 (.cells (bcells [rt].flatten).toArray 23)
    have hl4 : HIn (w2.alloc (.cells (bcells [rt].flatten).toArray 23)) (.slice (some ⟨w2.heap.size, 0, none⟩) 1 1) [rt] := (hlit_own w2 w2.heap.size (Nat.le_refl _) [rt] (AllH.one HH.out) (by simp)).hin
    generalize w2.alloc (.cells (bcells [rt].flatten).toArray 23) = w4 at b4 hl4 ⊢
    have P4 : Hid (Row w4 gp 24 [pv] ∧ Row w4 gf 59 [(fv35 gf gp)] ∧ HOwn w4 B pv (P ++ Tree.part (hs.take k) m b) ∧ B ≤ w4.heap.size ∧ Below w0.heap.size w0 w4) := ⟨P2.out.1.later b4 P2.out.1.lt, P2.out.2.1.later b4 P2.out.2.1.lt, P2.out.2.2.1.later b4 (Nat.le_refl _), Nat.le_trans P2.out.2.2.2.1 b4.size, below_append P2.out.2.2.2.2 b4⟩
    refine ⟨fun _ => P4.out.1, ?_⟩
    clear b4 P2
    simp only [Act.put, List.setIfInBounds_toArray, List.set_cons_succ, List.set_cons_zero]
    refine oneU (i := 6) (by kernel_rfl) ?_
    obtain ⟨v5, w5, hr5, o5, g5⟩ := run_happend B 24 pv _ (P ++ Tree.part (hs.take k) m b) [rt] P4.out.2.2.1 hl4 (by have := LP.out; simp only [List.length_cons, List.length_nil, List.length_append]; omega) P4.out.2.2.2.1
    refine opVal (some 39) rfl rfl rfl v5 w5 (rx_append (.tmp 33) (.tmp 38) rfl pv _ v5 w5 rfl rfl hr5) ?_
    have b5 : Below B w4 w5 := P4.out.2.2.1.below g5 P4.out.2.2.2.1
    have P5 : Hid (Row w5 gp 24 [pv] ∧ Row w5 gf 59 [(fv35 gf gp)] ∧ HOwn w5 B v5 ((P ++ Tree.part (hs.take k) m b) ++ [rt]) ∧ B ≤ w5.heap.size ∧ Below w0.heap.size w0 w5) := ⟨P4.out.1.later b5 HG.out.2.2.2.1, P4.out.2.1.later b5 HG.out.2.2.1, o5, Nat.le_trans P4.out.2.2.2.1 b5.size, P4.out.2.2.2.2.trans (b5.mono (Nat.le_trans HG.out.1 (Nat.le_of_lt HG.out.2.2.1)))⟩
    refine ⟨fun _ => P5.out.1, ?_⟩
    clear b5 P4 o5 g5 hr5 hl4
    simp only [Act.put, List.setIfInBounds_toArray, List.set_cons_succ, List.set_cons_zero]
    refine oneU (i := 7) (by kernel_rfl) ?_
    refine opSkip rfl rfl rfl _ (rx_store1 size24 (.tmp 3) (.tmp 39) rfl gp 0 24 [pv] rfl v5 rfl P5.out.2.2.1.one P5.out.1 (by simp)) ?_
    have o6 : Only gp w5 (w5.setRow gp (splice [pv] 0 [v5]).toArray) := (Only.refl gp w5).setRow _
    have R6 : Hid (PrIn (w5.setRow gp (splice [pv] 0 [v5]).toArray) gf gp 59 B (fv35 gf gp) (P ++ Tree.part hs m b) ∧ Below w0.heap.size w0 (w5.setRow gp (splice [pv] 0 [v5]).toArray)) := by
      refine ⟨⟨v5, o6.row HG.out.2.2.2.2 P5.out.2.1, P5.out.1.one v5, ?_, Nat.le_trans P5.out.2.2.2.1 o6.size⟩, P5.out.2.2.2.2.trans (o6.below HG.out.2.1 P5.out.2.2.2.2.size)⟩
      rw [HR.out]
      exact P5.out.2.2.1.only o6 HG.out.2.2.2.1
    refine ⟨fun h => absurd h (by decide), ?_⟩
    generalize w5.setRow gp (splice [pv] 0 [v5]).toArray = w6 at R6 ⊢
    clear o6 P5
    refine wpAnyU_done (by kernel_rfl) ?_ _
    go_wp2_with fail
    first | go_end0 | refine bodyPost_ret (results_none rfl _ _ _) rfl ?_
    exact ⟨rfl, R6.out.1, R6.out.2⟩
  · have hR : Tree.part hs m b = Tree.part (hs.drop (Tree.half n)) (m - Tree.half n) false ++ [Tree.root (hs.take (Tree.half n))] := by
      have := Tree.part_high hs m b (by omega) (by omega) (by rw [hn]; exact hlow)
      rwa [hn] at this
    have HR : Hid (P ++ Tree.part hs m b = (P ++ Tree.part (hs.drop (Tree.half n)) (m - Tree.half n) false) ++ [Tree.root (hs.take (Tree.half n))]) := by show _ = _; rw [hR, List.append_assoc]
    have LP : Hid (P.length + (Tree.part (hs.drop (Tree.half n)) (m - Tree.half n) false).length ≤ 1000) := by
      show _ ≤ _
      rw [hR, List.length_append] at hP
      omega
    clear hR hP
    generalize Tree.half n = k at hk hkp hkg HK HR LP hlow
    obtain ⟨va, ra, sa⟩ := run_hto h k (by omega)
    obtain ⟨vb, rb, sb⟩ := run_hfrom h k (by omega)
    have HA : Hid (∀ w', (Instr.slice 24 v none (some (.int .i64 (k : Nat))) none).run Tryd.prog w' = .ok va w') := ra
    have HBr : Hid (∀ w', (Instr.slice 24 v (some (.int .i64 (k : Nat))) none none).run Tryd.prog w' = .ok vb w') := rb
    have HSva : Hid (HIn w0 va (hs.take k)) := sa
    have HSvb : Hid (HIn w0 vb (hs.drop k)) := sb
    have LA : Hid ((hs.take k).length = k) := by show _ = _; rw [List.length_take]; omega
    have LB : Hid ((hs.drop k).length = n - k) := by show _ = _; rw [List.length_drop]; omega
    clear ra rb sa sb hn
    have hlow' : ¬ (m : Int) ≤ (k : Int) := by omega
    go_enter Tryd.func33, Tryd.ntmps33
    go_wp2_with (first
      | (refine wl_lenN (.tmp 10) rfl rfl v hs rfl h n HN.out ?_)
      | (refine wl_lenN (.tmp 20) rfl rfl v hs rfl h n HN.out ?_)
      | (go_at_call 31; refine (HK.out _).mono ?_; rintro e w' ⟨rfl, rfl⟩))
    refine wp_region_held (S := fun W => Row W gf 59 [(fv35 gf gp)]) (by kernel_rfl) ?_
    show wpAnyH _ _ _ _ _ 8 (Array.replicate 8 false) _ _
    have hS : Row { W with drawn := W.drawn + 1 } gf 59 [(fv35 gf gp)] := R0.out.1.elim fun pv h => h.1
    have p0 : PrIn { W with drawn := W.drawn + 1 } gf gp 59 B (fv35 gf gp) P := R0.out.1
    have b0 : Below w0.heap.size w0 { W with drawn := W.drawn + 1 } := below_append R0.out.2 (below_drawn W _)
    clear R0
    refine takeH (i := 0) (some 40) rfl rfl (by kernel_rfl) (by kernel_rfl) (by kernel_rfl) (fun _ _ _ h => h) (yRun rfl _ (fun W hW => rx_load1 one50 (.tmp 4) rfl gf 0 rfl (fv35 gf gp) (Row.at hW 0 (fv35 gf gp) rfl))) hS ?_
    simp only [Act.put, List.setIfInBounds_toArray, List.set_cons_succ, List.set_cons_zero]
    refine takeH (i := 1) (some 41) rfl rfl (by kernel_rfl) (by kernel_rfl) (by kernel_rfl) (fun _ _ _ h => h) (yMove rfl (.tmp 0) rfl (v) rfl) hS ?_
    simp only [Act.put, List.setIfInBounds_toArray, List.set_cons_succ, List.set_cons_zero]
    refine takeH (i := 2) (some 42) rfl rfl (by kernel_rfl) (by kernel_rfl) (by kernel_rfl) (fun _ _ _ h => h) (yMove rfl (.tmp 8) rfl (.int .i64 (k : Nat)) rfl) hS ?_
    simp only [Act.put, List.setIfInBounds_toArray, List.set_cons_succ, List.set_cons_zero]
    refine takeH (i := 3) (some 43) rfl rfl (by kernel_rfl) (by kernel_rfl) (by kernel_rfl) (fun _ _ _ h => h) (ySub rfl (.tmp 41) (some (.tmp 42)) none rfl v vb rfl HBr.out) hS ?_
    simp only [Act.put, List.setIfInBounds_toArray, List.set_cons_succ, List.set_cons_zero]
    refine takeH (i := 4) (some 44) rfl rfl (by kernel_rfl) (by kernel_rfl) (by kernel_rfl) (fun _ _ _ h => h) (yMove rfl (.tmp 1) rfl (.int .i64 (m : Nat)) rfl) hS ?_
    simp only [Act.put, List.setIfInBounds_toArray, List.set_cons_succ, List.set_cons_zero]
    refine takeH (i := 5) (some 45) rfl rfl (by kernel_rfl) (by kernel_rfl) (by kernel_rfl) (fun _ _ _ h => h) (yMove rfl (.tmp 8) rfl (.int .i64 (k : Nat)) rfl) hS ?_
    simp only [Act.put, List.setIfInBounds_toArray, List.set_cons_succ, List.set_cons_zero]
    refine takeH (i := 6) (some 46) rfl rfl (by kernel_rfl) (by kernel_rfl) (by kernel_rfl) (fun _ _ _ h => h) (yRun rfl _ (fun _ _ => rx_minus (.tmp 44) (.tmp 45) rfl m k rfl rfl (by omega) (by omega))) hS ?_
    simp only [Act.put, List.setIfInBounds_toArray, List.set_cons_succ, List.set_cons_zero]
    refine oneH (i := 7) (by kernel_rfl) ?_
    refine opCallA (some 47) rfl rfl rfl 33 _ (run_callV en35 40 [pt gp, pt gf] [.tmp 43, .tmp 46, .const (.bool false)] _ rfl rfl [vb, .int .i64 ((m - k : Nat) : Int), .bool false] rfl) ?_
    refine (ih (n - k) (by omega) vb (hs.drop k) (m - k) false P _ LB.out (by omega) (by omega) (by omega) LP.out HSvb.out p0 b0).mono ?_
    rintro e w1 ⟨rfl, p1, b1⟩
    have R1 : Hid (PrIn w1 gf gp 59 B (fv35 gf gp) (P ++ Tree.part (hs.drop k) (m - k) false) ∧ Below w0.heap.size w0 w1) := ⟨p1, b1⟩
    refine ⟨_, rfl, p1.elim fun pv h => h.1, ?_⟩
    clear p1 b1 p0 b0 hS
    simp only [Act.put, List.setIfInBounds_toArray, List.set_cons_succ, List.set_cons_zero]
    refine wpAnyH_done (by kernel_rfl) ?_ _
    go_wp2_with fail
    obtain ⟨pv, hpv⟩ := R1.out.1
    have RP : Hid (Row w1 gp 24 [pv] ∧ Row w1 gf 59 [(fv35 gf gp)] ∧ HOwn w1 B pv (P ++ Tree.part (hs.drop k) (m - k) false) ∧ B ≤ w1.heap.size ∧ Below w0.heap.size w0 w1) := ⟨hpv.2.1, hpv.1, hpv.2.2.1, hpv.2.2.2, R1.out.2⟩
    clear hpv R1
    refine wp_region_until (S := fun W => Row W gp 24 [pv]) 7 (by kernel_rfl) ?_
    show wpAnyU _ _ _ _ _ _ 8 (Array.replicate 8 false) _ _
    have hS : Row { w1 with drawn := w1.drawn + 1 } gp 24 [pv] := RP.out.1
    have bd : Below w0.heap.size w0 { w1 with drawn := w1.drawn + 1 } := below_append RP.out.2.2.2.2 (below_drawn w1 _)
    refine takeU (i := 0) (some 48) rfl rfl (by kernel_rfl) (by kernel_rfl) (by kernel_rfl) (by kernel_rfl) (by kernel_rfl) (fun _ _ _ h => h) (yRun rfl _ (fun W hW => rx_load1 one24 (.tmp 3) rfl gp 0 rfl pv (Row.at hW 0 pv rfl))) hS ?_
    simp only [Act.put, List.setIfInBounds_toArray, List.set_cons_succ, List.set_cons_zero]
    refine takeU (i := 1) (some 49) rfl rfl (by kernel_rfl) (by kernel_rfl) (by kernel_rfl) (by kernel_rfl) (by kernel_rfl) (fun _ _ _ h => h) (yMove rfl (.tmp 0) rfl (v) rfl) hS ?_
    simp only [Act.put, List.setIfInBounds_toArray, List.set_cons_succ, List.set_cons_zero]
    refine takeU (i := 2) (some 50) rfl rfl (by kernel_rfl) (by kernel_rfl) (by kernel_rfl) (by kernel_rfl) (by kernel_rfl) (fun _ _ _ h => h) (yMove rfl (.tmp 8) rfl (.int .i64 (k : Nat)) rfl) hS ?_
    simp only [Act.put, List.setIfInBounds_toArray, List.set_cons_succ, List.set_cons_zero]
    refine takeU (i := 3) (some 51) rfl rfl (by kernel_rfl) (by kernel_rfl) (by kernel_rfl) (by kernel_rfl) (by kernel_rfl) (fun _ _ _ h => h) (ySub rfl (.tmp 49) none (some (.tmp 50)) rfl v va rfl HA.out) hS ?_
    simp only [Act.put, List.setIfInBounds_toArray, List.set_cons_succ, List.set_cons_zero]
    refine oneU (i := 4) (by kernel_rfl) ?_
    refine opCallA (some 52) rfl rfl rfl 16 _ (run_call en12 [.tmp 51] _ rfl [va] rfl) ?_
    refine (root_any _ va (hs.take k) _ LA.out (by omega) (HSva.out.later bd) (ht.later bd) (hst.later bd)).mono ?_
    rintro e w2 ⟨rfl, b2⟩
    have b12 : Below w1.heap.size w1 w2 := below_append (below_drawn w1 _) b2
    have P2 : Hid (Row w2 gp 24 [pv] ∧ Row w2 gf 59 [(fv35 gf gp)] ∧ HOwn w2 B pv (P ++ Tree.part (hs.drop k) (m - k) false) ∧ B ≤ w2.heap.size ∧ Below w0.heap.size w0 w2) := ⟨RP.out.1.later b12 RP.out.1.lt, RP.out.2.1.later b12 RP.out.2.1.lt, RP.out.2.2.1.later b12 (Nat.le_refl _), Nat.le_trans RP.out.2.2.2.1 b12.size, below_append RP.out.2.2.2.2 b12⟩
    refine ⟨_, rfl, fun _ => P2.out.1, ?_⟩
    clear b2 b12 hS RP bd
    have HH : Hid (IsH (Tree.root (hs.take k))) := HSva.out.all.root
    generalize Tree.root (hs.take k) = rt at HR HH ⊢
    simp only [Act.put, List.setIfInBounds_toArray, List.set_cons_succ, List.set_cons_zero]
    refine oneU (i := 5) (by kernel_rfl) ?_
    refine opVal (some 53) rfl rfl rfl _ _ (rx_lit1 (.tmp 52) rfl rt HH.out rfl) ?_
    have b4 := below_alloc w2 (.cells (bcells [rt].flatten).toArray 23)
    have hl4 : HIn (w2.alloc (.cells (bcells [rt].flatten).toArray 23)) (.slice (some ⟨w2.heap.size, 0, none⟩) 1 1) [rt] := (hlit_own w2 w2.heap.size (Nat.le_refl _) [rt] (AllH.one HH.out) (by simp)).hin
    generalize w2.alloc (.cells (bcells [rt].flatten).toArray 23) = w4 at b4 hl4 ⊢
    have P4 : Hid (Row w4 gp 24 [pv] ∧ Row w4 gf 59 [(fv35 gf gp)] ∧ HOwn w4 B pv (P ++ Tree.part (hs.drop k) (m - k) false) ∧ B ≤ w4.heap.size ∧ Below w0.heap.size w0 w4) := ⟨P2.out.1.later b4 P2.out.1.lt, P2.out.2.1.later b4 P2.out.2.1.lt, P2.out.2.2.1.later b4 (Nat.le_refl _), Nat.le_trans P2.out.2.2.2.1 b4.size, below_append P2.out.2.2.2.2 b4⟩
    refine ⟨fun _ => P4.out.1, ?_⟩
    clear b4 P2
    simp only [Act.put, List.setIfInBounds_toArray, List.set_cons_succ, List.set_cons_zero]
    refine oneU (i := 6) (by kernel_rfl) ?_
    obtain ⟨v5, w5, hr5, o5, g5⟩ := run_happend B 24 pv _ (P ++ Tree.part (hs.drop k) (m - k) false) [rt] P4.out.2.2.1 hl4 (by have := LP.out; simp only [List.length_cons, List.length_nil, List.length_append]; omega) P4.out.2.2.2.1
    refine opVal (some 54) rfl rfl rfl v5 w5 (rx_append (.tmp 48) (.tmp 53) rfl pv _ v5 w5 rfl rfl hr5) ?_
    have b5 : Below B w4 w5 := P4.out.2.2.1.below g5 P4.out.2.2.2.1
    have P5 : Hid (Row w5 gp 24 [pv] ∧ Row w5 gf 59 [(fv35 gf gp)] ∧ HOwn w5 B v5 ((P ++ Tree.part (hs.drop k) (m - k) false) ++ [rt]) ∧ B ≤ w5.heap.size ∧ Below w0.heap.size w0 w5) := ⟨P4.out.1.later b5 HG.out.2.2.2.1, P4.out.2.1.later b5 HG.out.2.2.1, o5, Nat.le_trans P4.out.2.2.2.1 b5.size, P4.out.2.2.2.2.trans (b5.mono (Nat.le_trans HG.out.1 (Nat.le_of_lt HG.out.2.2.1)))⟩
    refine ⟨fun _ => P5.out.1, ?_⟩
    clear b5 P4 o5 g5 hr5 hl4
    simp only [Act.put, List.setIfInBounds_toArray, List.set_cons_succ, List.set_cons_zero]
    refine oneU (i := 7) (by kernel_rfl) ?_
    refine opSkip rfl rfl rfl _ (rx_store1 size24 (.tmp 3) (.tmp 54) rfl gp 0 24 [pv] rfl v5 rfl P5.out.2.2.1.one P5.out.1 (by simp)) ?_
    have o6 : Only gp w5 (w5.setRow gp (splice [pv] 0 [v5]).toArray) := (Only.refl gp w5).setRow _
    have R6 : Hid (PrIn (w5.setRow gp (splice [pv] 0 [v5]).toArray) gf gp 59 B (fv35 gf gp) (P ++ Tree.part hs m b) ∧ Below w0.heap.size w0 (w5.setRow gp (splice [pv] 0 [v5]).toArray)) := by
      refine ⟨⟨v5, o6.row HG.out.2.2.2.2 P5.out.2.1, P5.out.1.one v5, ?_, Nat.le_trans P5.out.2.2.2.1 o6.size⟩, P5.out.2.2.2.2.trans (o6.below HG.out.2.1 P5.out.2.2.2.2.size)⟩
      rw [HR.out]
      exact P5.out.2.2.1.only o6 HG.out.2.2.2.1
    refine ⟨fun h => absurd h (by decide), ?_⟩
    generalize w5.setRow gp (splice [pv] 0 [v5]).toArray = w6 at R6 ⊢
    clear o6 P5
    refine wpAnyU_done (by kernel_rfl) ?_ _
    go_wp2_with fail
    first | go_end0 | refine bodyPost_ret (results_none rfl _ _ _) rfl ?_
    exact ⟨rfl, R6.out.1, R6.out.2⟩
end Go.Proofs.YtjdmpanemdhbbaaDoor

/- The way up: the closure of verify.Inclusion. -/
import Derived.Test.YtjdmpanemdhbbaaDoorParted
namespace Go.Proofs.YtjdmpanemdhbbaaDoor
open Go.RowKit

def fv23 (gl gf : Nat) : Value := .func (.func 23) #[] #[pt gl, pt gf]
theorem one44 : OneT 44 := fun w g o v h => by simp [loadVar, isAgg, run_underlying Tryd.underlying44, h]
theorem size44 : OneS 44 := by unfold OneS; kernel_rfl
theorem zero44 : (Tryd.prog.info? 44).map (·.zero) = some (some .nilFunc) := by kernel_rfl
/-- what is told of a way -/
def UpTold (w : World) (o : Option (List Nat)) (e : Ending) (w' : World) : Prop := ∃ h, e = .returned (.tuple #[hv h, .bool o.isSome]) ∧ IsH h ∧ (∀ y, o = some y → h = y) ∧ Below w.heap.size w w'
theorem UpTold.no {w w' : World} {e : Ending} (h : UpTold w none e w') : ∃ h, e = .returned (.tuple #[hv h, .bool false]) ∧ IsH h ∧ Below w.heap.size w w' := by
  obtain ⟨h, rfl, hh, _, hb⟩ := h
  exact ⟨h, rfl, hh, hb⟩
theorem UpTold.yes {w w' : World} {e : Ending} {z : List Nat} (h : UpTold w (some z) e w') : e = .returned (.tuple #[hv z, .bool true]) ∧ IsH z ∧ Below w.heap.size w w' := by
  obtain ⟨h, rfl, hh, hz, hb⟩ := h
  have := hz z rfl
  subst this
  exact ⟨rfl, hh, hb⟩
section
variable {w : World} {ops : Array Oper} {rest : List Oper} {o : Oper} {a : Act} {Q : Exit → Act → World → Prop}
theorem run_zero23 (w : World) : (Instr.build 23 #[]).run Tryd.prog w = .ok (hv noH) w := by kernel_rfl
theorem wl_zero23 (hgd : Region.wanted o (yielded ops a.tmps) = true) (ho : o.op = .build 23 #[]) (h : wpList Tryd.prog ops Q rest (a.put o.dst (hv noH)) w) : wpList Tryd.prog ops Q (o :: rest) a w :=
  wl hgd _ w (by simp only [execOp, ho, List.map_toArray, List.map_nil, run_zero23, Sem.run_bind, Sem.run_pure, Result.andThen_ok]) h
end

set_option maxHeartbeats 1000000 in
set_option maxRecDepth 100000 in
theorem up1_one (gl gf : Nat) (leaf : List Nat) (m : Nat) (v : Value) (row : List (List Nat)) (W : World) (h : HIn W v row) (hl : HIs W gl leaf) :
    Calls Tryd.prog 23 #[.int .i64 (m : Nat), .int .i64 1, v, pt gl, pt gf] W fun e W' => UpTold W (Tree.up leaf m 1 row) e W' := by
  obtain ⟨k, hk⟩ : ∃ k, row.length = k := ⟨_, rfl⟩
  have HK : Hid (row.length = k) := hk
  obtain ⟨g0, hg0⟩ : ∃ g0, g0 = W.heap.size := ⟨_, rfl⟩
  have G0 : Hid (g0 = W.heap.size) := hg0
  have HL : Hid (HIs W gl leaf) := hl
  clear hl
  by_cases hk0 : k = 0
  · have HU : Hid (Tree.up leaf m 1 row = some leaf) := by show _ = _; rw [Tree.up_one _ _ _ _ (by decide), if_pos (by omega)]
    clear hk
    subst hk0
    go_enter Tryd.func23, Tryd.ntmps23
    go_wp2_with (first
      | (refine wl_alloc rfl rfl ?_; rw [← hg0]; intro w1 r1 s1 b1; have R1 : Hid (HIs w1 g0 noH ∧ Below W.heap.size W w1) := ⟨r1, hg0 ▸ b1⟩; clear r1 s1 b1 hg0)
      | (refine wl_load (.tmp 3) rfl rfl _ rfl leaf (HL.out.next R1.out.2).at ?_)
      | (refine wl_lenN (.tmp 20) rfl rfl v row rfl h 0 HK.out ?_)
      | (refine wl_store (.tmp 8) (.tmp 19) rfl rfl rfl g0 rfl noH leaf HL.out.1 rfl R1.out.1 ?_; intro w7 r7 o7 s7; have R7 : Hid (HIs w7 g0 leaf ∧ Below W.heap.size W w7) := ⟨r7, R1.out.2.trans (o7.below (by rw [G0.out]; exact Nat.le_refl _) R1.out.2.size)⟩; clear r7 o7 s7))
    exact bodyPost_ret (results_HB Tryd.results23 _ _ g0 rfl _ R7.out.1 _ rfl) rfl ⟨leaf, by rw [HU.out]; rfl, HL.out.1, (fun y hy => by rw [HU.out] at hy; exact Option.some.inj hy), R7.out.2⟩
  · have HU : Hid (Tree.up leaf m 1 row = none) := by show _ = _; rw [Tree.up_one _ _ _ _ (by decide), if_neg (by omega)]
    have hne : ((k : Int) == 0) = false := by simp; omega
    have hne' : ¬ ((k : Int) = 0) := by omega
    clear hk
    go_enter Tryd.func23, Tryd.ntmps23
    go_wp2_with (first
      | (refine wl_alloc rfl rfl ?_; rw [← hg0]; intro w1 r1 s1 b1; have R1 : Hid (HIs w1 g0 noH ∧ Below W.heap.size W w1) := ⟨r1, hg0 ▸ b1⟩; clear r1 s1 b1 hg0)
      | (refine wl_load (.tmp 3) rfl rfl _ rfl leaf (HL.out.next R1.out.2).at ?_)
      | (refine wl_lenN (.tmp 20) rfl rfl v row rfl h k HK.out ?_)
      | (refine wl_store (.tmp 8) (.tmp 19) rfl rfl rfl g0 rfl noH leaf HL.out.1 rfl R1.out.1 ?_; intro w7 r7 o7 s7; have R7 : Hid (HIs w7 g0 leaf ∧ Below W.heap.size W w7) := ⟨r7, R1.out.2.trans (o7.below (by rw [G0.out]; exact Nat.le_refl _) R1.out.2.size)⟩; clear r7 o7 s7))
    exact bodyPost_ret (results_HB Tryd.results23 _ _ g0 rfl _ R7.out.1 _ rfl) rfl ⟨leaf, by rw [HU.out]; rfl, HL.out.1, (fun y hy => by rw [HU.out] at hy; cases hy), R7.out.2⟩

set_option maxHeartbeats 1000000 in
set_option maxRecDepth 100000 in
theorem up1_none (gl gf : Nat) (leaf : List Nat) (m n : Nat) (v : Value) (row : List (List Nat)) (W : World) (h : HIn W v row) (h2 : 2 ≤ n) (hr : row.length = 0) :
    Calls Tryd.prog 23 #[.int .i64 (m : Nat), .int .i64 (n : Nat), v, pt gl, pt gf] W fun e W' => UpTold W (Tree.up leaf m n row) e W' := by
  have HK : Hid (row.length = 0) := hr
  have HU : Hid (Tree.up leaf m n row = none) := Tree.up_none _ _ _ _ h2 hr
  obtain ⟨g0, hg0⟩ : ∃ g0, g0 = W.heap.size := ⟨_, rfl⟩
  have G0 : Hid (g0 = W.heap.size) := hg0
  have hne1 : ((n : Int) == 1) = false := by simp; omega
  have hne1' : ¬ ((n : Int) = 1) := by omega
  clear hr
  go_enter Tryd.func23, Tryd.ntmps23
  go_wp2_with (first
    | (refine wl_alloc rfl rfl ?_; rw [← hg0]; intro w1 r1 s1 b1; have R1 : Hid (HIs w1 g0 noH ∧ Below W.heap.size W w1) := ⟨r1, hg0 ▸ b1⟩; clear r1 s1 b1 hg0)
    | (refine wl_lenN (.tmp 23) rfl rfl v row rfl h 0 HK.out ?_)
    | (refine wl_zero23 rfl rfl ?_)
    | (refine wl_store (.tmp 8) (.tmp 26) rfl rfl rfl g0 rfl noH noH noH_isH rfl R1.out.1 ?_; intro w7 r7 o7 s7; have R7 : Hid (HIs w7 g0 noH ∧ Below W.heap.size W w7) := ⟨r7, R1.out.2.trans (o7.below (by rw [G0.out]; exact Nat.le_refl _) R1.out.2.size)⟩; clear r7 o7 s7))
  exact bodyPost_ret (results_HB Tryd.results23 _ _ g0 rfl _ R7.out.1 _ rfl) rfl ⟨noH, by rw [HU.out]; rfl, noH_isH, (fun y hy => by rw [HU.out] at hy; cases hy), R7.out.2⟩

set_option maxHeartbeats 8000000 in
set_option maxRecDepth 100000 in
theorem up1_any (gl gf : Nat) (leaf : List Nat) : ∀ (n m : Nat) (v : Value) (row : List (List Nat)) (W : World), 1 ≤ n → n ≤ 9223372036854775807 → m < n → HIn W v row → TabIn W → StartIn W → HIs W gl leaf → Row W gf 44 [fv23 gl gf] →
    Calls Tryd.prog 23 #[.int .i64 (m : Nat), .int .i64 (n : Nat), v, pt gl, pt gf] W fun e W' => UpTold W (Tree.up leaf m n row) e W' := by
  intro n
  induction n using Nat.strongRecOn with
  | _ n ih =>
  intro m v row W h1 hmax hm h ht hst hl hf
  by_cases hn1 : n = 1
  · subst hn1
    exact up1_one gl gf leaf m v row W h hl
  have h2 : 2 ≤ n := by omega
  by_cases hr : row.length = 0
  · exact up1_none gl gf leaf m n v row W h h2 hr
  have HL : Hid (HIs W gl leaf ∧ Row W gf 44 [fv23 gl gf]) := ⟨hl, hf⟩
  have HPT : Hid (IsH (Tree.lastOf row)) := last_isH h.all hr
  obtain ⟨N, hN⟩ : ∃ N, row.length = N + 1 := ⟨row.length - 1, by omega⟩
  have HN : Hid (row.length = N + 1) := hN
  have HR0 : Hid (row.length ≠ 0) := hr
  have hneN : ((N : Int) + 1 == 0) = false := by simp; omega
  have hneN' : ¬ ((N : Int) + 1 = 0) := by omega
  have hne1 : ((n : Int) == 1) = false := by simp; omega
  have hne1' : ¬ ((n : Int) = 1) := by omega
  have hk := Tree.half_lt n h2
  have hkp := Tree.half_pos n
  have HK : Hid (∀ W, Calls Tryd.prog 25 #[.int .i64 (n : Nat)] W fun e w' => e = .returned (.int .i64 (Tree.half n : Nat)) ∧ W = w') := fun W => vsplit_any n W h2 hmax
  obtain ⟨g0, hg0⟩ : ∃ g0, g0 = W.heap.size := ⟨_, rfl⟩
  have G0 : Hid (g0 = W.heap.size) := hg0
  by_cases hlow : m < Tree.half n
  · have HU : Hid (Tree.up leaf m n row = (Tree.up leaf m (Tree.half n) (Tree.othersOf row)).map fun h => Tree.node h (Tree.lastOf row)) := Tree.up_low leaf m n row h2 hr hlow
    clear hN hr
    generalize Tree.half n = k at hk hkp HK HU hlow
    have hlow' : (m : Int) < (k : Int) := by omega
    obtain ⟨p, hp⟩ : ∃ p, p = Tree.lastOf row := ⟨_, rfl⟩
    obtain ⟨ys, hys⟩ : ∃ ys, ys = Tree.othersOf row := ⟨_, rfl⟩
    rw [← hp, ← hys] at HU
    rw [← hp] at HPT
    have HPY : Hid (∀ W', HIn W' v row → Calls Tryd.prog 24 #[v] W' fun e w' => ∃ v', e = .returned (.tuple #[hv p, v']) ∧ HIn W' v' ys ∧ Below W'.heap.size W' w') := fun W' hW' => by rw [hp, hys]; exact parted_any v row W' hW' HR0.out
    clear hp hys
    go_enter Tryd.func23, Tryd.ntmps23
    go_wp2_with (first
      | (refine wl_alloc rfl rfl ?_; rw [← hg0]; intro w1 r1 s1 b1; have R1 : Hid (HIs w1 g0 noH ∧ Below W.heap.size W w1) := ⟨r1, hg0 ▸ b1⟩; clear r1 s1 b1 hg0)
      | (refine wl_lenN (.tmp 23) rfl rfl v row rfl h (N + 1) HN.out ?_)
      | (go_at_call 24; refine (HPY.out w1 (h.later R1.out.2)).mono ?_; rintro e w2 ⟨vo, rfl, o2, b2⟩; have R2 : Hid (HIs w2 g0 noH ∧ Below W.heap.size W w2 ∧ HIn w2 vo ys) := ⟨R1.out.1.next b2, below_append R1.out.2 b2, o2.later b2⟩; clear o2 b2)
      | (refine wl_new rfl rfl rfl rfl rfl (.tmp 30) rfl p HPT.out (fun _ => rfl) (fun _ => rfl) ?_; intro w3 r3 s3 b3; have R3 : Hid (HIs w3 g0 noH ∧ Below W.heap.size W w3 ∧ HIn w3 vo ys ∧ HIs w3 w2.heap.size p) := ⟨R2.out.1.next b3, below_append R2.out.2.1 b3, R2.out.2.2.later b3, r3⟩; clear r3 s3 b3)
      | (go_at_call 25; refine (HK.out _).mono ?_; rintro e w' ⟨rfl, rfl⟩)
      | (refine wl_load1 one44 (.tmp 4) rfl rfl gf 0 rfl (.func (.func 23) #[] #[.pointer (some ⟨gl, 0, none⟩), .pointer (some ⟨gf, 0, none⟩)]) ((HL.out.2.later R3.out.2.1 HL.out.2.lt).at 0 _ rfl) ?_))
    generalize w2.heap.size = gp at R3 ⊢
    refine (ih k (by omega) m vo ys w3 (by omega) (by omega) (by omega) R3.out.2.2.1 (ht.later R3.out.2.1) (hst.later R3.out.2.1) (HL.out.1.next R3.out.2.1) (HL.out.2.later R3.out.2.1 HL.out.2.lt)).mono ?_
    rcases hO : (Tree.up leaf m k ys) with _ | z
    · intro e w4 t4
      obtain ⟨q, rfl, hq, b4⟩ := t4.no
      have HU2 : Hid (Tree.up leaf m n row = none) := by show _ = _; rw [HU.out, hO]; rfl
      have R4 : Hid (HIs w4 g0 noH ∧ Below W.heap.size W w4 ∧ IsH q) := ⟨R3.out.1.next b4, below_append R3.out.2.1 b4, hq⟩
      clear t4 hq b4 hO R3
      go_wp2_with (first
        | (refine wl_new rfl rfl rfl rfl rfl (.tmp 43) rfl q R4.out.2.2 (fun _ => rfl) (fun _ => rfl) ?_; intro w5 r5 s5 b5; have R5 : Hid (HIs w5 g0 noH ∧ Below W.heap.size W w5) := ⟨R4.out.1.next b5, below_append R4.out.2.1 b5⟩; clear r5 s5 b5)
        | (refine wl_zero23 rfl rfl ?_)
        | (refine wl_store (.tmp 8) (.tmp 65) rfl rfl rfl g0 rfl noH noH noH_isH rfl R5.out.1 ?_; intro w7 r7 o7 s7; have R7 : Hid (HIs w7 g0 noH ∧ Below W.heap.size W w7) := ⟨r7, R5.out.2.trans (o7.below (by rw [G0.out]; exact Nat.le_refl _) R5.out.2.size)⟩; clear r7 o7 s7))
      exact bodyPost_ret (results_HB Tryd.results23 _ _ g0 rfl _ R7.out.1 _ rfl) rfl ⟨noH, by rw [HU2.out]; rfl, noH_isH, (fun y hy => by rw [HU2.out] at hy; cases hy), R7.out.2⟩
    · intro e w4 t4
      obtain ⟨rfl, hz, b4⟩ := t4.yes
      have HU2 : Hid (Tree.up leaf m n row = some (Tree.node z p)) := by show _ = _; rw [HU.out, hO]; rfl
      have R4 : Hid (HIs w4 g0 noH ∧ Below W.heap.size W w4 ∧ IsH z ∧ HIs w4 gp p) := ⟨R3.out.1.next b4, below_append R3.out.2.1 b4, hz, R3.out.2.2.2.next b4⟩
      clear t4 hz b4 hO R3
      go_wp2_with (first
        | (refine wl_new rfl rfl rfl rfl rfl (.tmp 43) rfl z R4.out.2.2.1 (fun _ => rfl) (fun _ => rfl) ?_; intro w5 r5 s5 b5; have R5 : Hid (HIs w5 g0 noH ∧ Below W.heap.size W w5 ∧ HIs w5 gp p ∧ HIs w5 w4.heap.size z) := ⟨R4.out.1.next b5, below_append R4.out.2.1 b5, R4.out.2.2.2.next b5, r5⟩; clear r5 s5 b5)
        | (refine wl_load (.tmp 10) rfl rfl _ rfl p R5.out.2.2.1.at ?_)
        | (refine wl_load (.tmp 13) rfl rfl _ rfl z R5.out.2.2.2.at ?_)
        | (go_at_call 22; refine (node_any z p R5.out.2.2.2.1 HPT.out w5 (ht.later R5.out.2.1) (hst.later R5.out.2.1)).mono ?_; rintro e w6 ⟨rfl, b6⟩; have R6 : Hid (HIs w6 g0 noH ∧ Below W.heap.size W w6) := ⟨R5.out.1.next b6, below_append R5.out.2.1 b6⟩; clear b6)
        | (refine wl_store (.tmp 8) (.tmp 48) rfl rfl rfl g0 rfl noH (Tree.node z p) (node_isH _ _) rfl R6.out.1 ?_; intro w7 r7 o7 s7; have R7 : Hid (HIs w7 g0 (Tree.node z p) ∧ Below W.heap.size W w7) := ⟨r7, R6.out.2.trans (o7.below (by rw [G0.out]; exact Nat.le_refl _) R6.out.2.size)⟩; clear r7 o7 s7))
      exact bodyPost_ret (results_HB Tryd.results23 _ _ g0 rfl _ R7.out.1 _ rfl) rfl ⟨Tree.node z p, by rw [HU2.out]; rfl, node_isH _ _, (fun y hy => by rw [HU2.out] at hy; exact Option.some.inj hy), R7.out.2⟩
  · have HU : Hid (Tree.up leaf m n row = (Tree.up leaf (m - Tree.half n) (n - Tree.half n) (Tree.othersOf row)).map fun h => Tree.node (Tree.lastOf row) h) := Tree.up_high leaf m n row h2 hr hlow
    clear hN hr
    generalize Tree.half n = k at hk hkp HK HU hlow
    have hlow' : ¬ (m : Int) < (k : Int) := by omega
    obtain ⟨p, hp⟩ : ∃ p, p = Tree.lastOf row := ⟨_, rfl⟩
    obtain ⟨ys, hys⟩ : ∃ ys, ys = Tree.othersOf row := ⟨_, rfl⟩
    rw [← hp, ← hys] at HU
    rw [← hp] at HPT
    have HPY : Hid (∀ W', HIn W' v row → Calls Tryd.prog 24 #[v] W' fun e w' => ∃ v', e = .returned (.tuple #[hv p, v']) ∧ HIn W' v' ys ∧ Below W'.heap.size W' w') := fun W' hW' => by rw [hp, hys]; exact parted_any v row W' hW' HR0.out
    clear hp hys
    go_enter Tryd.func23, Tryd.ntmps23
    go_wp2_with (first
      | (refine wl_alloc rfl rfl ?_; rw [← hg0]; intro w1 r1 s1 b1; have R1 : Hid (HIs w1 g0 noH ∧ Below W.heap.size W w1) := ⟨r1, hg0 ▸ b1⟩; clear r1 s1 b1 hg0)
      | (refine wl_lenN (.tmp 23) rfl rfl v row rfl h (N + 1) HN.out ?_)
      | (go_at_call 24; refine (HPY.out w1 (h.later R1.out.2)).mono ?_; rintro e w2 ⟨vo, rfl, o2, b2⟩; have R2 : Hid (HIs w2 g0 noH ∧ Below W.heap.size W w2 ∧ HIn w2 vo ys) := ⟨R1.out.1.next b2, below_append R1.out.2 b2, o2.later b2⟩; clear o2 b2)
      | (refine wl_new rfl rfl rfl rfl rfl (.tmp 30) rfl p HPT.out (fun _ => rfl) (fun _ => rfl) ?_; intro w3 r3 s3 b3; have R3 : Hid (HIs w3 g0 noH ∧ Below W.heap.size W w3 ∧ HIn w3 vo ys ∧ HIs w3 w2.heap.size p) := ⟨R2.out.1.next b3, below_append R2.out.2.1 b3, R2.out.2.2.later b3, r3⟩; clear r3 s3 b3)
      | (go_at_call 25; refine (HK.out _).mono ?_; rintro e w' ⟨rfl, rfl⟩)
      | (refine wl_load1 one44 (.tmp 4) rfl rfl gf 0 rfl (.func (.func 23) #[] #[.pointer (some ⟨gl, 0, none⟩), .pointer (some ⟨gf, 0, none⟩)]) ((HL.out.2.later R3.out.2.1 HL.out.2.lt).at 0 _ rfl) ?_))
    generalize w2.heap.size = gp at R3 ⊢
    rw [show (m : Int) - (k : Int) = ((m - k : Nat) : Int) by omega, show (n : Int) - (k : Int) = ((n - k : Nat) : Int) by omega]
    refine (ih (n - k) (by omega) (m - k) vo ys w3 (by omega) (by omega) (by omega) R3.out.2.2.1 (ht.later R3.out.2.1) (hst.later R3.out.2.1) (HL.out.1.next R3.out.2.1) (HL.out.2.later R3.out.2.1 HL.out.2.lt)).mono ?_
    rcases hO : (Tree.up leaf (m - k) (n - k) ys) with _ | z
    · intro e w4 t4
      obtain ⟨q, rfl, hq, b4⟩ := t4.no
      have HU2 : Hid (Tree.up leaf m n row = none) := by show _ = _; rw [HU.out, hO]; rfl
      have R4 : Hid (HIs w4 g0 noH ∧ Below W.heap.size W w4 ∧ IsH q) := ⟨R3.out.1.next b4, below_append R3.out.2.1 b4, hq⟩
      clear t4 hq b4 hO R3
      go_wp2_with (first
        | (refine wl_new rfl rfl rfl rfl rfl (.tmp 59) rfl q R4.out.2.2 (fun _ => rfl) (fun _ => rfl) ?_; intro w5 r5 s5 b5; have R5 : Hid (HIs w5 g0 noH ∧ Below W.heap.size W w5) := ⟨R4.out.1.next b5, below_append R4.out.2.1 b5⟩; clear r5 s5 b5)
        | (refine wl_zero23 rfl rfl ?_)
        | (refine wl_store (.tmp 8) (.tmp 65) rfl rfl rfl g0 rfl noH noH noH_isH rfl R5.out.1 ?_; intro w7 r7 o7 s7; have R7 : Hid (HIs w7 g0 noH ∧ Below W.heap.size W w7) := ⟨r7, R5.out.2.trans (o7.below (by rw [G0.out]; exact Nat.le_refl _) R5.out.2.size)⟩; clear r7 o7 s7))
      exact bodyPost_ret (results_HB Tryd.results23 _ _ g0 rfl _ R7.out.1 _ rfl) rfl ⟨noH, by rw [HU2.out]; rfl, noH_isH, (fun y hy => by rw [HU2.out] at hy; cases hy), R7.out.2⟩
    · intro e w4 t4
      obtain ⟨rfl, hz, b4⟩ := t4.yes
      have HU2 : Hid (Tree.up leaf m n row = some (Tree.node p z)) := by show _ = _; rw [HU.out, hO]; rfl
      have R4 : Hid (HIs w4 g0 noH ∧ Below W.heap.size W w4 ∧ IsH z ∧ HIs w4 gp p) := ⟨R3.out.1.next b4, below_append R3.out.2.1 b4, hz, R3.out.2.2.2.next b4⟩
      clear t4 hz b4 hO R3
      go_wp2_with (first
        | (refine wl_new rfl rfl rfl rfl rfl (.tmp 59) rfl z R4.out.2.2.1 (fun _ => rfl) (fun _ => rfl) ?_; intro w5 r5 s5 b5; have R5 : Hid (HIs w5 g0 noH ∧ Below W.heap.size W w5 ∧ HIs w5 gp p ∧ HIs w5 w4.heap.size z) := ⟨R4.out.1.next b5, below_append R4.out.2.1 b5, R4.out.2.2.2.next b5, r5⟩; clear r5 s5 b5)
        | (refine wl_load (.tmp 10) rfl rfl _ rfl p R5.out.2.2.1.at ?_)
        | (refine wl_load (.tmp 15) rfl rfl _ rfl z R5.out.2.2.2.at ?_)
        | (go_at_call 22; refine (node_any p z HPT.out R5.out.2.2.2.1 w5 (ht.later R5.out.2.1) (hst.later R5.out.2.1)).mono ?_; rintro e w6 ⟨rfl, b6⟩; have R6 : Hid (HIs w6 g0 noH ∧ Below W.heap.size W w6) := ⟨R5.out.1.next b6, below_append R5.out.2.1 b6⟩; clear b6)
        | (refine wl_store (.tmp 8) (.tmp 64) rfl rfl rfl g0 rfl noH (Tree.node p z) (node_isH _ _) rfl R6.out.1 ?_; intro w7 r7 o7 s7; have R7 : Hid (HIs w7 g0 (Tree.node p z) ∧ Below W.heap.size W w7) := ⟨r7, R6.out.2.trans (o7.below (by rw [G0.out]; exact Nat.le_refl _) R6.out.2.size)⟩; clear r7 o7 s7))
      exact bodyPost_ret (results_HB Tryd.results23 _ _ g0 rfl _ R7.out.1 _ rfl) rfl ⟨Tree.node p z, by rw [HU2.out]; rfl, node_isH _ _, (fun y hy => by rw [HU2.out] at hy; exact Option.some.inj hy), R7.out.2⟩
end Go.Proofs.YtjdmpanemdhbbaaDoor

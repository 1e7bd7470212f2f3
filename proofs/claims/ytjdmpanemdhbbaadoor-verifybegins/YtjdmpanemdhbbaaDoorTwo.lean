/- The two ways: the closure of verify.Consistency. -/
import Derived.Test.YtjdmpanemdhbbaaDoorTwoMem
namespace Go.Proofs.YtjdmpanemdhbbaaDoor
open Go.RowKit

def fv27 (ga gf : Nat) : Value := .func (.func 27) #[] #[pt ga, pt gf]
theorem oneF : OneT 50 := fun w g o v h => by simp [loadVar, isAgg, run_underlying Tryd.underlying50, h]
theorem sizeF : OneS 50 := by unfold OneS; kernel_rfl
theorem zeroF : (Tryd.prog.info? 50).map (·.zero) = some (some .nilFunc) := by kernel_rfl
/-- what is told of the two ways -/
def TwoTold (w : World) (o : Option (List Nat × List Nat)) (e : Ending) (w' : World) : Prop := ∃ x y, e = .returned (.tuple #[wv x y, .bool o.isSome]) ∧ (IsH x ∧ IsH y) ∧ (∀ z, o = some z → (x, y) = z) ∧ Below w.heap.size w w'
theorem TwoTold.no {w w' : World} {e : Ending} (h : TwoTold w none e w') : ∃ x y, e = .returned (.tuple #[wv x y, .bool false]) ∧ (IsH x ∧ IsH y) ∧ Below w.heap.size w w' := by
  obtain ⟨x, y, rfl, hh, _, hb⟩ := h
  exact ⟨x, y, rfl, hh, hb⟩
theorem TwoTold.yes {w w' : World} {e : Ending} {z : List Nat × List Nat} (h : TwoTold w (some z) e w') : e = .returned (.tuple #[wv z.1 z.2, .bool true]) ∧ (IsH z.1 ∧ IsH z.2) ∧ Below w.heap.size w w' := by
  obtain ⟨x, y, rfl, hh, hz, hb⟩ := h
  have := hz z rfl
  subst this
  exact ⟨rfl, hh, hb⟩
theorem TwoTold.mk {w w' : World} {e : Ending} {o : Option (List Nat × List Nat)} {x y : List Nat} (ho : o = some (x, y)) (he : e = .returned (.tuple #[wv x y, .bool true])) (hx : IsH x) (hy : IsH y) (hb : Below w.heap.size w w') : TwoTold w o e w' :=
  ⟨x, y, by rw [he, ho]; rfl, ⟨hx, hy⟩, (fun z hz => by rw [ho] at hz; exact Option.some.inj hz), hb⟩
theorem TwoTold.mkNo {w w' : World} {e : Ending} {o : Option (List Nat × List Nat)} {x y : List Nat} (ho : o = none) (he : e = .returned (.tuple #[wv x y, .bool false])) (hx : IsH x) (hy : IsH y) (hb : Below w.heap.size w w') : TwoTold w o e w' :=
  ⟨x, y, by rw [he, ho]; rfl, ⟨hx, hy⟩, (fun z hz => by rw [ho] at hz; cases hz), hb⟩
theorem en22' : EntersF 22 := enters Tryd.func22 (by kernel_rfl) (by kernel_rfl)
theorem eq_true_of (k : Nat) : decide (((k : Nat) : Int) = ((k : Nat) : Int)) = true := by simp

set_option maxHeartbeats 1000000 in
set_option maxRecDepth 100000 in
theorem two1_whole0 (ga gf : Nat) (a : List Nat) (n : Nat) (v : Value) (row : List (List Nat)) (W : World) (h : HIn W v row) (ha : HIs W ga a) (hr : row.length = 0) :
    Calls Tryd.prog 27 #[.int .i64 (n : Nat), .int .i64 (n : Nat), v, .bool true, pt ga, pt gf] W fun e W' => TwoTold W (Tree.two n n a row true) e W' := by
  have HU : Hid (Tree.two n n a row true = some (a, a)) := by show _ = _; rw [Tree.two_whole _ _ _ _ rfl, if_pos hr]
  have HK : Hid (row.length = 0) := hr
  clear hr
  have HL : Hid (HIs W ga a) := ha
  clear ha
  obtain ⟨g0, hg0⟩ : ∃ g0, g0 = W.heap.size := ⟨_, rfl⟩
  have G0 : Hid (g0 = W.heap.size) := hg0
  go_enter Tryd.func27, Tryd.ntmps27
  go_wp2_with (first
    | (refine wl_allocW rfl rfl ?_; rw [← hg0]; intro w1 r1 s1 b1; have R1 : Hid (WIs w1 g0 noH noH ∧ Below W.heap.size W w1) := ⟨r1, hg0 ▸ b1⟩; clear r1 s1 b1 hg0)
    | (refine wl_load (.tmp 4) rfl rfl _ rfl a (HL.out.next R1.out.2).at ?_)
    | (refine wl_buildW (.tmp 25) (.tmp 26) rfl rfl a a HL.out.1 HL.out.1 rfl rfl ?_)
    | (refine wl_lenN (.tmp 28) rfl rfl v row rfl h 0 HK.out ?_)
    | (refine wl_storeW (.tmp 10) (.tmp 27) rfl rfl rfl g0 rfl noH noH a a HL.out.1 HL.out.1 rfl R1.out.1 ?_; intro w7 r7 o7 s7; have R7 : Hid (WIs w7 g0 a a ∧ Below W.heap.size W w7) := ⟨r7, R1.out.2.trans (o7.below (by rw [G0.out]; exact Nat.le_refl _) R1.out.2.size)⟩; clear r7 o7 s7))
  exact bodyPost_ret (results_WB Tryd.results27 _ _ g0 rfl _ _ R7.out.1 _ rfl) rfl (TwoTold.mk HU.out rfl HL.out.1 HL.out.1 R7.out.2)
set_option maxHeartbeats 1000000 in
set_option maxRecDepth 100000 in
theorem two1_whole1 (ga gf : Nat) (a : List Nat) (n : Nat) (v : Value) (row : List (List Nat)) (W : World) (h : HIn W v row) (ha : HIs W ga a) (hr : row.length ≠ 0) :
    Calls Tryd.prog 27 #[.int .i64 (n : Nat), .int .i64 (n : Nat), v, .bool true, pt ga, pt gf] W fun e W' => TwoTold W (Tree.two n n a row true) e W' := by
  have HU : Hid (Tree.two n n a row true = none) := by show _ = _; rw [Tree.two_whole _ _ _ _ rfl, if_neg hr]
  obtain ⟨k, hk⟩ : ∃ k, row.length = k := ⟨_, rfl⟩
  have HK : Hid (row.length = k) := hk
  have hne : ((k : Int) == 0) = false := by simp; omega
  have hne' : ¬ ((k : Int) = 0) := by omega
  clear hr hk
  have HL : Hid (HIs W ga a) := ha
  clear ha
  obtain ⟨g0, hg0⟩ : ∃ g0, g0 = W.heap.size := ⟨_, rfl⟩
  have G0 : Hid (g0 = W.heap.size) := hg0
  go_enter Tryd.func27, Tryd.ntmps27
  go_wp2_with (first
    | (refine wl_allocW rfl rfl ?_; rw [← hg0]; intro w1 r1 s1 b1; have R1 : Hid (WIs w1 g0 noH noH ∧ Below W.heap.size W w1) := ⟨r1, hg0 ▸ b1⟩; clear r1 s1 b1 hg0)
    | (refine wl_load (.tmp 4) rfl rfl _ rfl a (HL.out.next R1.out.2).at ?_)
    | (refine wl_buildW (.tmp 25) (.tmp 26) rfl rfl a a HL.out.1 HL.out.1 rfl rfl ?_)
    | (refine wl_lenN (.tmp 28) rfl rfl v row rfl h k HK.out ?_)
    | (refine wl_storeW (.tmp 10) (.tmp 27) rfl rfl rfl g0 rfl noH noH a a HL.out.1 HL.out.1 rfl R1.out.1 ?_; intro w7 r7 o7 s7; have R7 : Hid (WIs w7 g0 a a ∧ Below W.heap.size W w7) := ⟨r7, R1.out.2.trans (o7.below (by rw [G0.out]; exact Nat.le_refl _) R1.out.2.size)⟩; clear r7 o7 s7))
  exact bodyPost_ret (results_WB Tryd.results27 _ _ g0 rfl _ _ R7.out.1 _ rfl) rfl (TwoTold.mkNo HU.out rfl HL.out.1 HL.out.1 R7.out.2)
set_option maxHeartbeats 1000000 in
set_option maxRecDepth 100000 in
theorem two1_noneE (ga gf : Nat) (a : List Nat) (n : Nat) (v : Value) (row : List (List Nat)) (W : World) (h : HIn W v row) (hr : row.length = 0) :
    Calls Tryd.prog 27 #[.int .i64 (n : Nat), .int .i64 (n : Nat), v, .bool false, pt ga, pt gf] W fun e W' => TwoTold W (Tree.two n n a row false) e W' := by
  have HU : Hid (Tree.two n n a row false = none) := Tree.two_none _ _ _ _ _ (by simp) hr
  have HK : Hid (row.length = 0) := hr
  clear hr
  obtain ⟨g0, hg0⟩ : ∃ g0, g0 = W.heap.size := ⟨_, rfl⟩
  have G0 : Hid (g0 = W.heap.size) := hg0
  go_enter Tryd.func27, Tryd.ntmps27
  go_wp2_with (first
    | (refine wl_allocW rfl rfl ?_; rw [← hg0]; intro w1 r1 s1 b1; have R1 : Hid (WIs w1 g0 noH noH ∧ Below W.heap.size W w1) := ⟨r1, hg0 ▸ b1⟩; clear r1 s1 b1 hg0)
    | (refine wl_lenN (.tmp 31) rfl rfl v row rfl h 0 HK.out ?_)
    | (refine wl_zeroW rfl rfl ?_)
    | (refine wl_storeW (.tmp 10) (.tmp 34) rfl rfl rfl g0 rfl noH noH noH noH noH_isH noH_isH rfl R1.out.1 ?_; intro w7 r7 o7 s7; have R7 : Hid (WIs w7 g0 noH noH ∧ Below W.heap.size W w7) := ⟨r7, R1.out.2.trans (o7.below (by rw [G0.out]; exact Nat.le_refl _) R1.out.2.size)⟩; clear r7 o7 s7))
  exact bodyPost_ret (results_WB Tryd.results27 _ _ g0 rfl _ _ R7.out.1 _ rfl) rfl (TwoTold.mkNo HU.out rfl noH_isH noH_isH R7.out.2)
set_option maxHeartbeats 1000000 in
set_option maxRecDepth 100000 in
theorem two1_noneN (ga gf : Nat) (a : List Nat) (m n : Nat) (whole : Bool) (v : Value) (row : List (List Nat)) (W : World) (h : HIn W v row) (hmn : m ≠ n) (hr : row.length = 0) :
    Calls Tryd.prog 27 #[.int .i64 (m : Nat), .int .i64 (n : Nat), v, .bool whole, pt ga, pt gf] W fun e W' => TwoTold W (Tree.two m n a row whole) e W' := by
  have HU : Hid (Tree.two m n a row whole = none) := Tree.two_none _ _ _ _ _ (fun h => hmn h.1) hr
  have hne : ((m : Int) == (n : Int)) = false := by simp; omega
  have hne' : ¬ ((m : Int) = (n : Int)) := by omega
  have HK : Hid (row.length = 0) := hr
  clear hr
  obtain ⟨g0, hg0⟩ : ∃ g0, g0 = W.heap.size := ⟨_, rfl⟩
  have G0 : Hid (g0 = W.heap.size) := hg0
  go_enter Tryd.func27, Tryd.ntmps27
  go_wp2_with (first
    | (refine wl_allocW rfl rfl ?_; rw [← hg0]; intro w1 r1 s1 b1; have R1 : Hid (WIs w1 g0 noH noH ∧ Below W.heap.size W w1) := ⟨r1, hg0 ▸ b1⟩; clear r1 s1 b1 hg0)
    | (refine wl_lenN (.tmp 31) rfl rfl v row rfl h 0 HK.out ?_)
    | (refine wl_zeroW rfl rfl ?_)
    | (refine wl_storeW (.tmp 10) (.tmp 34) rfl rfl rfl g0 rfl noH noH noH noH noH_isH noH_isH rfl R1.out.1 ?_; intro w7 r7 o7 s7; have R7 : Hid (WIs w7 g0 noH noH ∧ Below W.heap.size W w7) := ⟨r7, R1.out.2.trans (o7.below (by rw [G0.out]; exact Nat.le_refl _) R1.out.2.size)⟩; clear r7 o7 s7))
  exact bodyPost_ret (results_WB Tryd.results27 _ _ g0 rfl _ _ R7.out.1 _ rfl) rfl (TwoTold.mkNo HU.out rfl noH_isH noH_isH R7.out.2)
set_option maxHeartbeats 2000000 in
set_option maxRecDepth 100000 in
theorem two1_last0 (ga gf : Nat) (a : List Nat) (n : Nat) (v : Value) (row : List (List Nat)) (W : World) (h : HIn W v row) (hr : row.length ≠ 0) (h1 : row.length = 1) :
    Calls Tryd.prog 27 #[.int .i64 (n : Nat), .int .i64 (n : Nat), v, .bool false, pt ga, pt gf] W fun e W' => TwoTold W (Tree.two n n a row false) e W' := by
  have HPT : Hid (IsH (Tree.lastOf row)) := last_isH h.all hr
  obtain ⟨N, hN⟩ : ∃ N, row.length = N + 1 := ⟨row.length - 1, by omega⟩
  have HN : Hid (row.length = N + 1) := hN
  have HR0 : Hid (row.length ≠ 0) := hr
  have hneN : ((N : Int) + 1 == 0) = false := by simp; omega
  have hneN' : ¬ ((N : Int) + 1 = 0) := by omega
  have hlen : (Tree.othersOf row).length = N := by rw [Tree.others_length]; omega
  have HU : Hid (Tree.two n n a row false = some (Tree.lastOf row, Tree.lastOf row)) := by show _ = _; rw [Tree.two_part' _ _ _ _ rfl hr, if_pos h1]
  obtain rfl : N = 0 := by omega
  obtain ⟨p, hp⟩ : ∃ p, p = Tree.lastOf row := ⟨_, rfl⟩
  obtain ⟨ys, hys⟩ : ∃ ys, ys = Tree.othersOf row := ⟨_, rfl⟩
  rw [← hp] at HPT
  have HPY : Hid (∀ W', HIn W' v row → Calls Tryd.prog 24 #[v] W' fun e w' => ∃ v', e = .returned (.tuple #[hv p, v']) ∧ HIn W' v' ys ∧ Below W'.heap.size W' w') := fun W' hW' => by rw [hp, hys]; exact parted_any v row W' hW' HR0.out
  rw [← hys] at hlen
  have HYL : Hid (ys.length = 0) := hlen
  rw [← hp] at HU
  clear hN hr hp hys h1 hlen
  obtain ⟨g0, hg0⟩ : ∃ g0, g0 = W.heap.size := ⟨_, rfl⟩
  have G0 : Hid (g0 = W.heap.size) := hg0
  go_enter Tryd.func27, Tryd.ntmps27
  go_wp2_with (first
    | (refine wl_allocW rfl rfl ?_; rw [← hg0]; intro w1 r1 s1 b1; have R1 : Hid (WIs w1 g0 noH noH ∧ Below W.heap.size W w1) := ⟨r1, hg0 ▸ b1⟩; clear r1 s1 b1 hg0)
    | (refine wl_lenN (.tmp 31) rfl rfl v row rfl h (0 + 1) HN.out ?_)
    | (go_at_call 24; refine (HPY.out w1 (h.later R1.out.2)).mono ?_; rintro e w2 ⟨vo, rfl, o2, b2⟩; have R2 : Hid (WIs w2 g0 noH noH ∧ Below W.heap.size W w2 ∧ HIn w2 vo ys) := ⟨R1.out.1.next b2, below_append R1.out.2 b2, o2.later b2⟩; clear o2 b2)
    | (refine wl_new rfl rfl rfl rfl rfl (.tmp 38) rfl p HPT.out (fun _ => rfl) (fun _ => rfl) ?_; intro w3 r3 s3 b3; have R3 : Hid (WIs w3 g0 noH noH ∧ Below W.heap.size W w3 ∧ HIn w3 vo ys ∧ HIs w3 w2.heap.size p) := ⟨R2.out.1.next b3, below_append R2.out.2.1 b3, R2.out.2.2.later b3, r3⟩; clear r3 s3 b3)
    | (refine wl_load (.tmp 12) rfl rfl _ rfl p R3.out.2.2.2.at ?_)
    | (refine wl_buildW (.tmp 43) (.tmp 44) rfl rfl p p HPT.out HPT.out rfl rfl ?_)
    | (refine wl_lenN (.tmp 46) rfl rfl vo ys rfl R3.out.2.2.1 0 HYL.out ?_)
    | (refine wl_storeW (.tmp 10) (.tmp 45) rfl rfl rfl g0 rfl noH noH p p HPT.out HPT.out rfl R3.out.1 ?_; intro w7 r7 o7 s7; have R7 : Hid (WIs w7 g0 p p ∧ Below W.heap.size W w7) := ⟨r7, R3.out.2.1.trans (o7.below (by rw [G0.out]; exact Nat.le_refl _) R3.out.2.1.size)⟩; clear r7 o7 s7))
  exact bodyPost_ret (results_WB Tryd.results27 _ _ g0 rfl _ _ R7.out.1 _ rfl) rfl (TwoTold.mk HU.out rfl HPT.out HPT.out R7.out.2)
set_option maxHeartbeats 2000000 in
set_option maxRecDepth 100000 in
theorem two1_last1 (ga gf : Nat) (a : List Nat) (n : Nat) (v : Value) (row : List (List Nat)) (W : World) (h : HIn W v row) (hr : row.length ≠ 0) (h1 : row.length ≠ 1) :
    Calls Tryd.prog 27 #[.int .i64 (n : Nat), .int .i64 (n : Nat), v, .bool false, pt ga, pt gf] W fun e W' => TwoTold W (Tree.two n n a row false) e W' := by
  have HPT : Hid (IsH (Tree.lastOf row)) := last_isH h.all hr
  obtain ⟨N, hN⟩ : ∃ N, row.length = N + 1 := ⟨row.length - 1, by omega⟩
  have HN : Hid (row.length = N + 1) := hN
  have HR0 : Hid (row.length ≠ 0) := hr
  have hneN : ((N : Int) + 1 == 0) = false := by simp; omega
  have hneN' : ¬ ((N : Int) + 1 = 0) := by omega
  have hlen : (Tree.othersOf row).length = N := by rw [Tree.others_length]; omega
  have HU : Hid (Tree.two n n a row false = none) := by show _ = _; rw [Tree.two_part' _ _ _ _ rfl hr, if_neg h1]
  have hne0 : ((N : Int) == 0) = false := by simp; omega
  have hne0' : ¬ ((N : Int) = 0) := by omega
  obtain ⟨p, hp⟩ : ∃ p, p = Tree.lastOf row := ⟨_, rfl⟩
  obtain ⟨ys, hys⟩ : ∃ ys, ys = Tree.othersOf row := ⟨_, rfl⟩
  rw [← hp] at HPT
  have HPY : Hid (∀ W', HIn W' v row → Calls Tryd.prog 24 #[v] W' fun e w' => ∃ v', e = .returned (.tuple #[hv p, v']) ∧ HIn W' v' ys ∧ Below W'.heap.size W' w') := fun W' hW' => by rw [hp, hys]; exact parted_any v row W' hW' HR0.out
  rw [← hys] at hlen
  have HYL : Hid (ys.length = N) := hlen
  clear hN hr hp hys h1 hlen
  obtain ⟨g0, hg0⟩ : ∃ g0, g0 = W.heap.size := ⟨_, rfl⟩
  have G0 : Hid (g0 = W.heap.size) := hg0
  go_enter Tryd.func27, Tryd.ntmps27
  go_wp2_with (first
    | (refine wl_allocW rfl rfl ?_; rw [← hg0]; intro w1 r1 s1 b1; have R1 : Hid (WIs w1 g0 noH noH ∧ Below W.heap.size W w1) := ⟨r1, hg0 ▸ b1⟩; clear r1 s1 b1 hg0)
    | (refine wl_lenN (.tmp 31) rfl rfl v row rfl h (N + 1) HN.out ?_)
    | (go_at_call 24; refine (HPY.out w1 (h.later R1.out.2)).mono ?_; rintro e w2 ⟨vo, rfl, o2, b2⟩; have R2 : Hid (WIs w2 g0 noH noH ∧ Below W.heap.size W w2 ∧ HIn w2 vo ys) := ⟨R1.out.1.next b2, below_append R1.out.2 b2, o2.later b2⟩; clear o2 b2)
    | (refine wl_new rfl rfl rfl rfl rfl (.tmp 38) rfl p HPT.out (fun _ => rfl) (fun _ => rfl) ?_; intro w3 r3 s3 b3; have R3 : Hid (WIs w3 g0 noH noH ∧ Below W.heap.size W w3 ∧ HIn w3 vo ys ∧ HIs w3 w2.heap.size p) := ⟨R2.out.1.next b3, below_append R2.out.2.1 b3, R2.out.2.2.later b3, r3⟩; clear r3 s3 b3)
    | (refine wl_load (.tmp 12) rfl rfl _ rfl p R3.out.2.2.2.at ?_)
    | (refine wl_buildW (.tmp 43) (.tmp 44) rfl rfl p p HPT.out HPT.out rfl rfl ?_)
    | (refine wl_lenN (.tmp 46) rfl rfl vo ys rfl R3.out.2.2.1 N HYL.out ?_)
    | (refine wl_storeW (.tmp 10) (.tmp 45) rfl rfl rfl g0 rfl noH noH p p HPT.out HPT.out rfl R3.out.1 ?_; intro w7 r7 o7 s7; have R7 : Hid (WIs w7 g0 p p ∧ Below W.heap.size W w7) := ⟨r7, R3.out.2.1.trans (o7.below (by rw [G0.out]; exact Nat.le_refl _) R3.out.2.1.size)⟩; clear r7 o7 s7))
  exact bodyPost_ret (results_WB Tryd.results27 _ _ g0 rfl _ _ R7.out.1 _ rfl) rfl (TwoTold.mkNo HU.out rfl HPT.out HPT.out R7.out.2)
set_option maxHeartbeats 16000000 in
set_option maxRecDepth 100000 in
theorem two1_any (ga gf : Nat) (a : List Nat) : ∀ (n m : Nat) (whole : Bool) (v : Value) (row : List (List Nat)) (W : World), 1 ≤ m → n ≤ 9223372036854775807 → m ≤ n → HIn W v row → TabIn W → StartIn W → HIs W ga a → Row W gf 50 [fv27 ga gf] →
    Calls Tryd.prog 27 #[.int .i64 (m : Nat), .int .i64 (n : Nat), v, .bool whole, pt ga, pt gf] W fun e W' => TwoTold W (Tree.two m n a row whole) e W' := by
  intro n
  induction n using Nat.strongRecOn with
  | _ n ih =>
  intro m whole v row W h1 hmax hm h ht hst hl hf
  by_cases hmn : m = n
  · subst hmn
    cases whole with
    | true =>
      by_cases hr : row.length = 0
      · exact two1_whole0 ga gf a m v row W h hl hr
      · exact two1_whole1 ga gf a m v row W h hl hr
    | false =>
      by_cases hr : row.length = 0
      · exact two1_noneE ga gf a m v row W h hr
      · by_cases hr1 : row.length = 1
        · exact two1_last0 ga gf a m v row W h hr hr1
        · exact two1_last1 ga gf a m v row W h hr hr1
  by_cases hr : row.length = 0
  · exact two1_noneN ga gf a m n whole v row W h hmn hr
  have h2 : 2 ≤ n := by omega
  have HL : Hid (HIs W ga a ∧ Row W gf 50 [fv27 ga gf]) := ⟨hl, hf⟩
  have hne : ((m : Int) == (n : Int)) = false := by simp; omega
  have hne' : ¬ ((m : Int) = (n : Int)) := by omega
  have HPT : Hid (IsH (Tree.lastOf row)) := last_isH h.all hr
  obtain ⟨N, hN⟩ : ∃ N, row.length = N + 1 := ⟨row.length - 1, by omega⟩
  have HN : Hid (row.length = N + 1) := hN
  have HR0 : Hid (row.length ≠ 0) := hr
  have hneN : ((N : Int) + 1 == 0) = false := by simp; omega
  have hneN' : ¬ ((N : Int) + 1 = 0) := by omega
  have hk := Tree.half_lt n h2
  have hkp := Tree.half_pos n
  have HK : Hid (∀ W, Calls Tryd.prog 25 #[.int .i64 (n : Nat)] W fun e w' => e = .returned (.int .i64 (Tree.half n : Nat)) ∧ W = w') := fun W => vsplit_any n W h2 hmax
  obtain ⟨g0, hg0⟩ : ∃ g0, g0 = W.heap.size := ⟨_, rfl⟩
  have G0 : Hid (g0 = W.heap.size) := hg0
  by_cases hlow : m ≤ Tree.half n
  · have HU : Hid (Tree.two m n a row whole = (Tree.two m (Tree.half n) a (Tree.othersOf row) whole).map fun w => (w.1, Tree.node w.2 (Tree.lastOf row))) := Tree.two_low m n a row whole h2 hmn hr hlow
    generalize Tree.half n = k at hk hkp HK HU hlow
    have hlow' : (m : Int) ≤ (k : Int) := by omega
    obtain ⟨p, hp⟩ : ∃ p, p = Tree.lastOf row := ⟨_, rfl⟩
    obtain ⟨ys, hys⟩ : ∃ ys, ys = Tree.othersOf row := ⟨_, rfl⟩
    rw [← hp] at HPT
    have HPY : Hid (∀ W', HIn W' v row → Calls Tryd.prog 24 #[v] W' fun e w' => ∃ v', e = .returned (.tuple #[hv p, v']) ∧ HIn W' v' ys ∧ Below W'.heap.size W' w') := fun W' hW' => by rw [hp, hys]; exact parted_any v row W' hW' HR0.out
    rw [← hp, ← hys] at HU
    clear hN hr hp hys
    go_enter Tryd.func27, Tryd.ntmps27
    go_wp2_with (first
      | (refine wl_allocW rfl rfl ?_; rw [← hg0]; intro w1 r1 s1 b1; have R1 : Hid (WIs w1 g0 noH noH ∧ Below W.heap.size W w1) := ⟨r1, hg0 ▸ b1⟩; clear r1 s1 b1 hg0)
      | (refine wl_lenN (.tmp 31) rfl rfl v row rfl h (N + 1) HN.out ?_)
      | (go_at_call 24; refine (HPY.out w1 (h.later R1.out.2)).mono ?_; rintro e w2 ⟨vo, rfl, o2, b2⟩; have R2 : Hid (WIs w2 g0 noH noH ∧ Below W.heap.size W w2 ∧ HIn w2 vo ys) := ⟨R1.out.1.next b2, below_append R1.out.2 b2, o2.later b2⟩; clear o2 b2)
      | (refine wl_new rfl rfl rfl rfl rfl (.tmp 38) rfl p HPT.out (fun _ => rfl) (fun _ => rfl) ?_; intro w3 r3 s3 b3; have R3 : Hid (WIs w3 g0 noH noH ∧ Below W.heap.size W w3 ∧ HIn w3 vo ys ∧ HIs w3 w2.heap.size p) := ⟨R2.out.1.next b3, below_append R2.out.2.1 b3, R2.out.2.2.later b3, r3⟩; clear r3 s3 b3)
      | (go_at_call 25; refine (HK.out _).mono ?_; rintro e w' ⟨rfl, rfl⟩)
      | (refine wl_load1 oneF (.tmp 5) rfl rfl gf 0 rfl (.func (.func 27) #[] #[.pointer (some ⟨ga, 0, none⟩), .pointer (some ⟨gf, 0, none⟩)]) ((HL.out.2.later R3.out.2.1 HL.out.2.lt).at 0 _ rfl) ?_))
    generalize w2.heap.size = gp at R3 ⊢
    refine (ih k (by omega) m whole vo ys w3 h1 (by omega) (by omega) R3.out.2.2.1 (ht.later R3.out.2.1) (hst.later R3.out.2.1) (HL.out.1.next R3.out.2.1) (HL.out.2.later R3.out.2.1 HL.out.2.lt)).mono ?_
    rcases hO : (Tree.two m k a ys whole) with _ | z
    · intro e w4 t4
      obtain ⟨x, y, rfl, hq, b4⟩ := t4.no
      have HU2 : Hid (Tree.two m n a row whole = none) := by show _ = _; rw [HU.out, hO]; rfl
      have R4 : Hid (WIs w4 g0 noH noH ∧ Below W.heap.size W w4 ∧ IsH x ∧ IsH y) := ⟨R3.out.1.next b4, below_append R3.out.2.1 b4, hq⟩
      clear t4 hq b4 hO R3 HU
      have HU := HU2
      clear HU2
      go_wp2_with (first
        | (refine wl_newW rfl rfl rfl rfl rfl (.tmp 61) rfl x y R4.out.2.2.1 R4.out.2.2.2 (fun _ => rfl) (fun _ => rfl) ?_; intro w5 r5 s5 b5; have R5 : Hid (WIs w5 g0 noH noH ∧ Below W.heap.size W w5) := ⟨R4.out.1.next b5, below_append R4.out.2.1 b5⟩; clear r5 s5 b5)
        | (refine wl_zeroW rfl rfl ?_)
        | (refine wl_storeW (.tmp 10) (.tmp 93) rfl rfl rfl g0 rfl noH noH noH noH noH_isH noH_isH rfl R5.out.1 ?_; intro w7 r7 o7 s7; have R7 : Hid (WIs w7 g0 noH noH ∧ Below W.heap.size W w7) := ⟨r7, R5.out.2.trans (o7.below (by rw [G0.out]; exact Nat.le_refl _) R5.out.2.size)⟩; clear r7 o7 s7))
      exact bodyPost_ret (results_WB Tryd.results27 _ _ g0 rfl _ _ R7.out.1 _ rfl) rfl (TwoTold.mkNo HU.out rfl noH_isH noH_isH R7.out.2)
    · intro e w4 t4
      obtain ⟨rfl, hq, b4⟩ := t4.yes
      have HU2 : Hid (Tree.two m n a row whole = some (z.1, (Tree.node z.2 p))) := by show _ = _; rw [HU.out, hO]; rfl
      have R4 : Hid (WIs w4 g0 noH noH ∧ Below W.heap.size W w4 ∧ (IsH z.1 ∧ IsH z.2) ∧ HIs w4 gp p) := ⟨R3.out.1.next b4, below_append R3.out.2.1 b4, hq, R3.out.2.2.2.next b4⟩
      clear t4 hq b4 hO R3 HU
      have HU := HU2
      clear HU2
      obtain ⟨x, y⟩ := z
      go_wp2_with (first
        | (refine wl_newW rfl rfl rfl rfl rfl (.tmp 61) rfl x y R4.out.2.2.1.1 R4.out.2.2.1.2 (fun _ => rfl) (fun _ => rfl) ?_; intro w5 r5 s5 b5; have R5 : Hid ((WIs w5 g0 noH noH ∧ g0 ≠ w4.heap.size) ∧ Below W.heap.size W w5 ∧ HIs w5 gp p ∧ WIs w5 w4.heap.size x y) := ⟨⟨R4.out.1.next b5, by have := R4.out.1.lt; omega⟩, below_append R4.out.2.1 b5, R4.out.2.2.2.next b5, r5⟩; clear r5 s5 b5))
      generalize w4.heap.size = gw at R5 ⊢
      refine wp_region_until (S := fun W' => (Below W.heap.size W W' ∧ WIs W' g0 noH noH) ∧ WIs W' gw x y ∧ HIs W' gp p) 7 (by kernel_rfl) ?_
      show wpAnyU _ _ _ _ _ _ 9 (Array.replicate 9 false) _ _
      have hS : (Below W.heap.size W { w5 with drawn := w5.drawn + 1 } ∧ WIs { w5 with drawn := w5.drawn + 1 } g0 noH noH) ∧ WIs { w5 with drawn := w5.drawn + 1 } gw x y ∧ HIs { w5 with drawn := w5.drawn + 1 } gp p := ⟨⟨below_append R5.out.2.1 (below_drawn w5 _), R5.out.1.1⟩, R5.out.2.2.2, R5.out.2.2.1⟩
      refine takeU (i := 0) (some 64) rfl rfl (by kernel_rfl) (by kernel_rfl) (by kernel_rfl) (by kernel_rfl) (by kernel_rfl) (fun _ _ _ h => h) (yRun rfl _ (fun W' _ => rx_field f52_0 (.tmp 15) rfl gw 0 rfl)) hS ?_
      simp only [Act.put, List.setIfInBounds_toArray, List.set_cons_succ, List.set_cons_zero]
      refine takeU (i := 1) (some 65) rfl rfl (by kernel_rfl) (by kernel_rfl) (by kernel_rfl) (by kernel_rfl) (by kernel_rfl) (fun _ _ _ h => h) (yRun rfl (hv x) (fun W' hW => rx_load (.tmp 64) rfl _ rfl x hW.2.1.old)) hS ?_
      simp only [Act.put, List.setIfInBounds_toArray, List.set_cons_succ, List.set_cons_zero]
      refine takeU (i := 2) (some 66) rfl rfl (by kernel_rfl) (by kernel_rfl) (by kernel_rfl) (by kernel_rfl) (by kernel_rfl) (fun _ _ _ h => h) (yRun rfl _ (fun W' _ => rx_field f52_1 (.tmp 15) rfl gw 0 rfl)) hS ?_
      simp only [Act.put, List.setIfInBounds_toArray, List.set_cons_succ, List.set_cons_zero]
      refine takeU (i := 3) (some 67) rfl rfl (by kernel_rfl) (by kernel_rfl) (by kernel_rfl) (by kernel_rfl) (by kernel_rfl) (fun _ _ _ h => h) (yRun rfl (hv y) (fun W' hW => rx_load (.tmp 66) rfl _ rfl y hW.2.1.new)) hS ?_
      simp only [Act.put, List.setIfInBounds_toArray, List.set_cons_succ, List.set_cons_zero]
      refine takeU (i := 4) (some 68) rfl rfl (by kernel_rfl) (by kernel_rfl) (by kernel_rfl) (by kernel_rfl) (by kernel_rfl) (fun _ _ _ h => h) (yRun rfl (hv p) (fun W' hW => rx_load (.tmp 12) rfl _ rfl p hW.2.2.at)) hS ?_
      simp only [Act.put, List.setIfInBounds_toArray, List.set_cons_succ, List.set_cons_zero]
      refine oneU (i := 5) (by kernel_rfl) ?_
      refine opCallA (some 69) rfl rfl rfl 22 _ (run_call en22' [.tmp 67, .tmp 68] _ rfl [hv y, hv p] rfl) ?_
      refine (node_any y p R4.out.2.2.1.2 HPT.out _ (ht.later hS.1.1) (hst.later hS.1.1)).mono ?_
      rintro e w6 ⟨rfl, b6⟩
      have hS' : (Below W.heap.size W w6 ∧ WIs w6 g0 noH noH) ∧ WIs w6 gw x y ∧ HIs w6 gp p := ⟨⟨below_append hS.1.1 b6, hS.1.2.next b6⟩, hS.2.1.next b6, hS.2.2.next b6⟩
      refine ⟨_, rfl, fun _ => hS', ?_⟩
      clear hS b6
      have hS := hS'
      clear hS'
      simp only [Act.put, List.setIfInBounds_toArray, List.set_cons_succ, List.set_cons_zero]
      refine takeU (i := 6) (some 70) rfl rfl (by kernel_rfl) (by kernel_rfl) (by kernel_rfl) (by kernel_rfl) (by kernel_rfl) (fun _ _ _ h => h) (yRun rfl (wv x (Tree.node y p)) (fun _ _ => rx_buildW (.tmp 65) (.tmp 69) rfl x (Tree.node y p) R4.out.2.2.1.1 (node_isH _ _) rfl rfl)) hS ?_
      simp only [Act.put, List.setIfInBounds_toArray, List.set_cons_succ, List.set_cons_zero]
      refine oneU (i := 7) (by kernel_rfl) ?_
      refine opSkip rfl rfl rfl _ (rx_storeW (.tmp 10) (.tmp 70) rfl g0 rfl noH noH x (Tree.node y p) R4.out.2.2.1.1 (node_isH _ _) rfl hS.1.2) ?_
      have o7 : Only g0 w6 (w6.setRow g0 (bcells (x ++ (Tree.node y p))).toArray) := (Only.refl g0 w6).setRow _
      have R7 : Hid (WIs (w6.setRow g0 (bcells (x ++ (Tree.node y p))).toArray) g0 x (Tree.node y p) ∧ Below W.heap.size W (w6.setRow g0 (bcells (x ++ (Tree.node y p))).toArray)) := ⟨wis_store R4.out.2.2.1.1 (node_isH _ _) hS.1.2, hS.1.1.trans (o7.below (by rw [G0.out]; exact Nat.le_refl _) hS.1.1.size)⟩
      refine ⟨fun h => absurd h (by decide), ?_⟩
      generalize w6.setRow g0 (bcells (x ++ (Tree.node y p))).toArray = w9 at R7 ⊢
      clear o7 hS
      refine oneU (i := 8) (by kernel_rfl) ?_
      refine opVal (some 11) rfl rfl rfl (.bool true) _ rfl ?_
      refine ⟨fun h => absurd h (by decide), ?_⟩
      simp only [Act.put, List.setIfInBounds_toArray, List.set_cons_succ, List.set_cons_zero]
      refine wpAnyU_done (by kernel_rfl) ?_ _
      go_wp2_with fail
      exact bodyPost_ret (results_WB Tryd.results27 _ _ g0 rfl _ _ R7.out.1 _ rfl) rfl (TwoTold.mk HU.out rfl R4.out.2.2.1.1 (node_isH _ _) R7.out.2)
  · have HU : Hid (Tree.two m n a row whole = (Tree.two (m - Tree.half n) (n - Tree.half n) a (Tree.othersOf row) false).map fun w => (Tree.node (Tree.lastOf row) w.1, Tree.node (Tree.lastOf row) w.2)) := Tree.two_high m n a row whole h2 hmn hr hlow
    generalize Tree.half n = k at hk hkp HK HU hlow
    have hlow' : ¬ (m : Int) ≤ (k : Int) := by omega
    obtain ⟨p, hp⟩ : ∃ p, p = Tree.lastOf row := ⟨_, rfl⟩
    obtain ⟨ys, hys⟩ : ∃ ys, ys = Tree.othersOf row := ⟨_, rfl⟩
    rw [← hp] at HPT
    have HPY : Hid (∀ W', HIn W' v row → Calls Tryd.prog 24 #[v] W' fun e w' => ∃ v', e = .returned (.tuple #[hv p, v']) ∧ HIn W' v' ys ∧ Below W'.heap.size W' w') := fun W' hW' => by rw [hp, hys]; exact parted_any v row W' hW' HR0.out
    rw [← hp, ← hys] at HU
    clear hN hr hp hys
    go_enter Tryd.func27, Tryd.ntmps27
    go_wp2_with (first
      | (refine wl_allocW rfl rfl ?_; rw [← hg0]; intro w1 r1 s1 b1; have R1 : Hid (WIs w1 g0 noH noH ∧ Below W.heap.size W w1) := ⟨r1, hg0 ▸ b1⟩; clear r1 s1 b1 hg0)
      | (refine wl_lenN (.tmp 31) rfl rfl v row rfl h (N + 1) HN.out ?_)
      | (go_at_call 24; refine (HPY.out w1 (h.later R1.out.2)).mono ?_; rintro e w2 ⟨vo, rfl, o2, b2⟩; have R2 : Hid (WIs w2 g0 noH noH ∧ Below W.heap.size W w2 ∧ HIn w2 vo ys) := ⟨R1.out.1.next b2, below_append R1.out.2 b2, o2.later b2⟩; clear o2 b2)
      | (refine wl_new rfl rfl rfl rfl rfl (.tmp 38) rfl p HPT.out (fun _ => rfl) (fun _ => rfl) ?_; intro w3 r3 s3 b3; have R3 : Hid (WIs w3 g0 noH noH ∧ Below W.heap.size W w3 ∧ HIn w3 vo ys ∧ HIs w3 w2.heap.size p) := ⟨R2.out.1.next b3, below_append R2.out.2.1 b3, R2.out.2.2.later b3, r3⟩; clear r3 s3 b3)
      | (go_at_call 25; refine (HK.out _).mono ?_; rintro e w' ⟨rfl, rfl⟩)
      | (refine wl_load1 oneF (.tmp 5) rfl rfl gf 0 rfl (.func (.func 27) #[] #[.pointer (some ⟨ga, 0, none⟩), .pointer (some ⟨gf, 0, none⟩)]) ((HL.out.2.later R3.out.2.1 HL.out.2.lt).at 0 _ rfl) ?_))
    generalize w2.heap.size = gp at R3 ⊢
    rw [show (m : Int) - (k : Int) = ((m - k : Nat) : Int) by omega, show (n : Int) - (k : Int) = ((n - k : Nat) : Int) by omega]
    refine (ih (n - k) (by omega) (m - k) false vo ys w3 (by omega) (by omega) (by omega) R3.out.2.2.1 (ht.later R3.out.2.1) (hst.later R3.out.2.1) (HL.out.1.next R3.out.2.1) (HL.out.2.later R3.out.2.1 HL.out.2.lt)).mono ?_
    rcases hO : (Tree.two (m - k) (n - k) a ys false) with _ | z
    · intro e w4 t4
      obtain ⟨x, y, rfl, hq, b4⟩ := t4.no
      have HU2 : Hid (Tree.two m n a row whole = none) := by show _ = _; rw [HU.out, hO]; rfl
      have R4 : Hid (WIs w4 g0 noH noH ∧ Below W.heap.size W w4 ∧ IsH x ∧ IsH y) := ⟨R3.out.1.next b4, below_append R3.out.2.1 b4, hq⟩
      clear t4 hq b4 hO R3 HU
      have HU := HU2
      clear HU2
      go_wp2_with (first
        | (refine wl_newW rfl rfl rfl rfl rfl (.tmp 81) rfl x y R4.out.2.2.1 R4.out.2.2.2 (fun _ => rfl) (fun _ => rfl) ?_; intro w5 r5 s5 b5; have R5 : Hid (WIs w5 g0 noH noH ∧ Below W.heap.size W w5) := ⟨R4.out.1.next b5, below_append R4.out.2.1 b5⟩; clear r5 s5 b5)
        | (refine wl_zeroW rfl rfl ?_)
        | (refine wl_storeW (.tmp 10) (.tmp 93) rfl rfl rfl g0 rfl noH noH noH noH noH_isH noH_isH rfl R5.out.1 ?_; intro w7 r7 o7 s7; have R7 : Hid (WIs w7 g0 noH noH ∧ Below W.heap.size W w7) := ⟨r7, R5.out.2.trans (o7.below (by rw [G0.out]; exact Nat.le_refl _) R5.out.2.size)⟩; clear r7 o7 s7))
      exact bodyPost_ret (results_WB Tryd.results27 _ _ g0 rfl _ _ R7.out.1 _ rfl) rfl (TwoTold.mkNo HU.out rfl noH_isH noH_isH R7.out.2)
    · intro e w4 t4
      obtain ⟨rfl, hq, b4⟩ := t4.yes
      have HU2 : Hid (Tree.two m n a row whole = some ((Tree.node p z.1), (Tree.node p z.2))) := by show _ = _; rw [HU.out, hO]; rfl
      have R4 : Hid (WIs w4 g0 noH noH ∧ Below W.heap.size W w4 ∧ (IsH z.1 ∧ IsH z.2) ∧ HIs w4 gp p) := ⟨R3.out.1.next b4, below_append R3.out.2.1 b4, hq, R3.out.2.2.2.next b4⟩
      clear t4 hq b4 hO R3 HU
      have HU := HU2
      clear HU2
      obtain ⟨x, y⟩ := z
      go_wp2_with (first
        | (refine wl_newW rfl rfl rfl rfl rfl (.tmp 81) rfl x y R4.out.2.2.1.1 R4.out.2.2.1.2 (fun _ => rfl) (fun _ => rfl) ?_; intro w5 r5 s5 b5; have R5 : Hid ((WIs w5 g0 noH noH ∧ g0 ≠ w4.heap.size) ∧ Below W.heap.size W w5 ∧ HIs w5 gp p ∧ WIs w5 w4.heap.size x y) := ⟨⟨R4.out.1.next b5, by have := R4.out.1.lt; omega⟩, below_append R4.out.2.1 b5, R4.out.2.2.2.next b5, r5⟩; clear r5 s5 b5))
      generalize w4.heap.size = gw at R5 ⊢
      refine wp_region_until (S := fun W' => (Below W.heap.size W W' ∧ WIs W' g0 noH noH) ∧ WIs W' gw x y ∧ HIs W' gp p) 9 (by kernel_rfl) ?_
      show wpAnyU _ _ _ _ _ _ 11 (Array.replicate 11 false) _ _
      have hS : (Below W.heap.size W { w5 with drawn := w5.drawn + 1 } ∧ WIs { w5 with drawn := w5.drawn + 1 } g0 noH noH) ∧ WIs { w5 with drawn := w5.drawn + 1 } gw x y ∧ HIs { w5 with drawn := w5.drawn + 1 } gp p := ⟨⟨below_append R5.out.2.1 (below_drawn w5 _), R5.out.1.1⟩, R5.out.2.2.2, R5.out.2.2.1⟩
      refine takeU (i := 0) (some 84) rfl rfl (by kernel_rfl) (by kernel_rfl) (by kernel_rfl) (by kernel_rfl) (by kernel_rfl) (fun _ _ _ h => h) (yRun rfl (hv p) (fun W' hW => rx_load (.tmp 12) rfl _ rfl p hW.2.2.at)) hS ?_
      simp only [Act.put, List.setIfInBounds_toArray, List.set_cons_succ, List.set_cons_zero]
      refine takeU (i := 1) (some 85) rfl rfl (by kernel_rfl) (by kernel_rfl) (by kernel_rfl) (by kernel_rfl) (by kernel_rfl) (fun _ _ _ h => h) (yRun rfl _ (fun W' _ => rx_field f52_0 (.tmp 17) rfl gw 0 rfl)) hS ?_
      simp only [Act.put, List.setIfInBounds_toArray, List.set_cons_succ, List.set_cons_zero]
      refine takeU (i := 2) (some 86) rfl rfl (by kernel_rfl) (by kernel_rfl) (by kernel_rfl) (by kernel_rfl) (by kernel_rfl) (fun _ _ _ h => h) (yRun rfl (hv x) (fun W' hW => rx_load (.tmp 85) rfl _ rfl x hW.2.1.old)) hS ?_
      simp only [Act.put, List.setIfInBounds_toArray, List.set_cons_succ, List.set_cons_zero]
      refine takeU (i := 4) (some 88) rfl rfl (by kernel_rfl) (by kernel_rfl) (by kernel_rfl) (by kernel_rfl) (by kernel_rfl) (fun _ _ _ h => h) (yRun rfl (hv p) (fun W' hW => rx_load (.tmp 12) rfl _ rfl p hW.2.2.at)) hS ?_
      simp only [Act.put, List.setIfInBounds_toArray, List.set_cons_succ, List.set_cons_zero]
      refine takeU (i := 5) (some 89) rfl rfl (by kernel_rfl) (by kernel_rfl) (by kernel_rfl) (by kernel_rfl) (by kernel_rfl) (fun _ _ _ h => h) (yRun rfl _ (fun W' _ => rx_field f52_1 (.tmp 17) rfl gw 0 rfl)) hS ?_
      simp only [Act.put, List.setIfInBounds_toArray, List.set_cons_succ, List.set_cons_zero]
      refine takeU (i := 6) (some 90) rfl rfl (by kernel_rfl) (by kernel_rfl) (by kernel_rfl) (by kernel_rfl) (by kernel_rfl) (fun _ _ _ h => h) (yRun rfl (hv y) (fun W' hW => rx_load (.tmp 89) rfl _ rfl y hW.2.1.new)) hS ?_
      simp only [Act.put, List.setIfInBounds_toArray, List.set_cons_succ, List.set_cons_zero]
      refine oneU (i := 3) (by kernel_rfl) ?_
      refine opCallA (some 87) rfl rfl rfl 22 _ (run_call en22' [.tmp 84, .tmp 86] _ rfl [hv p, hv x] rfl) ?_
      refine (node_any p x HPT.out R4.out.2.2.1.1 _ (ht.later hS.1.1) (hst.later hS.1.1)).mono ?_
      rintro e w6 ⟨rfl, b6⟩
      have hS' : (Below W.heap.size W w6 ∧ WIs w6 g0 noH noH) ∧ WIs w6 gw x y ∧ HIs w6 gp p := ⟨⟨below_append hS.1.1 b6, hS.1.2.next b6⟩, hS.2.1.next b6, hS.2.2.next b6⟩
      refine ⟨_, rfl, fun _ => hS', ?_⟩
      clear hS b6
      have hS := hS'
      clear hS'
      simp only [Act.put, List.setIfInBounds_toArray, List.set_cons_succ, List.set_cons_zero]
      refine oneU (i := 7) (by kernel_rfl) ?_
      refine opCallA (some 91) rfl rfl rfl 22 _ (run_call en22' [.tmp 88, .tmp 90] _ rfl [hv p, hv y] rfl) ?_
      refine (node_any p y HPT.out R4.out.2.2.1.2 _ (ht.later hS.1.1) (hst.later hS.1.1)).mono ?_
      rintro e w8 ⟨rfl, b6⟩
      have hS' : (Below W.heap.size W w8 ∧ WIs w8 g0 noH noH) ∧ WIs w8 gw x y ∧ HIs w8 gp p := ⟨⟨below_append hS.1.1 b6, hS.1.2.next b6⟩, hS.2.1.next b6, hS.2.2.next b6⟩
      refine ⟨_, rfl, fun _ => hS', ?_⟩
      clear hS b6
      have hS := hS'
      clear hS'
      simp only [Act.put, List.setIfInBounds_toArray, List.set_cons_succ, List.set_cons_zero]
      refine takeU (i := 8) (some 92) rfl rfl (by kernel_rfl) (by kernel_rfl) (by kernel_rfl) (by kernel_rfl) (by kernel_rfl) (fun _ _ _ h => h) (yRun rfl (wv (Tree.node p x) (Tree.node p y)) (fun _ _ => rx_buildW (.tmp 87) (.tmp 91) rfl (Tree.node p x) (Tree.node p y) (node_isH _ _) (node_isH _ _) rfl rfl)) hS ?_
      simp only [Act.put, List.setIfInBounds_toArray, List.set_cons_succ, List.set_cons_zero]
      refine oneU (i := 9) (by kernel_rfl) ?_
      refine opSkip rfl rfl rfl _ (rx_storeW (.tmp 10) (.tmp 92) rfl g0 rfl noH noH (Tree.node p x) (Tree.node p y) (node_isH _ _) (node_isH _ _) rfl hS.1.2) ?_
      have o7 : Only g0 w8 (w8.setRow g0 (bcells ((Tree.node p x) ++ (Tree.node p y))).toArray) := (Only.refl g0 w8).setRow _
      have R7 : Hid (WIs (w8.setRow g0 (bcells ((Tree.node p x) ++ (Tree.node p y))).toArray) g0 (Tree.node p x) (Tree.node p y) ∧ Below W.heap.size W (w8.setRow g0 (bcells ((Tree.node p x) ++ (Tree.node p y))).toArray)) := ⟨wis_store (node_isH _ _) (node_isH _ _) hS.1.2, hS.1.1.trans (o7.below (by rw [G0.out]; exact Nat.le_refl _) hS.1.1.size)⟩
      refine ⟨fun h => absurd h (by decide), ?_⟩
      generalize w8.setRow g0 (bcells ((Tree.node p x) ++ (Tree.node p y))).toArray = w9 at R7 ⊢
      clear o7 hS
      refine oneU (i := 10) (by kernel_rfl) ?_
      refine opVal (some 11) rfl rfl rfl (.bool true) _ rfl ?_
      refine ⟨fun h => absurd h (by decide), ?_⟩
      simp only [Act.put, List.setIfInBounds_toArray, List.set_cons_succ, List.set_cons_zero]
      refine wpAnyU_done (by kernel_rfl) ?_ _
      go_wp2_with fail
      exact bodyPost_ret (results_WB Tryd.results27 _ _ g0 rfl _ _ R7.out.1 _ rfl) rfl (TwoTold.mk HU.out rfl (node_isH _ _) (node_isH _ _) R7.out.2)
end Go.Proofs.YtjdmpanemdhbbaaDoor

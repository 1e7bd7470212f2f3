/- The walk of the statements' examples. -/
import Derived.Test.YtjdmpanemdhbbaaDoorVCons
import Derived.Test.YtjdmpanemdhbbaaDoorShLaws
import Derived.Deep.CutRange
namespace Go.Proofs.YtjdmpanemdhbbaaDoor
open Go.RowKit

set_option maxHeartbeats 40000000 in
set_option maxRecDepth 100000 in
theorem shown_any (w : World) (ht : TabIn w) (hst : StartIn w) :
    Calls Tryd.prog 9 #[] w fun e w' => e = .returned (.bool true) ∧ Below w.heap.size w w' := by
  go_enter Tryd.func9, Tryd.ntmps9
  go_wp2_with ((first
    | (refine wl_lit 1 _ rfl rfl rfl ?_; obtain ⟨x, hx⟩ : ∃ x, x = lit 1 := ⟨_, rfl⟩; have Hx : Hid (IsH x) := (by rw [hx]; exact lit_isH 1 (by decide)); rw [← hx]; have HX : Hid (decide (x = Sha.sha []) = false) := (by rw [hx]; exact lit_none); clear hx)
    | (refine wl_lit 2 _ rfl rfl rfl ?_; obtain ⟨y, hy⟩ : ∃ y, y = lit 2 := ⟨_, rfl⟩; have Hy : Hid (IsH y) := (by rw [hy]; exact lit_isH 2 (by decide)); rw [← hy]; clear hy)
    | (refine wl_lit 3 _ rfl rfl rfl ?_; obtain ⟨z, hz⟩ : ∃ z, z = lit 3 := ⟨_, rfl⟩; have Hz : Hid (IsH z) := (by rw [hz]; exact lit_isH 3 (by decide)); rw [← hz]; clear hz)
    | (refine wl_lit 4 _ rfl rfl rfl ?_; obtain ⟨q, hq⟩ : ∃ q, q = lit 4 := ⟨_, rfl⟩; have Hq : Hid (IsH q) := (by rw [hq]; exact lit_isH 4 (by decide)); rw [← hq]; clear hq)
    | (refine wl_new rfl rfl rfl rfl rfl (.tmp 9) rfl x Hx.out (fun _ => rfl) (fun _ => rfl) ?_; intro w1 r s b; have R1 : Hid (HIs w1 w.heap.size x ∧ Below w.heap.size w w1) := ⟨r, b⟩; clear r s b)
    | (refine wl_new rfl rfl rfl rfl rfl (.tmp 10) rfl y Hy.out (fun _ => rfl) (fun _ => rfl) ?_; intro w2 r s b; have R2 : Hid (HIs w2 w.heap.size x ∧ HIs w2 w1.heap.size y ∧ Below w.heap.size w w2) := ⟨R1.out.1.next b, r, below_append R1.out.2 b⟩; clear r s b)
    | (refine wl_new rfl rfl rfl rfl rfl (.tmp 11) rfl z Hz.out (fun _ => rfl) (fun _ => rfl) ?_; intro w3 r s b; have R3 : Hid (HIs w3 w.heap.size x ∧ HIs w3 w1.heap.size y ∧ HIs w3 w2.heap.size z ∧ Below w.heap.size w w3) := ⟨R2.out.1.next b, R2.out.2.1.next b, r, below_append R2.out.2.2 b⟩; clear r s b)
    | (refine wl_new rfl rfl rfl rfl rfl (.tmp 12) rfl q Hq.out (fun _ => rfl) (fun _ => rfl) ?_; intro w4 r s b; have R4 : Hid (HIs w4 w.heap.size x ∧ HIs w4 w1.heap.size y ∧ HIs w4 w2.heap.size z ∧ HIs w4 w3.heap.size q ∧ Below w.heap.size w w4) := ⟨R3.out.1.next b, R3.out.2.1.next b, R3.out.2.2.1.next b, r, below_append R3.out.2.2.2 b⟩; clear r s b)
    | (refine wl_load (.tmp 1) rfl rfl _ rfl x R4.out.1.at ?_)
    | (refine wl_load (.tmp 2) rfl rfl _ rfl y R4.out.2.1.at ?_)
    | (go_at_call 22; refine (node_any x y Hx.out Hy.out w4 (ht.later R4.out.2.2.2.2) (hst.later R4.out.2.2.2.2)).mono ?_; rintro e w5 ⟨rfl, b⟩; have R5 : Hid (HIs w5 w.heap.size x ∧ HIs w5 w1.heap.size y ∧ HIs w5 w2.heap.size z ∧ HIs w5 w3.heap.size q ∧ Below w.heap.size w w5) := ⟨R4.out.1.next b, R4.out.2.1.next b, R4.out.2.2.1.next b, R4.out.2.2.2.1.next b, below_append R4.out.2.2.2.2 b⟩; clear b)
    | (refine wl_new rfl rfl rfl rfl rfl (.tmp 15) rfl (Tree.node x y) (node_isH _ _) (fun _ => rfl) (fun _ => rfl) ?_; intro w6 r s b; have R6 : Hid (Sh w w6 w.heap.size w1.heap.size w2.heap.size w3.heap.size w5.heap.size x y z q (Tree.node x y)) := ⟨R5.out.1.next b, R5.out.2.1.next b, R5.out.2.2.1.next b, R5.out.2.2.2.1.next b, r, below_append R5.out.2.2.2.2 b⟩; clear r s b)); try simp only [Act.put, List.setIfInBounds_toArray, List.set_cons_succ, List.set_cons_zero])
  obtain ⟨u, hu⟩ : ∃ u, u = Tree.node x y := ⟨_, rfl⟩
  rw [← hu] at R6 ⊢
  have HS : Hid (Tree.inclOk x 0 1 [] x = true ∧ Tree.inclOk x 0 1 [y] x = false ∧ Tree.inclOk z 2 3 [u] (Tree.node u z) = true ∧ Tree.inclOk x 0 3 [y, z] (Tree.node u z) = true ∧ Tree.inclOk x (-1) 1 [] x = false ∧ Tree.inclOk x 1 1 [] x = false) := ⟨Tree.s1 x, Tree.s2 x y, Tree.s3 z u, (by rw [hu]; exact Tree.s4 x y z), Tree.s5 x, Tree.s6 x⟩
  have HC : Hid (Tree.consOk 2 3 u (Tree.node u z) [z] = true ∧ Tree.consOk 3 4 (Tree.node u z) (Tree.node u (Tree.node z q)) [z, q, u] = true ∧ Tree.consOk 3 3 x x [] = true ∧ Tree.consOk 4 3 x y [] = false ∧ Tree.consOk 0 3 (Sha.sha []) x [] = true ∧ Tree.consOk 0 3 x x [] = false) := ⟨Tree.c1 u z, Tree.c2 u z q, Tree.c3 x, Tree.c4 x y, Tree.c5 x, Tree.c6 x x HX.out⟩
  obtain ⟨g1, hg1⟩ : ∃ g1, g1 = w.heap.size := ⟨_, rfl⟩
  obtain ⟨g2, hg2⟩ : ∃ g2, g2 = w1.heap.size := ⟨_, rfl⟩
  obtain ⟨g3, hg3⟩ : ∃ g3, g3 = w2.heap.size := ⟨_, rfl⟩
  obtain ⟨g4, hg4⟩ : ∃ g4, g4 = w3.heap.size := ⟨_, rfl⟩
  obtain ⟨g5, hg5⟩ : ∃ g5, g5 = w5.heap.size := ⟨_, rfl⟩
  have RS : Hid (Sh w w6 g1 g2 g3 g4 g5 x y z q u) := by rw [hg1, hg2, hg3, hg4, hg5]; exact R6.out
  rw [← hg2, ← hg3, ← hg4, ← hg5]
  rw [show (Value.pointer (some ⟨w.heap.size, 0, none⟩)) = .pointer (some ⟨g1, 0, none⟩) by rw [hg1]]
  clear hg1 hg2 hg3 hg4 hg5 hu R6 R5 R4 R3 R2 R1 HX
  go_upto_region 6 with fail
  go_cut [6] from 16 to 45 (fun s W => s = .bool true ∧ Sh w W g1 g2 g3 g4 g5 x y z q u)
  case first =>
    refine wp_region_held (S := fun W => Below w6.heap.size w6 W) (by kernel_rfl) ?_
    show wpAnyH _ _ _ _ _ 31 (Array.replicate 31 false) _ _
    have hS : Below w6.heap.size w6 { w6 with drawn := w6.drawn + 1 } := below_drawn w6 _
    refine takeH (i := 0) (some 16) rfl rfl (by kernel_rfl) (by kernel_rfl) (by kernel_rfl) (fun _ _ _ h => h) (yRunW rfl (hv x) (fun W hW => rx_load (.tmp 1) rfl (.pointer (some ⟨g1, 0, none⟩)) rfl x ((RS.out.next hW).x.at))) hS ?_
    simp only [Act.put, List.setIfInBounds_toArray, List.set_cons_succ, List.set_cons_zero]
    refine takeH (i := 1) (some 17) rfl rfl (by kernel_rfl) (by kernel_rfl) (by kernel_rfl) (fun _ _ _ h => h) (yRunW rfl (hv x) (fun W hW => rx_load (.tmp 1) rfl (.pointer (some ⟨g1, 0, none⟩)) rfl x ((RS.out.next hW).x.at))) hS ?_
    simp only [Act.put, List.setIfInBounds_toArray, List.set_cons_succ, List.set_cons_zero]
    refine oneH (i := 2) (by kernel_rfl) ?_
    refine opCallW (some 18) rfl rfl rfl 10 _ (run_call en10 [.tmp 16, .const (.int .i64 0), .const (.int .i64 1), .const (.slice none 0 0), .tmp 17] _ rfl [hv x, .int .i64 0, .int .i64 1, (.slice none 0 0), hv x] rfl) ?_
    refine (vincl_any x x 0 1 (.slice none 0 0) [] _ RS.out.x.1 RS.out.x.1 (HIn.nil _) (ht.later (RS.out.next hS).b) (hst.later (RS.out.next hS).b) (by decide)).mono ?_
    rintro e v61 ⟨rfl, bb⟩
    rw [HS.out.1]
    have hS' : Below w6.heap.size w6 v61 := below_append hS bb
    refine ⟨_, rfl, hS', ?_⟩
    clear hS bb
    have hS := hS'
    clear hS'
    simp only [Act.put, List.setIfInBounds_toArray, List.set_cons_succ, List.set_cons_zero]
    refine takeH (i := 3) (some 19) rfl rfl (by kernel_rfl) (by kernel_rfl) (by kernel_rfl) (fun _ _ _ h => h) (yMoveW rfl (.tmp 18) rfl (.bool true) rfl) hS ?_
    simp only [Act.put, List.setIfInBounds_toArray, List.set_cons_succ, List.set_cons_zero]
    refine takeH (i := 4) (some 20) rfl rfl (by kernel_rfl) (by kernel_rfl) (by kernel_rfl) (fun _ _ _ h => h) (yRunW rfl (hv x) (fun W hW => rx_load (.tmp 1) rfl (.pointer (some ⟨g1, 0, none⟩)) rfl x ((RS.out.next hW).x.at))) hS ?_
    simp only [Act.put, List.setIfInBounds_toArray, List.set_cons_succ, List.set_cons_zero]
    refine takeH (i := 5) (some 21) rfl rfl (by kernel_rfl) (by kernel_rfl) (by kernel_rfl) (fun _ _ _ h => h) (yRunW rfl (hv y) (fun W hW => rx_load (.tmp 2) rfl (.pointer (some ⟨g2, 0, none⟩)) rfl y ((RS.out.next hW).y.at))) hS ?_
    simp only [Act.put, List.setIfInBounds_toArray, List.set_cons_succ, List.set_cons_zero]
    refine takeH (i := 7) (some 23) rfl rfl (by kernel_rfl) (by kernel_rfl) (by kernel_rfl) (fun _ _ _ h => h) (yRunW rfl (hv x) (fun W hW => rx_load (.tmp 1) rfl (.pointer (some ⟨g1, 0, none⟩)) rfl x ((RS.out.next hW).x.at))) hS ?_
    simp only [Act.put, List.setIfInBounds_toArray, List.set_cons_succ, List.set_cons_zero]
    refine oneH (i := 6) (by kernel_rfl) ?_
    refine opLit1 (some 22) rfl rfl rfl (.tmp 21) rfl y RS.out.y.1 rfl ?_
    intro Vv62 v62 Lv62 bb
    have hS' : Below w6.heap.size w6 v62 := below_append hS bb
    refine ⟨hS', ?_⟩
    clear hS bb
    have hS := hS'
    clear hS'
    simp only [Act.put, List.setIfInBounds_toArray, List.set_cons_succ, List.set_cons_zero]
    refine oneH (i := 8) (by kernel_rfl) ?_
    refine opCallW (some 24) rfl rfl rfl 10 _ (run_call en10 [.tmp 20, .const (.int .i64 0), .const (.int .i64 1), .tmp 22, .tmp 23] _ rfl [hv x, .int .i64 0, .int .i64 1, Vv62, hv x] rfl) ?_
    refine (vincl_any x x 0 1 Vv62 [y] _ RS.out.x.1 RS.out.x.1 Lv62 (ht.later (RS.out.next hS).b) (hst.later (RS.out.next hS).b) (by decide)).mono ?_
    rintro e v63 ⟨rfl, bb⟩
    rw [HS.out.2.1]
    have hS' : Below w6.heap.size w6 v63 := below_append hS bb
    refine ⟨_, rfl, hS', ?_⟩
    have Lv62' : HIn v63 Vv62 [y] := Lv62.later bb
    clear Lv62
    have Lv62 := Lv62'
    clear Lv62'
    clear hS bb
    have hS := hS'
    clear hS'
    simp only [Act.put, List.setIfInBounds_toArray, List.set_cons_succ, List.set_cons_zero]
    refine takeH (i := 9) (some 25) rfl rfl (by kernel_rfl) (by kernel_rfl) (by kernel_rfl) (fun _ _ _ h => h) (yNotW rfl (.tmp 24) rfl false rfl) hS ?_
    simp only [Act.put, List.setIfInBounds_toArray, List.set_cons_succ, List.set_cons_zero]
    refine takeH (i := 10) (some 26) rfl rfl (by kernel_rfl) (by kernel_rfl) (by kernel_rfl) (fun _ _ _ h => h) (yPickW rfl (.tmp 19) (.tmp 25) _ rfl rfl (.bool true) rfl) hS ?_
    simp only [Act.put, List.setIfInBounds_toArray, List.set_cons_succ, List.set_cons_zero]
    refine takeH (i := 11) (some 27) rfl rfl (by kernel_rfl) (by kernel_rfl) (by kernel_rfl) (fun _ _ _ h => h) (yMoveW rfl (.tmp 26) rfl (.bool true) rfl) hS ?_
    simp only [Act.put, List.setIfInBounds_toArray, List.set_cons_succ, List.set_cons_zero]
    refine takeH (i := 12) (some 28) rfl rfl (by kernel_rfl) (by kernel_rfl) (by kernel_rfl) (fun _ _ _ h => h) (yRunW rfl (hv z) (fun W hW => rx_load (.tmp 3) rfl (.pointer (some ⟨g3, 0, none⟩)) rfl z ((RS.out.next hW).z.at))) hS ?_
    simp only [Act.put, List.setIfInBounds_toArray, List.set_cons_succ, List.set_cons_zero]
    refine takeH (i := 13) (some 29) rfl rfl (by kernel_rfl) (by kernel_rfl) (by kernel_rfl) (fun _ _ _ h => h) (yRunW rfl (hv u) (fun W hW => rx_load (.tmp 5) rfl (.pointer (some ⟨g5, 0, none⟩)) rfl u ((RS.out.next hW).u.at))) hS ?_
    simp only [Act.put, List.setIfInBounds_toArray, List.set_cons_succ, List.set_cons_zero]
    refine takeH (i := 15) (some 31) rfl rfl (by kernel_rfl) (by kernel_rfl) (by kernel_rfl) (fun _ _ _ h => h) (yRunW rfl (hv u) (fun W hW => rx_load (.tmp 5) rfl (.pointer (some ⟨g5, 0, none⟩)) rfl u ((RS.out.next hW).u.at))) hS ?_
    simp only [Act.put, List.setIfInBounds_toArray, List.set_cons_succ, List.set_cons_zero]
    refine takeH (i := 16) (some 32) rfl rfl (by kernel_rfl) (by kernel_rfl) (by kernel_rfl) (fun _ _ _ h => h) (yRunW rfl (hv z) (fun W hW => rx_load (.tmp 3) rfl (.pointer (some ⟨g3, 0, none⟩)) rfl z ((RS.out.next hW).z.at))) hS ?_
    simp only [Act.put, List.setIfInBounds_toArray, List.set_cons_succ, List.set_cons_zero]
    refine twoH (i := 14) (j := 17) (by kernel_rfl) ?_ ?_
    · refine opLit1 (some 30) rfl rfl rfl (.tmp 29) rfl u RS.out.u.1 rfl ?_
      intro Vv64 v64 Lv64 bb
      have hS' : Below w6.heap.size w6 v64 := below_append hS bb
      refine ⟨hS', ?_⟩
      have Lv62' : HIn v64 Vv62 [y] := Lv62.later bb
      clear Lv62
      have Lv62 := Lv62'
      clear Lv62'
      clear hS bb
      have hS := hS'
      clear hS'
      simp only [Act.put, List.setIfInBounds_toArray, List.set_cons_succ, List.set_cons_zero]
      refine oneH (i := 17) (by kernel_rfl) ?_
      refine opCallW (some 33) rfl rfl rfl 22 _ (run_call en22' [.tmp 31, .tmp 32] _ rfl [hv u, hv z] rfl) ?_
      refine (node_any u z RS.out.u.1 RS.out.z.1 _ (ht.later (RS.out.next hS).b) (hst.later (RS.out.next hS).b)).mono ?_
      rintro e v65 ⟨rfl, bb⟩
      have hS' : Below w6.heap.size w6 v65 := below_append hS bb
      refine ⟨_, rfl, hS', ?_⟩
      have Lv62' : HIn v65 Vv62 [y] := Lv62.later bb
      clear Lv62
      have Lv62 := Lv62'
      clear Lv62'
      have Lv64' : HIn v65 Vv64 [u] := Lv64.later bb
      clear Lv64
      have Lv64 := Lv64'
      clear Lv64'
      clear hS bb
      have hS := hS'
      clear hS'
      simp only [Act.put, List.setIfInBounds_toArray, List.set_cons_succ, List.set_cons_zero]
      refine oneH (i := 18) (by kernel_rfl) ?_
      refine opCallW (some 34) rfl rfl rfl 10 _ (run_call en10 [.tmp 28, .const (.int .i64 2), .const (.int .i64 3), .tmp 30, .tmp 33] _ rfl [hv z, .int .i64 2, .int .i64 3, Vv64, hv (Tree.node u z)] rfl) ?_
      refine (vincl_any z (Tree.node u z) 2 3 Vv64 [u] _ RS.out.z.1 (node_isH _ _) Lv64 (ht.later (RS.out.next hS).b) (hst.later (RS.out.next hS).b) (by decide)).mono ?_
      rintro e v66 ⟨rfl, bb⟩
      rw [HS.out.2.2.1]
      have hS' : Below w6.heap.size w6 v66 := below_append hS bb
      refine ⟨_, rfl, hS', ?_⟩
      have Lv62' : HIn v66 Vv62 [y] := Lv62.later bb
      clear Lv62
      have Lv62 := Lv62'
      clear Lv62'
      have Lv64' : HIn v66 Vv64 [u] := Lv64.later bb
      clear Lv64
      have Lv64 := Lv64'
      clear Lv64'
      clear hS bb
      have hS := hS'
      clear hS'
      simp only [Act.put, List.setIfInBounds_toArray, List.set_cons_succ, List.set_cons_zero]
      refine takeH (i := 19) (some 35) rfl rfl (by kernel_rfl) (by kernel_rfl) (by kernel_rfl) (fun _ _ _ h => h) (yPickW rfl (.tmp 27) (.tmp 34) _ rfl rfl (.bool true) rfl) hS ?_
      simp only [Act.put, List.setIfInBounds_toArray, List.set_cons_succ, List.set_cons_zero]
      refine takeH (i := 20) (some 36) rfl rfl (by kernel_rfl) (by kernel_rfl) (by kernel_rfl) (fun _ _ _ h => h) (yMoveW rfl (.tmp 35) rfl (.bool true) rfl) hS ?_
      simp only [Act.put, List.setIfInBounds_toArray, List.set_cons_succ, List.set_cons_zero]
      refine takeH (i := 21) (some 37) rfl rfl (by kernel_rfl) (by kernel_rfl) (by kernel_rfl) (fun _ _ _ h => h) (yRunW rfl (hv x) (fun W hW => rx_load (.tmp 1) rfl (.pointer (some ⟨g1, 0, none⟩)) rfl x ((RS.out.next hW).x.at))) hS ?_
      simp only [Act.put, List.setIfInBounds_toArray, List.set_cons_succ, List.set_cons_zero]
      refine takeH (i := 22) (some 38) rfl rfl (by kernel_rfl) (by kernel_rfl) (by kernel_rfl) (fun _ _ _ h => h) (yRunW rfl (hv y) (fun W hW => rx_load (.tmp 2) rfl (.pointer (some ⟨g2, 0, none⟩)) rfl y ((RS.out.next hW).y.at))) hS ?_
      simp only [Act.put, List.setIfInBounds_toArray, List.set_cons_succ, List.set_cons_zero]
      refine takeH (i := 23) (some 39) rfl rfl (by kernel_rfl) (by kernel_rfl) (by kernel_rfl) (fun _ _ _ h => h) (yRunW rfl (hv z) (fun W hW => rx_load (.tmp 3) rfl (.pointer (some ⟨g3, 0, none⟩)) rfl z ((RS.out.next hW).z.at))) hS ?_
      simp only [Act.put, List.setIfInBounds_toArray, List.set_cons_succ, List.set_cons_zero]
      refine takeH (i := 25) (some 41) rfl rfl (by kernel_rfl) (by kernel_rfl) (by kernel_rfl) (fun _ _ _ h => h) (yRunW rfl (hv u) (fun W hW => rx_load (.tmp 5) rfl (.pointer (some ⟨g5, 0, none⟩)) rfl u ((RS.out.next hW).u.at))) hS ?_
      simp only [Act.put, List.setIfInBounds_toArray, List.set_cons_succ, List.set_cons_zero]
      refine takeH (i := 26) (some 42) rfl rfl (by kernel_rfl) (by kernel_rfl) (by kernel_rfl) (fun _ _ _ h => h) (yRunW rfl (hv z) (fun W hW => rx_load (.tmp 3) rfl (.pointer (some ⟨g3, 0, none⟩)) rfl z ((RS.out.next hW).z.at))) hS ?_
      simp only [Act.put, List.setIfInBounds_toArray, List.set_cons_succ, List.set_cons_zero]
      refine twoH (i := 24) (j := 27) (by kernel_rfl) ?_ ?_
      · refine opLit2 (some 40) rfl rfl rfl (.tmp 38) (.tmp 39) rfl y z RS.out.y.1 RS.out.z.1 rfl rfl ?_
        intro Vv67 v67 Lv67 bb
        have hS' : Below w6.heap.size w6 v67 := below_append hS bb
        refine ⟨hS', ?_⟩
        have Lv62' : HIn v67 Vv62 [y] := Lv62.later bb
        clear Lv62
        have Lv62 := Lv62'
        clear Lv62'
        have Lv64' : HIn v67 Vv64 [u] := Lv64.later bb
        clear Lv64
        have Lv64 := Lv64'
        clear Lv64'
        clear hS bb
        have hS := hS'
        clear hS'
        simp only [Act.put, List.setIfInBounds_toArray, List.set_cons_succ, List.set_cons_zero]
        refine oneH (i := 27) (by kernel_rfl) ?_
        refine opCallW (some 43) rfl rfl rfl 22 _ (run_call en22' [.tmp 41, .tmp 42] _ rfl [hv u, hv z] rfl) ?_
        refine (node_any u z RS.out.u.1 RS.out.z.1 _ (ht.later (RS.out.next hS).b) (hst.later (RS.out.next hS).b)).mono ?_
        rintro e v68 ⟨rfl, bb⟩
        have hS' : Below w6.heap.size w6 v68 := below_append hS bb
        refine ⟨_, rfl, hS', ?_⟩
        have Lv62' : HIn v68 Vv62 [y] := Lv62.later bb
        clear Lv62
        have Lv62 := Lv62'
        clear Lv62'
        have Lv64' : HIn v68 Vv64 [u] := Lv64.later bb
        clear Lv64
        have Lv64 := Lv64'
        clear Lv64'
        have Lv67' : HIn v68 Vv67 [y, z] := Lv67.later bb
        clear Lv67
        have Lv67 := Lv67'
        clear Lv67'
        clear hS bb
        have hS := hS'
        clear hS'
        simp only [Act.put, List.setIfInBounds_toArray, List.set_cons_succ, List.set_cons_zero]
        refine oneH (i := 28) (by kernel_rfl) ?_
        refine opCallW (some 44) rfl rfl rfl 10 _ (run_call en10 [.tmp 37, .const (.int .i64 0), .const (.int .i64 3), .tmp 40, .tmp 43] _ rfl [hv x, .int .i64 0, .int .i64 3, Vv67, hv (Tree.node u z)] rfl) ?_
        refine (vincl_any x (Tree.node u z) 0 3 Vv67 [y, z] _ RS.out.x.1 (node_isH _ _) Lv67 (ht.later (RS.out.next hS).b) (hst.later (RS.out.next hS).b) (by decide)).mono ?_
        rintro e v69 ⟨rfl, bb⟩
        rw [HS.out.2.2.2.1]
        have hS' : Below w6.heap.size w6 v69 := below_append hS bb
        refine ⟨_, rfl, hS', ?_⟩
        have Lv62' : HIn v69 Vv62 [y] := Lv62.later bb
        clear Lv62
        have Lv62 := Lv62'
        clear Lv62'
        have Lv64' : HIn v69 Vv64 [u] := Lv64.later bb
        clear Lv64
        have Lv64 := Lv64'
        clear Lv64'
        have Lv67' : HIn v69 Vv67 [y, z] := Lv67.later bb
        clear Lv67
        have Lv67 := Lv67'
        clear Lv67'
        clear hS bb
        have hS := hS'
        clear hS'
        simp only [Act.put, List.setIfInBounds_toArray, List.set_cons_succ, List.set_cons_zero]
        refine takeH (i := 29) (some 45) rfl rfl (by kernel_rfl) (by kernel_rfl) (by kernel_rfl) (fun _ _ _ h => h) (yPickW rfl (.tmp 36) (.tmp 44) _ rfl rfl (.bool true) rfl) hS ?_
        simp only [Act.put, List.setIfInBounds_toArray, List.set_cons_succ, List.set_cons_zero]
        refine takeH (i := 30) (some 6) rfl rfl (by kernel_rfl) (by kernel_rfl) (by kernel_rfl) (fun _ _ _ h => h) (yAssign rfl (.tmp 45) rfl (.bool true) rfl) hS ?_
        simp only [Act.put, List.setIfInBounds_toArray, List.set_cons_succ, List.set_cons_zero]
        refine wpAnyH_done (by kernel_rfl) ?_ _
        have RZ : Hid (Sh w _ g1 g2 g3 g4 g5 x y z q u) := RS.out.next hS
        clear hS
        clear Lv62
        clear Lv64
        clear Lv67
        go_wp2_with fail
        go_meet
        case rel => exact ⟨rfl, RZ.out⟩
      · refine opCallW (some 43) rfl rfl rfl 22 _ (run_call en22' [.tmp 41, .tmp 42] _ rfl [hv u, hv z] rfl) ?_
        refine (node_any u z RS.out.u.1 RS.out.z.1 _ (ht.later (RS.out.next hS).b) (hst.later (RS.out.next hS).b)).mono ?_
        rintro e v610 ⟨rfl, bb⟩
        have hS' : Below w6.heap.size w6 v610 := below_append hS bb
        refine ⟨_, rfl, hS', ?_⟩
        have Lv62' : HIn v610 Vv62 [y] := Lv62.later bb
        clear Lv62
        have Lv62 := Lv62'
        clear Lv62'
        have Lv64' : HIn v610 Vv64 [u] := Lv64.later bb
        clear Lv64
        have Lv64 := Lv64'
        clear Lv64'
        clear hS bb
        have hS := hS'
        clear hS'
        simp only [Act.put, List.setIfInBounds_toArray, List.set_cons_succ, List.set_cons_zero]
        refine oneH (i := 24) (by kernel_rfl) ?_
        refine opLit2 (some 40) rfl rfl rfl (.tmp 38) (.tmp 39) rfl y z RS.out.y.1 RS.out.z.1 rfl rfl ?_
        intro Vv611 v611 Lv611 bb
        have hS' : Below w6.heap.size w6 v611 := below_append hS bb
        refine ⟨hS', ?_⟩
        have Lv62' : HIn v611 Vv62 [y] := Lv62.later bb
        clear Lv62
        have Lv62 := Lv62'
        clear Lv62'
        have Lv64' : HIn v611 Vv64 [u] := Lv64.later bb
        clear Lv64
        have Lv64 := Lv64'
        clear Lv64'
        clear hS bb
        have hS := hS'
        clear hS'
        simp only [Act.put, List.setIfInBounds_toArray, List.set_cons_succ, List.set_cons_zero]
        refine oneH (i := 28) (by kernel_rfl) ?_
        refine opCallW (some 44) rfl rfl rfl 10 _ (run_call en10 [.tmp 37, .const (.int .i64 0), .const (.int .i64 3), .tmp 40, .tmp 43] _ rfl [hv x, .int .i64 0, .int .i64 3, Vv611, hv (Tree.node u z)] rfl) ?_
        refine (vincl_any x (Tree.node u z) 0 3 Vv611 [y, z] _ RS.out.x.1 (node_isH _ _) Lv611 (ht.later (RS.out.next hS).b) (hst.later (RS.out.next hS).b) (by decide)).mono ?_
        rintro e v612 ⟨rfl, bb⟩
        rw [HS.out.2.2.2.1]
        have hS' : Below w6.heap.size w6 v612 := below_append hS bb
        refine ⟨_, rfl, hS', ?_⟩
        have Lv62' : HIn v612 Vv62 [y] := Lv62.later bb
        clear Lv62
        have Lv62 := Lv62'
        clear Lv62'
        have Lv64' : HIn v612 Vv64 [u] := Lv64.later bb
        clear Lv64
        have Lv64 := Lv64'
        clear Lv64'
        have Lv611' : HIn v612 Vv611 [y, z] := Lv611.later bb
        clear Lv611
        have Lv611 := Lv611'
        clear Lv611'
        clear hS bb
        have hS := hS'
        clear hS'
        simp only [Act.put, List.setIfInBounds_toArray, List.set_cons_succ, List.set_cons_zero]
        refine takeH (i := 29) (some 45) rfl rfl (by kernel_rfl) (by kernel_rfl) (by kernel_rfl) (fun _ _ _ h => h) (yPickW rfl (.tmp 36) (.tmp 44) _ rfl rfl (.bool true) rfl) hS ?_
        simp only [Act.put, List.setIfInBounds_toArray, List.set_cons_succ, List.set_cons_zero]
        refine takeH (i := 30) (some 6) rfl rfl (by kernel_rfl) (by kernel_rfl) (by kernel_rfl) (fun _ _ _ h => h) (yAssign rfl (.tmp 45) rfl (.bool true) rfl) hS ?_
        simp only [Act.put, List.setIfInBounds_toArray, List.set_cons_succ, List.set_cons_zero]
        refine wpAnyH_done (by kernel_rfl) ?_ _
        have RZ : Hid (Sh w _ g1 g2 g3 g4 g5 x y z q u) := RS.out.next hS
        clear hS
        clear Lv62
        clear Lv64
        clear Lv611
        go_wp2_with fail
        go_meet
        case rel => exact ⟨rfl, RZ.out⟩
    · refine opCallW (some 33) rfl rfl rfl 22 _ (run_call en22' [.tmp 31, .tmp 32] _ rfl [hv u, hv z] rfl) ?_
      refine (node_any u z RS.out.u.1 RS.out.z.1 _ (ht.later (RS.out.next hS).b) (hst.later (RS.out.next hS).b)).mono ?_
      rintro e v613 ⟨rfl, bb⟩
      have hS' : Below w6.heap.size w6 v613 := below_append hS bb
      refine ⟨_, rfl, hS', ?_⟩
      have Lv62' : HIn v613 Vv62 [y] := Lv62.later bb
      clear Lv62
      have Lv62 := Lv62'
      clear Lv62'
      clear hS bb
      have hS := hS'
      clear hS'
      simp only [Act.put, List.setIfInBounds_toArray, List.set_cons_succ, List.set_cons_zero]
      refine oneH (i := 14) (by kernel_rfl) ?_
      refine opLit1 (some 30) rfl rfl rfl (.tmp 29) rfl u RS.out.u.1 rfl ?_
      intro Vv614 v614 Lv614 bb
      have hS' : Below w6.heap.size w6 v614 := below_append hS bb
      refine ⟨hS', ?_⟩
      have Lv62' : HIn v614 Vv62 [y] := Lv62.later bb
      clear Lv62
      have Lv62 := Lv62'
      clear Lv62'
      clear hS bb
      have hS := hS'
      clear hS'
      simp only [Act.put, List.setIfInBounds_toArray, List.set_cons_succ, List.set_cons_zero]
      refine oneH (i := 18) (by kernel_rfl) ?_
      refine opCallW (some 34) rfl rfl rfl 10 _ (run_call en10 [.tmp 28, .const (.int .i64 2), .const (.int .i64 3), .tmp 30, .tmp 33] _ rfl [hv z, .int .i64 2, .int .i64 3, Vv614, hv (Tree.node u z)] rfl) ?_
      refine (vincl_any z (Tree.node u z) 2 3 Vv614 [u] _ RS.out.z.1 (node_isH _ _) Lv614 (ht.later (RS.out.next hS).b) (hst.later (RS.out.next hS).b) (by decide)).mono ?_
      rintro e v615 ⟨rfl, bb⟩
      rw [HS.out.2.2.1]
      have hS' : Below w6.heap.size w6 v615 := below_append hS bb
      refine ⟨_, rfl, hS', ?_⟩
      have Lv62' : HIn v615 Vv62 [y] := Lv62.later bb
      clear Lv62
      have Lv62 := Lv62'
      clear Lv62'
      have Lv614' : HIn v615 Vv614 [u] := Lv614.later bb
      clear Lv614
      have Lv614 := Lv614'
      clear Lv614'
      clear hS bb
      have hS := hS'
      clear hS'
      simp only [Act.put, List.setIfInBounds_toArray, List.set_cons_succ, List.set_cons_zero]
      refine takeH (i := 19) (some 35) rfl rfl (by kernel_rfl) (by kernel_rfl) (by kernel_rfl) (fun _ _ _ h => h) (yPickW rfl (.tmp 27) (.tmp 34) _ rfl rfl (.bool true) rfl) hS ?_
      simp only [Act.put, List.setIfInBounds_toArray, List.set_cons_succ, List.set_cons_zero]
      refine takeH (i := 20) (some 36) rfl rfl (by kernel_rfl) (by kernel_rfl) (by kernel_rfl) (fun _ _ _ h => h) (yMoveW rfl (.tmp 35) rfl (.bool true) rfl) hS ?_
      simp only [Act.put, List.setIfInBounds_toArray, List.set_cons_succ, List.set_cons_zero]
      refine takeH (i := 21) (some 37) rfl rfl (by kernel_rfl) (by kernel_rfl) (by kernel_rfl) (fun _ _ _ h => h) (yRunW rfl (hv x) (fun W hW => rx_load (.tmp 1) rfl (.pointer (some ⟨g1, 0, none⟩)) rfl x ((RS.out.next hW).x.at))) hS ?_
      simp only [Act.put, List.setIfInBounds_toArray, List.set_cons_succ, List.set_cons_zero]
      refine takeH (i := 22) (some 38) rfl rfl (by kernel_rfl) (by kernel_rfl) (by kernel_rfl) (fun _ _ _ h => h) (yRunW rfl (hv y) (fun W hW => rx_load (.tmp 2) rfl (.pointer (some ⟨g2, 0, none⟩)) rfl y ((RS.out.next hW).y.at))) hS ?_
      simp only [Act.put, List.setIfInBounds_toArray, List.set_cons_succ, List.set_cons_zero]
      refine takeH (i := 23) (some 39) rfl rfl (by kernel_rfl) (by kernel_rfl) (by kernel_rfl) (fun _ _ _ h => h) (yRunW rfl (hv z) (fun W hW => rx_load (.tmp 3) rfl (.pointer (some ⟨g3, 0, none⟩)) rfl z ((RS.out.next hW).z.at))) hS ?_
      simp only [Act.put, List.setIfInBounds_toArray, List.set_cons_succ, List.set_cons_zero]
      refine takeH (i := 25) (some 41) rfl rfl (by kernel_rfl) (by kernel_rfl) (by kernel_rfl) (fun _ _ _ h => h) (yRunW rfl (hv u) (fun W hW => rx_load (.tmp 5) rfl (.pointer (some ⟨g5, 0, none⟩)) rfl u ((RS.out.next hW).u.at))) hS ?_
      simp only [Act.put, List.setIfInBounds_toArray, List.set_cons_succ, List.set_cons_zero]
      refine takeH (i := 26) (some 42) rfl rfl (by kernel_rfl) (by kernel_rfl) (by kernel_rfl) (fun _ _ _ h => h) (yRunW rfl (hv z) (fun W hW => rx_load (.tmp 3) rfl (.pointer (some ⟨g3, 0, none⟩)) rfl z ((RS.out.next hW).z.at))) hS ?_
      simp only [Act.put, List.setIfInBounds_toArray, List.set_cons_succ, List.set_cons_zero]
      refine twoH (i := 24) (j := 27) (by kernel_rfl) ?_ ?_
      · refine opLit2 (some 40) rfl rfl rfl (.tmp 38) (.tmp 39) rfl y z RS.out.y.1 RS.out.z.1 rfl rfl ?_
        intro Vv616 v616 Lv616 bb
        have hS' : Below w6.heap.size w6 v616 := below_append hS bb
        refine ⟨hS', ?_⟩
        have Lv62' : HIn v616 Vv62 [y] := Lv62.later bb
        clear Lv62
        have Lv62 := Lv62'
        clear Lv62'
        have Lv614' : HIn v616 Vv614 [u] := Lv614.later bb
        clear Lv614
        have Lv614 := Lv614'
        clear Lv614'
        clear hS bb
        have hS := hS'
        clear hS'
        simp only [Act.put, List.setIfInBounds_toArray, List.set_cons_succ, List.set_cons_zero]
        refine oneH (i := 27) (by kernel_rfl) ?_
        refine opCallW (some 43) rfl rfl rfl 22 _ (run_call en22' [.tmp 41, .tmp 42] _ rfl [hv u, hv z] rfl) ?_
        refine (node_any u z RS.out.u.1 RS.out.z.1 _ (ht.later (RS.out.next hS).b) (hst.later (RS.out.next hS).b)).mono ?_
        rintro e v617 ⟨rfl, bb⟩
        have hS' : Below w6.heap.size w6 v617 := below_append hS bb
        refine ⟨_, rfl, hS', ?_⟩
        have Lv62' : HIn v617 Vv62 [y] := Lv62.later bb
        clear Lv62
        have Lv62 := Lv62'
        clear Lv62'
        have Lv614' : HIn v617 Vv614 [u] := Lv614.later bb
        clear Lv614
        have Lv614 := Lv614'
        clear Lv614'
        have Lv616' : HIn v617 Vv616 [y, z] := Lv616.later bb
        clear Lv616
        have Lv616 := Lv616'
        clear Lv616'
        clear hS bb
        have hS := hS'
        clear hS'
        simp only [Act.put, List.setIfInBounds_toArray, List.set_cons_succ, List.set_cons_zero]
        refine oneH (i := 28) (by kernel_rfl) ?_
        refine opCallW (some 44) rfl rfl rfl 10 _ (run_call en10 [.tmp 37, .const (.int .i64 0), .const (.int .i64 3), .tmp 40, .tmp 43] _ rfl [hv x, .int .i64 0, .int .i64 3, Vv616, hv (Tree.node u z)] rfl) ?_
        refine (vincl_any x (Tree.node u z) 0 3 Vv616 [y, z] _ RS.out.x.1 (node_isH _ _) Lv616 (ht.later (RS.out.next hS).b) (hst.later (RS.out.next hS).b) (by decide)).mono ?_
        rintro e v618 ⟨rfl, bb⟩
        rw [HS.out.2.2.2.1]
        have hS' : Below w6.heap.size w6 v618 := below_append hS bb
        refine ⟨_, rfl, hS', ?_⟩
        have Lv62' : HIn v618 Vv62 [y] := Lv62.later bb
        clear Lv62
        have Lv62 := Lv62'
        clear Lv62'
        have Lv614' : HIn v618 Vv614 [u] := Lv614.later bb
        clear Lv614
        have Lv614 := Lv614'
        clear Lv614'
        have Lv616' : HIn v618 Vv616 [y, z] := Lv616.later bb
        clear Lv616
        have Lv616 := Lv616'
        clear Lv616'
        clear hS bb
        have hS := hS'
        clear hS'
        simp only [Act.put, List.setIfInBounds_toArray, List.set_cons_succ, List.set_cons_zero]
        refine takeH (i := 29) (some 45) rfl rfl (by kernel_rfl) (by kernel_rfl) (by kernel_rfl) (fun _ _ _ h => h) (yPickW rfl (.tmp 36) (.tmp 44) _ rfl rfl (.bool true) rfl) hS ?_
        simp only [Act.put, List.setIfInBounds_toArray, List.set_cons_succ, List.set_cons_zero]
        refine takeH (i := 30) (some 6) rfl rfl (by kernel_rfl) (by kernel_rfl) (by kernel_rfl) (fun _ _ _ h => h) (yAssign rfl (.tmp 45) rfl (.bool true) rfl) hS ?_
        simp only [Act.put, List.setIfInBounds_toArray, List.set_cons_succ, List.set_cons_zero]
        refine wpAnyH_done (by kernel_rfl) ?_ _
        have RZ : Hid (Sh w _ g1 g2 g3 g4 g5 x y z q u) := RS.out.next hS
        clear hS
        clear Lv62
        clear Lv614
        clear Lv616
        go_wp2_with fail
        go_meet
        case rel => exact ⟨rfl, RZ.out⟩
      · refine opCallW (some 43) rfl rfl rfl 22 _ (run_call en22' [.tmp 41, .tmp 42] _ rfl [hv u, hv z] rfl) ?_
        refine (node_any u z RS.out.u.1 RS.out.z.1 _ (ht.later (RS.out.next hS).b) (hst.later (RS.out.next hS).b)).mono ?_
        rintro e v619 ⟨rfl, bb⟩
        have hS' : Below w6.heap.size w6 v619 := below_append hS bb
        refine ⟨_, rfl, hS', ?_⟩
        have Lv62' : HIn v619 Vv62 [y] := Lv62.later bb
        clear Lv62
        have Lv62 := Lv62'
        clear Lv62'
        have Lv614' : HIn v619 Vv614 [u] := Lv614.later bb
        clear Lv614
        have Lv614 := Lv614'
        clear Lv614'
        clear hS bb
        have hS := hS'
        clear hS'
        simp only [Act.put, List.setIfInBounds_toArray, List.set_cons_succ, List.set_cons_zero]
        refine oneH (i := 24) (by kernel_rfl) ?_
        refine opLit2 (some 40) rfl rfl rfl (.tmp 38) (.tmp 39) rfl y z RS.out.y.1 RS.out.z.1 rfl rfl ?_
        intro Vv620 v620 Lv620 bb
        have hS' : Below w6.heap.size w6 v620 := below_append hS bb
        refine ⟨hS', ?_⟩
        have Lv62' : HIn v620 Vv62 [y] := Lv62.later bb
        clear Lv62
        have Lv62 := Lv62'
        clear Lv62'
        have Lv614' : HIn v620 Vv614 [u] := Lv614.later bb
        clear Lv614
        have Lv614 := Lv614'
        clear Lv614'
        clear hS bb
        have hS := hS'
        clear hS'
        simp only [Act.put, List.setIfInBounds_toArray, List.set_cons_succ, List.set_cons_zero]
        refine oneH (i := 28) (by kernel_rfl) ?_
        refine opCallW (some 44) rfl rfl rfl 10 _ (run_call en10 [.tmp 37, .const (.int .i64 0), .const (.int .i64 3), .tmp 40, .tmp 43] _ rfl [hv x, .int .i64 0, .int .i64 3, Vv620, hv (Tree.node u z)] rfl) ?_
        refine (vincl_any x (Tree.node u z) 0 3 Vv620 [y, z] _ RS.out.x.1 (node_isH _ _) Lv620 (ht.later (RS.out.next hS).b) (hst.later (RS.out.next hS).b) (by decide)).mono ?_
        rintro e v621 ⟨rfl, bb⟩
        rw [HS.out.2.2.2.1]
        have hS' : Below w6.heap.size w6 v621 := below_append hS bb
        refine ⟨_, rfl, hS', ?_⟩
        have Lv62' : HIn v621 Vv62 [y] := Lv62.later bb
        clear Lv62
        have Lv62 := Lv62'
        clear Lv62'
        have Lv614' : HIn v621 Vv614 [u] := Lv614.later bb
        clear Lv614
        have Lv614 := Lv614'
        clear Lv614'
        have Lv620' : HIn v621 Vv620 [y, z] := Lv620.later bb
        clear Lv620
        have Lv620 := Lv620'
        clear Lv620'
        clear hS bb
        have hS := hS'
        clear hS'
        simp only [Act.put, List.setIfInBounds_toArray, List.set_cons_succ, List.set_cons_zero]
        refine takeH (i := 29) (some 45) rfl rfl (by kernel_rfl) (by kernel_rfl) (by kernel_rfl) (fun _ _ _ h => h) (yPickW rfl (.tmp 36) (.tmp 44) _ rfl rfl (.bool true) rfl) hS ?_
        simp only [Act.put, List.setIfInBounds_toArray, List.set_cons_succ, List.set_cons_zero]
        refine takeH (i := 30) (some 6) rfl rfl (by kernel_rfl) (by kernel_rfl) (by kernel_rfl) (fun _ _ _ h => h) (yAssign rfl (.tmp 45) rfl (.bool true) rfl) hS ?_
        simp only [Act.put, List.setIfInBounds_toArray, List.set_cons_succ, List.set_cons_zero]
        refine wpAnyH_done (by kernel_rfl) ?_ _
        have RZ : Hid (Sh w _ g1 g2 g3 g4 g5 x y z q u) := RS.out.next hS
        clear hS
        clear Lv62
        clear Lv614
        clear Lv620
        go_wp2_with fail
        go_meet
        case rel => exact ⟨rfl, RZ.out⟩
  case rest =>
    obtain ⟨rfl, hsh⟩ := hcut
    rename World => wc6
    have RS6 : Hid (Sh w wc6 g1 g2 g3 g4 g5 x y z q u) := hsh
    clear hsh
    go_upto_region 7 with fail
    go_cut [7] from 46 to 64 (fun s W => s = .bool true ∧ Sh w W g1 g2 g3 g4 g5 x y z q u)
    case first =>
      refine wp_region_held (S := fun W => Below wc6.heap.size wc6 W) (by kernel_rfl) ?_
      show wpAnyH _ _ _ _ _ 20 (Array.replicate 20 false) _ _
      have hS : Below wc6.heap.size wc6 { wc6 with drawn := wc6.drawn + 1 } := below_drawn wc6 _
      refine takeH (i := 0) (some 46) rfl rfl (by kernel_rfl) (by kernel_rfl) (by kernel_rfl) (fun _ _ _ h => h) (yRunW rfl (hv x) (fun W hW => rx_load (.tmp 1) rfl (.pointer (some ⟨g1, 0, none⟩)) rfl x ((RS6.out.next hW).x.at))) hS ?_
      simp only [Act.put, List.setIfInBounds_toArray, List.set_cons_succ, List.set_cons_zero]
      refine takeH (i := 1) (some 47) rfl rfl (by kernel_rfl) (by kernel_rfl) (by kernel_rfl) (fun _ _ _ h => h) (yRunW rfl (hv x) (fun W hW => rx_load (.tmp 1) rfl (.pointer (some ⟨g1, 0, none⟩)) rfl x ((RS6.out.next hW).x.at))) hS ?_
      simp only [Act.put, List.setIfInBounds_toArray, List.set_cons_succ, List.set_cons_zero]
      refine oneH (i := 2) (by kernel_rfl) ?_
      refine opCallW (some 48) rfl rfl rfl 10 _ (run_call en10 [.tmp 46, .const (.int .i64 (-1)), .const (.int .i64 1), .const (.slice none 0 0), .tmp 47] _ rfl [hv x, .int .i64 (-1), .int .i64 1, (.slice none 0 0), hv x] rfl) ?_
      refine (vincl_any x x (-1) 1 (.slice none 0 0) [] _ RS6.out.x.1 RS6.out.x.1 (HIn.nil _) (ht.later (RS6.out.next hS).b) (hst.later (RS6.out.next hS).b) (by decide)).mono ?_
      rintro e v71 ⟨rfl, bb⟩
      rw [HS.out.2.2.2.2.1]
      have hS' : Below wc6.heap.size wc6 v71 := below_append hS bb
      refine ⟨_, rfl, hS', ?_⟩
      clear hS bb
      have hS := hS'
      clear hS'
      simp only [Act.put, List.setIfInBounds_toArray, List.set_cons_succ, List.set_cons_zero]
      refine takeH (i := 3) (some 49) rfl rfl (by kernel_rfl) (by kernel_rfl) (by kernel_rfl) (fun _ _ _ h => h) (yNotW rfl (.tmp 48) rfl false rfl) hS ?_
      simp only [Act.put, List.setIfInBounds_toArray, List.set_cons_succ, List.set_cons_zero]
      refine takeH (i := 4) (some 50) rfl rfl (by kernel_rfl) (by kernel_rfl) (by kernel_rfl) (fun _ _ _ h => h) (yMoveW rfl (.tmp 49) rfl (.bool true) rfl) hS ?_
      simp only [Act.put, List.setIfInBounds_toArray, List.set_cons_succ, List.set_cons_zero]
      refine takeH (i := 5) (some 51) rfl rfl (by kernel_rfl) (by kernel_rfl) (by kernel_rfl) (fun _ _ _ h => h) (yRunW rfl (hv x) (fun W hW => rx_load (.tmp 1) rfl (.pointer (some ⟨g1, 0, none⟩)) rfl x ((RS6.out.next hW).x.at))) hS ?_
      simp only [Act.put, List.setIfInBounds_toArray, List.set_cons_succ, List.set_cons_zero]
      refine takeH (i := 6) (some 52) rfl rfl (by kernel_rfl) (by kernel_rfl) (by kernel_rfl) (fun _ _ _ h => h) (yRunW rfl (hv x) (fun W hW => rx_load (.tmp 1) rfl (.pointer (some ⟨g1, 0, none⟩)) rfl x ((RS6.out.next hW).x.at))) hS ?_
      simp only [Act.put, List.setIfInBounds_toArray, List.set_cons_succ, List.set_cons_zero]
      refine oneH (i := 7) (by kernel_rfl) ?_
      refine opCallW (some 53) rfl rfl rfl 10 _ (run_call en10 [.tmp 51, .const (.int .i64 1), .const (.int .i64 1), .const (.slice none 0 0), .tmp 52] _ rfl [hv x, .int .i64 1, .int .i64 1, (.slice none 0 0), hv x] rfl) ?_
      refine (vincl_any x x 1 1 (.slice none 0 0) [] _ RS6.out.x.1 RS6.out.x.1 (HIn.nil _) (ht.later (RS6.out.next hS).b) (hst.later (RS6.out.next hS).b) (by decide)).mono ?_
      rintro e v72 ⟨rfl, bb⟩
      rw [HS.out.2.2.2.2.2]
      have hS' : Below wc6.heap.size wc6 v72 := below_append hS bb
      refine ⟨_, rfl, hS', ?_⟩
      clear hS bb
      have hS := hS'
      clear hS'
      simp only [Act.put, List.setIfInBounds_toArray, List.set_cons_succ, List.set_cons_zero]
      refine takeH (i := 8) (some 54) rfl rfl (by kernel_rfl) (by kernel_rfl) (by kernel_rfl) (fun _ _ _ h => h) (yNotW rfl (.tmp 53) rfl false rfl) hS ?_
      simp only [Act.put, List.setIfInBounds_toArray, List.set_cons_succ, List.set_cons_zero]
      refine takeH (i := 9) (some 55) rfl rfl (by kernel_rfl) (by kernel_rfl) (by kernel_rfl) (fun _ _ _ h => h) (yPickW rfl (.tmp 50) (.tmp 54) _ rfl rfl (.bool true) rfl) hS ?_
      simp only [Act.put, List.setIfInBounds_toArray, List.set_cons_succ, List.set_cons_zero]
      refine takeH (i := 10) (some 56) rfl rfl (by kernel_rfl) (by kernel_rfl) (by kernel_rfl) (fun _ _ _ h => h) (yMoveW rfl (.tmp 55) rfl (.bool true) rfl) hS ?_
      simp only [Act.put, List.setIfInBounds_toArray, List.set_cons_succ, List.set_cons_zero]
      refine takeH (i := 11) (some 57) rfl rfl (by kernel_rfl) (by kernel_rfl) (by kernel_rfl) (fun _ _ _ h => h) (yRunW rfl (hv u) (fun W hW => rx_load (.tmp 5) rfl (.pointer (some ⟨g5, 0, none⟩)) rfl u ((RS6.out.next hW).u.at))) hS ?_
      simp only [Act.put, List.setIfInBounds_toArray, List.set_cons_succ, List.set_cons_zero]
      refine takeH (i := 12) (some 58) rfl rfl (by kernel_rfl) (by kernel_rfl) (by kernel_rfl) (fun _ _ _ h => h) (yRunW rfl (hv u) (fun W hW => rx_load (.tmp 5) rfl (.pointer (some ⟨g5, 0, none⟩)) rfl u ((RS6.out.next hW).u.at))) hS ?_
      simp only [Act.put, List.setIfInBounds_toArray, List.set_cons_succ, List.set_cons_zero]
      refine takeH (i := 13) (some 59) rfl rfl (by kernel_rfl) (by kernel_rfl) (by kernel_rfl) (fun _ _ _ h => h) (yRunW rfl (hv z) (fun W hW => rx_load (.tmp 3) rfl (.pointer (some ⟨g3, 0, none⟩)) rfl z ((RS6.out.next hW).z.at))) hS ?_
      simp only [Act.put, List.setIfInBounds_toArray, List.set_cons_succ, List.set_cons_zero]
      refine takeH (i := 15) (some 61) rfl rfl (by kernel_rfl) (by kernel_rfl) (by kernel_rfl) (fun _ _ _ h => h) (yRunW rfl (hv z) (fun W hW => rx_load (.tmp 3) rfl (.pointer (some ⟨g3, 0, none⟩)) rfl z ((RS6.out.next hW).z.at))) hS ?_
      simp only [Act.put, List.setIfInBounds_toArray, List.set_cons_succ, List.set_cons_zero]
      refine twoH (i := 14) (j := 16) (by kernel_rfl) ?_ ?_
      · refine opCallW (some 60) rfl rfl rfl 22 _ (run_call en22' [.tmp 58, .tmp 59] _ rfl [hv u, hv z] rfl) ?_
        refine (node_any u z RS6.out.u.1 RS6.out.z.1 _ (ht.later (RS6.out.next hS).b) (hst.later (RS6.out.next hS).b)).mono ?_
        rintro e v73 ⟨rfl, bb⟩
        have hS' : Below wc6.heap.size wc6 v73 := below_append hS bb
        refine ⟨_, rfl, hS', ?_⟩
        clear hS bb
        have hS := hS'
        clear hS'
        simp only [Act.put, List.setIfInBounds_toArray, List.set_cons_succ, List.set_cons_zero]
        refine oneH (i := 16) (by kernel_rfl) ?_
        refine opLit1 (some 62) rfl rfl rfl (.tmp 61) rfl z RS6.out.z.1 rfl ?_
        intro Vv74 v74 Lv74 bb
        have hS' : Below wc6.heap.size wc6 v74 := below_append hS bb
        refine ⟨hS', ?_⟩
        clear hS bb
        have hS := hS'
        clear hS'
        simp only [Act.put, List.setIfInBounds_toArray, List.set_cons_succ, List.set_cons_zero]
        refine oneH (i := 17) (by kernel_rfl) ?_
        refine opCallW (some 63) rfl rfl rfl 13 _ (run_call en13' [.const (.int .i64 2), .const (.int .i64 3), .tmp 57, .tmp 60, .tmp 62] _ rfl [.int .i64 2, .int .i64 3, hv u, hv (Tree.node u z), Vv74] rfl) ?_
        refine (vcons_any u (Tree.node u z) 2 3 Vv74 [z] _ RS6.out.u.1 (node_isH _ _) Lv74 (ht.later (RS6.out.next hS).b) (hst.later (RS6.out.next hS).b) (by decide)).mono ?_
        rintro e v75 ⟨rfl, bb⟩
        rw [HC.out.1]
        have hS' : Below wc6.heap.size wc6 v75 := below_append hS bb
        refine ⟨_, rfl, hS', ?_⟩
        have Lv74' : HIn v75 Vv74 [z] := Lv74.later bb
        clear Lv74
        have Lv74 := Lv74'
        clear Lv74'
        clear hS bb
        have hS := hS'
        clear hS'
        simp only [Act.put, List.setIfInBounds_toArray, List.set_cons_succ, List.set_cons_zero]
        refine takeH (i := 18) (some 64) rfl rfl (by kernel_rfl) (by kernel_rfl) (by kernel_rfl) (fun _ _ _ h => h) (yPickW rfl (.tmp 56) (.tmp 63) _ rfl rfl (.bool true) rfl) hS ?_
        simp only [Act.put, List.setIfInBounds_toArray, List.set_cons_succ, List.set_cons_zero]
        refine takeH (i := 19) (some 7) rfl rfl (by kernel_rfl) (by kernel_rfl) (by kernel_rfl) (fun _ _ _ h => h) (yAssign rfl (.tmp 64) rfl (.bool true) rfl) hS ?_
        simp only [Act.put, List.setIfInBounds_toArray, List.set_cons_succ, List.set_cons_zero]
        refine wpAnyH_done (by kernel_rfl) ?_ _
        have RZ : Hid (Sh w _ g1 g2 g3 g4 g5 x y z q u) := RS6.out.next hS
        clear hS
        clear Lv74
        go_wp2_with fail
        go_meet
        case rel => exact ⟨rfl, RZ.out⟩
      · refine opLit1 (some 62) rfl rfl rfl (.tmp 61) rfl z RS6.out.z.1 rfl ?_
        intro Vv76 v76 Lv76 bb
        have hS' : Below wc6.heap.size wc6 v76 := below_append hS bb
        refine ⟨hS', ?_⟩
        clear hS bb
        have hS := hS'
        clear hS'
        simp only [Act.put, List.setIfInBounds_toArray, List.set_cons_succ, List.set_cons_zero]
        refine oneH (i := 14) (by kernel_rfl) ?_
        refine opCallW (some 60) rfl rfl rfl 22 _ (run_call en22' [.tmp 58, .tmp 59] _ rfl [hv u, hv z] rfl) ?_
        refine (node_any u z RS6.out.u.1 RS6.out.z.1 _ (ht.later (RS6.out.next hS).b) (hst.later (RS6.out.next hS).b)).mono ?_
        rintro e v77 ⟨rfl, bb⟩
        have hS' : Below wc6.heap.size wc6 v77 := below_append hS bb
        refine ⟨_, rfl, hS', ?_⟩
        have Lv76' : HIn v77 Vv76 [z] := Lv76.later bb
        clear Lv76
        have Lv76 := Lv76'
        clear Lv76'
        clear hS bb
        have hS := hS'
        clear hS'
        simp only [Act.put, List.setIfInBounds_toArray, List.set_cons_succ, List.set_cons_zero]
        refine oneH (i := 17) (by kernel_rfl) ?_
        refine opCallW (some 63) rfl rfl rfl 13 _ (run_call en13' [.const (.int .i64 2), .const (.int .i64 3), .tmp 57, .tmp 60, .tmp 62] _ rfl [.int .i64 2, .int .i64 3, hv u, hv (Tree.node u z), Vv76] rfl) ?_
        refine (vcons_any u (Tree.node u z) 2 3 Vv76 [z] _ RS6.out.u.1 (node_isH _ _) Lv76 (ht.later (RS6.out.next hS).b) (hst.later (RS6.out.next hS).b) (by decide)).mono ?_
        rintro e v78 ⟨rfl, bb⟩
        rw [HC.out.1]
        have hS' : Below wc6.heap.size wc6 v78 := below_append hS bb
        refine ⟨_, rfl, hS', ?_⟩
        have Lv76' : HIn v78 Vv76 [z] := Lv76.later bb
        clear Lv76
        have Lv76 := Lv76'
        clear Lv76'
        clear hS bb
        have hS := hS'
        clear hS'
        simp only [Act.put, List.setIfInBounds_toArray, List.set_cons_succ, List.set_cons_zero]
        refine takeH (i := 18) (some 64) rfl rfl (by kernel_rfl) (by kernel_rfl) (by kernel_rfl) (fun _ _ _ h => h) (yPickW rfl (.tmp 56) (.tmp 63) _ rfl rfl (.bool true) rfl) hS ?_
        simp only [Act.put, List.setIfInBounds_toArray, List.set_cons_succ, List.set_cons_zero]
        refine takeH (i := 19) (some 7) rfl rfl (by kernel_rfl) (by kernel_rfl) (by kernel_rfl) (fun _ _ _ h => h) (yAssign rfl (.tmp 64) rfl (.bool true) rfl) hS ?_
        simp only [Act.put, List.setIfInBounds_toArray, List.set_cons_succ, List.set_cons_zero]
        refine wpAnyH_done (by kernel_rfl) ?_ _
        have RZ : Hid (Sh w _ g1 g2 g3 g4 g5 x y z q u) := RS6.out.next hS
        clear hS
        clear Lv76
        go_wp2_with fail
        go_meet
        case rel => exact ⟨rfl, RZ.out⟩
    case rest =>
      obtain ⟨rfl, hsh⟩ := hcut
      rename World => wc7
      have RS7 : Hid (Sh w wc7 g1 g2 g3 g4 g5 x y z q u) := hsh
      clear hsh
      go_upto_region 8 with fail
      go_cut [8] from 65 to 77 (fun s W => s = .bool true ∧ Sh w W g1 g2 g3 g4 g5 x y z q u)
      case first =>
        refine wp_region_held (S := fun W => Below wc7.heap.size wc7 W) (by kernel_rfl) ?_
        show wpAnyH _ _ _ _ _ 14 (Array.replicate 14 false) _ _
        have hS : Below wc7.heap.size wc7 { wc7 with drawn := wc7.drawn + 1 } := below_drawn wc7 _
        refine takeH (i := 0) (some 65) rfl rfl (by kernel_rfl) (by kernel_rfl) (by kernel_rfl) (fun _ _ _ h => h) (yRunW rfl (hv u) (fun W hW => rx_load (.tmp 5) rfl (.pointer (some ⟨g5, 0, none⟩)) rfl u ((RS7.out.next hW).u.at))) hS ?_
        simp only [Act.put, List.setIfInBounds_toArray, List.set_cons_succ, List.set_cons_zero]
        refine takeH (i := 1) (some 66) rfl rfl (by kernel_rfl) (by kernel_rfl) (by kernel_rfl) (fun _ _ _ h => h) (yRunW rfl (hv z) (fun W hW => rx_load (.tmp 3) rfl (.pointer (some ⟨g3, 0, none⟩)) rfl z ((RS7.out.next hW).z.at))) hS ?_
        simp only [Act.put, List.setIfInBounds_toArray, List.set_cons_succ, List.set_cons_zero]
        refine takeH (i := 3) (some 68) rfl rfl (by kernel_rfl) (by kernel_rfl) (by kernel_rfl) (fun _ _ _ h => h) (yRunW rfl (hv u) (fun W hW => rx_load (.tmp 5) rfl (.pointer (some ⟨g5, 0, none⟩)) rfl u ((RS7.out.next hW).u.at))) hS ?_
        simp only [Act.put, List.setIfInBounds_toArray, List.set_cons_succ, List.set_cons_zero]
        refine takeH (i := 4) (some 69) rfl rfl (by kernel_rfl) (by kernel_rfl) (by kernel_rfl) (fun _ _ _ h => h) (yRunW rfl (hv z) (fun W hW => rx_load (.tmp 3) rfl (.pointer (some ⟨g3, 0, none⟩)) rfl z ((RS7.out.next hW).z.at))) hS ?_
        simp only [Act.put, List.setIfInBounds_toArray, List.set_cons_succ, List.set_cons_zero]
        refine takeH (i := 5) (some 70) rfl rfl (by kernel_rfl) (by kernel_rfl) (by kernel_rfl) (fun _ _ _ h => h) (yRunW rfl (hv q) (fun W hW => rx_load (.tmp 4) rfl (.pointer (some ⟨g4, 0, none⟩)) rfl q ((RS7.out.next hW).q.at))) hS ?_
        simp only [Act.put, List.setIfInBounds_toArray, List.set_cons_succ, List.set_cons_zero]
        refine takeH (i := 8) (some 73) rfl rfl (by kernel_rfl) (by kernel_rfl) (by kernel_rfl) (fun _ _ _ h => h) (yRunW rfl (hv z) (fun W hW => rx_load (.tmp 3) rfl (.pointer (some ⟨g3, 0, none⟩)) rfl z ((RS7.out.next hW).z.at))) hS ?_
        simp only [Act.put, List.setIfInBounds_toArray, List.set_cons_succ, List.set_cons_zero]
        refine takeH (i := 9) (some 74) rfl rfl (by kernel_rfl) (by kernel_rfl) (by kernel_rfl) (fun _ _ _ h => h) (yRunW rfl (hv q) (fun W hW => rx_load (.tmp 4) rfl (.pointer (some ⟨g4, 0, none⟩)) rfl q ((RS7.out.next hW).q.at))) hS ?_
        simp only [Act.put, List.setIfInBounds_toArray, List.set_cons_succ, List.set_cons_zero]
        refine takeH (i := 10) (some 75) rfl rfl (by kernel_rfl) (by kernel_rfl) (by kernel_rfl) (fun _ _ _ h => h) (yRunW rfl (hv u) (fun W hW => rx_load (.tmp 5) rfl (.pointer (some ⟨g5, 0, none⟩)) rfl u ((RS7.out.next hW).u.at))) hS ?_
        simp only [Act.put, List.setIfInBounds_toArray, List.set_cons_succ, List.set_cons_zero]
        refine twoH (i := 2) (j := 11) (by kernel_rfl) ?_ ?_
        · refine opCallW (some 67) rfl rfl rfl 22 _ (run_call en22' [.tmp 65, .tmp 66] _ rfl [hv u, hv z] rfl) ?_
          refine (node_any u z RS7.out.u.1 RS7.out.z.1 _ (ht.later (RS7.out.next hS).b) (hst.later (RS7.out.next hS).b)).mono ?_
          rintro e v81 ⟨rfl, bb⟩
          have hS' : Below wc7.heap.size wc7 v81 := below_append hS bb
          refine ⟨_, rfl, hS', ?_⟩
          clear hS bb
          have hS := hS'
          clear hS'
          simp only [Act.put, List.setIfInBounds_toArray, List.set_cons_succ, List.set_cons_zero]
          refine twoH (i := 6) (j := 11) (by kernel_rfl) ?_ ?_
          · refine opCallW (some 71) rfl rfl rfl 22 _ (run_call en22' [.tmp 69, .tmp 70] _ rfl [hv z, hv q] rfl) ?_
            refine (node_any z q RS7.out.z.1 RS7.out.q.1 _ (ht.later (RS7.out.next hS).b) (hst.later (RS7.out.next hS).b)).mono ?_
            rintro e v82 ⟨rfl, bb⟩
            have hS' : Below wc7.heap.size wc7 v82 := below_append hS bb
            refine ⟨_, rfl, hS', ?_⟩
            clear hS bb
            have hS := hS'
            clear hS'
            simp only [Act.put, List.setIfInBounds_toArray, List.set_cons_succ, List.set_cons_zero]
            refine twoH (i := 7) (j := 11) (by kernel_rfl) ?_ ?_
            · refine opCallW (some 72) rfl rfl rfl 22 _ (run_call en22' [.tmp 68, .tmp 71] _ rfl [hv u, hv (Tree.node z q)] rfl) ?_
              refine (node_any u (Tree.node z q) RS7.out.u.1 (node_isH _ _) _ (ht.later (RS7.out.next hS).b) (hst.later (RS7.out.next hS).b)).mono ?_
              rintro e v83 ⟨rfl, bb⟩
              have hS' : Below wc7.heap.size wc7 v83 := below_append hS bb
              refine ⟨_, rfl, hS', ?_⟩
              clear hS bb
              have hS := hS'
              clear hS'
              simp only [Act.put, List.setIfInBounds_toArray, List.set_cons_succ, List.set_cons_zero]
              refine oneH (i := 11) (by kernel_rfl) ?_
              refine opLit3 (some 76) rfl rfl rfl (.tmp 73) (.tmp 74) (.tmp 75) rfl z q u RS7.out.z.1 RS7.out.q.1 RS7.out.u.1 rfl rfl rfl ?_
              intro Vv84 v84 Lv84 bb
              have hS' : Below wc7.heap.size wc7 v84 := below_append hS bb
              refine ⟨hS', ?_⟩
              clear hS bb
              have hS := hS'
              clear hS'
              simp only [Act.put, List.setIfInBounds_toArray, List.set_cons_succ, List.set_cons_zero]
              refine oneH (i := 12) (by kernel_rfl) ?_
              refine opCallW (some 77) rfl rfl rfl 13 _ (run_call en13' [.const (.int .i64 3), .const (.int .i64 4), .tmp 67, .tmp 72, .tmp 76] _ rfl [.int .i64 3, .int .i64 4, hv (Tree.node u z), hv (Tree.node u (Tree.node z q)), Vv84] rfl) ?_
              refine (vcons_any (Tree.node u z) (Tree.node u (Tree.node z q)) 3 4 Vv84 [z, q, u] _ (node_isH _ _) (node_isH _ _) Lv84 (ht.later (RS7.out.next hS).b) (hst.later (RS7.out.next hS).b) (by decide)).mono ?_
              rintro e v85 ⟨rfl, bb⟩
              rw [HC.out.2.1]
              have hS' : Below wc7.heap.size wc7 v85 := below_append hS bb
              refine ⟨_, rfl, hS', ?_⟩
              have Lv84' : HIn v85 Vv84 [z, q, u] := Lv84.later bb
              clear Lv84
              have Lv84 := Lv84'
              clear Lv84'
              clear hS bb
              have hS := hS'
              clear hS'
              simp only [Act.put, List.setIfInBounds_toArray, List.set_cons_succ, List.set_cons_zero]
              refine takeH (i := 13) (some 8) rfl rfl (by kernel_rfl) (by kernel_rfl) (by kernel_rfl) (fun _ _ _ h => h) (yAssign rfl (.tmp 77) rfl (.bool true) rfl) hS ?_
              simp only [Act.put, List.setIfInBounds_toArray, List.set_cons_succ, List.set_cons_zero]
              refine wpAnyH_done (by kernel_rfl) ?_ _
              have RZ : Hid (Sh w _ g1 g2 g3 g4 g5 x y z q u) := RS7.out.next hS
              clear hS
              clear Lv84
              go_wp2_with fail
              go_meet
              case rel => exact ⟨rfl, RZ.out⟩
            · refine opLit3 (some 76) rfl rfl rfl (.tmp 73) (.tmp 74) (.tmp 75) rfl z q u RS7.out.z.1 RS7.out.q.1 RS7.out.u.1 rfl rfl rfl ?_
              intro Vv86 v86 Lv86 bb
              have hS' : Below wc7.heap.size wc7 v86 := below_append hS bb
              refine ⟨hS', ?_⟩
              clear hS bb
              have hS := hS'
              clear hS'
              simp only [Act.put, List.setIfInBounds_toArray, List.set_cons_succ, List.set_cons_zero]
              refine oneH (i := 7) (by kernel_rfl) ?_
              refine opCallW (some 72) rfl rfl rfl 22 _ (run_call en22' [.tmp 68, .tmp 71] _ rfl [hv u, hv (Tree.node z q)] rfl) ?_
              refine (node_any u (Tree.node z q) RS7.out.u.1 (node_isH _ _) _ (ht.later (RS7.out.next hS).b) (hst.later (RS7.out.next hS).b)).mono ?_
              rintro e v87 ⟨rfl, bb⟩
              have hS' : Below wc7.heap.size wc7 v87 := below_append hS bb
              refine ⟨_, rfl, hS', ?_⟩
              have Lv86' : HIn v87 Vv86 [z, q, u] := Lv86.later bb
              clear Lv86
              have Lv86 := Lv86'
              clear Lv86'
              clear hS bb
              have hS := hS'
              clear hS'
              simp only [Act.put, List.setIfInBounds_toArray, List.set_cons_succ, List.set_cons_zero]
              refine oneH (i := 12) (by kernel_rfl) ?_
              refine opCallW (some 77) rfl rfl rfl 13 _ (run_call en13' [.const (.int .i64 3), .const (.int .i64 4), .tmp 67, .tmp 72, .tmp 76] _ rfl [.int .i64 3, .int .i64 4, hv (Tree.node u z), hv (Tree.node u (Tree.node z q)), Vv86] rfl) ?_
              refine (vcons_any (Tree.node u z) (Tree.node u (Tree.node z q)) 3 4 Vv86 [z, q, u] _ (node_isH _ _) (node_isH _ _) Lv86 (ht.later (RS7.out.next hS).b) (hst.later (RS7.out.next hS).b) (by decide)).mono ?_
              rintro e v88 ⟨rfl, bb⟩
              rw [HC.out.2.1]
              have hS' : Below wc7.heap.size wc7 v88 := below_append hS bb
              refine ⟨_, rfl, hS', ?_⟩
              have Lv86' : HIn v88 Vv86 [z, q, u] := Lv86.later bb
              clear Lv86
              have Lv86 := Lv86'
              clear Lv86'
              clear hS bb
              have hS := hS'
              clear hS'
              simp only [Act.put, List.setIfInBounds_toArray, List.set_cons_succ, List.set_cons_zero]
              refine takeH (i := 13) (some 8) rfl rfl (by kernel_rfl) (by kernel_rfl) (by kernel_rfl) (fun _ _ _ h => h) (yAssign rfl (.tmp 77) rfl (.bool true) rfl) hS ?_
              simp only [Act.put, List.setIfInBounds_toArray, List.set_cons_succ, List.set_cons_zero]
              refine wpAnyH_done (by kernel_rfl) ?_ _
              have RZ : Hid (Sh w _ g1 g2 g3 g4 g5 x y z q u) := RS7.out.next hS
              clear hS
              clear Lv86
              go_wp2_with fail
              go_meet
              case rel => exact ⟨rfl, RZ.out⟩
          · refine opLit3 (some 76) rfl rfl rfl (.tmp 73) (.tmp 74) (.tmp 75) rfl z q u RS7.out.z.1 RS7.out.q.1 RS7.out.u.1 rfl rfl rfl ?_
            intro Vv89 v89 Lv89 bb
            have hS' : Below wc7.heap.size wc7 v89 := below_append hS bb
            refine ⟨hS', ?_⟩
            clear hS bb
            have hS := hS'
            clear hS'
            simp only [Act.put, List.setIfInBounds_toArray, List.set_cons_succ, List.set_cons_zero]
            refine oneH (i := 6) (by kernel_rfl) ?_
            refine opCallW (some 71) rfl rfl rfl 22 _ (run_call en22' [.tmp 69, .tmp 70] _ rfl [hv z, hv q] rfl) ?_
            refine (node_any z q RS7.out.z.1 RS7.out.q.1 _ (ht.later (RS7.out.next hS).b) (hst.later (RS7.out.next hS).b)).mono ?_
            rintro e v810 ⟨rfl, bb⟩
            have hS' : Below wc7.heap.size wc7 v810 := below_append hS bb
            refine ⟨_, rfl, hS', ?_⟩
            have Lv89' : HIn v810 Vv89 [z, q, u] := Lv89.later bb
            clear Lv89
            have Lv89 := Lv89'
            clear Lv89'
            clear hS bb
            have hS := hS'
            clear hS'
            simp only [Act.put, List.setIfInBounds_toArray, List.set_cons_succ, List.set_cons_zero]
            refine oneH (i := 7) (by kernel_rfl) ?_
            refine opCallW (some 72) rfl rfl rfl 22 _ (run_call en22' [.tmp 68, .tmp 71] _ rfl [hv u, hv (Tree.node z q)] rfl) ?_
            refine (node_any u (Tree.node z q) RS7.out.u.1 (node_isH _ _) _ (ht.later (RS7.out.next hS).b) (hst.later (RS7.out.next hS).b)).mono ?_
            rintro e v811 ⟨rfl, bb⟩
            have hS' : Below wc7.heap.size wc7 v811 := below_append hS bb
            refine ⟨_, rfl, hS', ?_⟩
            have Lv89' : HIn v811 Vv89 [z, q, u] := Lv89.later bb
            clear Lv89
            have Lv89 := Lv89'
            clear Lv89'
            clear hS bb
            have hS := hS'
            clear hS'
            simp only [Act.put, List.setIfInBounds_toArray, List.set_cons_succ, List.set_cons_zero]
            refine oneH (i := 12) (by kernel_rfl) ?_
            refine opCallW (some 77) rfl rfl rfl 13 _ (run_call en13' [.const (.int .i64 3), .const (.int .i64 4), .tmp 67, .tmp 72, .tmp 76] _ rfl [.int .i64 3, .int .i64 4, hv (Tree.node u z), hv (Tree.node u (Tree.node z q)), Vv89] rfl) ?_
            refine (vcons_any (Tree.node u z) (Tree.node u (Tree.node z q)) 3 4 Vv89 [z, q, u] _ (node_isH _ _) (node_isH _ _) Lv89 (ht.later (RS7.out.next hS).b) (hst.later (RS7.out.next hS).b) (by decide)).mono ?_
            rintro e v812 ⟨rfl, bb⟩
            rw [HC.out.2.1]
            have hS' : Below wc7.heap.size wc7 v812 := below_append hS bb
            refine ⟨_, rfl, hS', ?_⟩
            have Lv89' : HIn v812 Vv89 [z, q, u] := Lv89.later bb
            clear Lv89
            have Lv89 := Lv89'
            clear Lv89'
            clear hS bb
            have hS := hS'
            clear hS'
            simp only [Act.put, List.setIfInBounds_toArray, List.set_cons_succ, List.set_cons_zero]
            refine takeH (i := 13) (some 8) rfl rfl (by kernel_rfl) (by kernel_rfl) (by kernel_rfl) (fun _ _ _ h => h) (yAssign rfl (.tmp 77) rfl (.bool true) rfl) hS ?_
            simp only [Act.put, List.setIfInBounds_toArray, List.set_cons_succ, List.set_cons_zero]
            refine wpAnyH_done (by kernel_rfl) ?_ _
            have RZ : Hid (Sh w _ g1 g2 g3 g4 g5 x y z q u) := RS7.out.next hS
            clear hS
            clear Lv89
            go_wp2_with fail
            go_meet
            case rel => exact ⟨rfl, RZ.out⟩
        · refine opLit3 (some 76) rfl rfl rfl (.tmp 73) (.tmp 74) (.tmp 75) rfl z q u RS7.out.z.1 RS7.out.q.1 RS7.out.u.1 rfl rfl rfl ?_
          intro Vv813 v813 Lv813 bb
          have hS' : Below wc7.heap.size wc7 v813 := below_append hS bb
          refine ⟨hS', ?_⟩
          clear hS bb
          have hS := hS'
          clear hS'
          simp only [Act.put, List.setIfInBounds_toArray, List.set_cons_succ, List.set_cons_zero]
          refine oneH (i := 2) (by kernel_rfl) ?_
          refine opCallW (some 67) rfl rfl rfl 22 _ (run_call en22' [.tmp 65, .tmp 66] _ rfl [hv u, hv z] rfl) ?_
          refine (node_any u z RS7.out.u.1 RS7.out.z.1 _ (ht.later (RS7.out.next hS).b) (hst.later (RS7.out.next hS).b)).mono ?_
          rintro e v814 ⟨rfl, bb⟩
          have hS' : Below wc7.heap.size wc7 v814 := below_append hS bb
          refine ⟨_, rfl, hS', ?_⟩
          have Lv813' : HIn v814 Vv813 [z, q, u] := Lv813.later bb
          clear Lv813
          have Lv813 := Lv813'
          clear Lv813'
          clear hS bb
          have hS := hS'
          clear hS'
          simp only [Act.put, List.setIfInBounds_toArray, List.set_cons_succ, List.set_cons_zero]
          refine oneH (i := 6) (by kernel_rfl) ?_
          refine opCallW (some 71) rfl rfl rfl 22 _ (run_call en22' [.tmp 69, .tmp 70] _ rfl [hv z, hv q] rfl) ?_
          refine (node_any z q RS7.out.z.1 RS7.out.q.1 _ (ht.later (RS7.out.next hS).b) (hst.later (RS7.out.next hS).b)).mono ?_
          rintro e v815 ⟨rfl, bb⟩
          have hS' : Below wc7.heap.size wc7 v815 := below_append hS bb
          refine ⟨_, rfl, hS', ?_⟩
          have Lv813' : HIn v815 Vv813 [z, q, u] := Lv813.later bb
          clear Lv813
          have Lv813 := Lv813'
          clear Lv813'
          clear hS bb
          have hS := hS'
          clear hS'
          simp only [Act.put, List.setIfInBounds_toArray, List.set_cons_succ, List.set_cons_zero]
          refine oneH (i := 7) (by kernel_rfl) ?_
          refine opCallW (some 72) rfl rfl rfl 22 _ (run_call en22' [.tmp 68, .tmp 71] _ rfl [hv u, hv (Tree.node z q)] rfl) ?_
          refine (node_any u (Tree.node z q) RS7.out.u.1 (node_isH _ _) _ (ht.later (RS7.out.next hS).b) (hst.later (RS7.out.next hS).b)).mono ?_
          rintro e v816 ⟨rfl, bb⟩
          have hS' : Below wc7.heap.size wc7 v816 := below_append hS bb
          refine ⟨_, rfl, hS', ?_⟩
          have Lv813' : HIn v816 Vv813 [z, q, u] := Lv813.later bb
          clear Lv813
          have Lv813 := Lv813'
          clear Lv813'
          clear hS bb
          have hS := hS'
          clear hS'
          simp only [Act.put, List.setIfInBounds_toArray, List.set_cons_succ, List.set_cons_zero]
          refine oneH (i := 12) (by kernel_rfl) ?_
          refine opCallW (some 77) rfl rfl rfl 13 _ (run_call en13' [.const (.int .i64 3), .const (.int .i64 4), .tmp 67, .tmp 72, .tmp 76] _ rfl [.int .i64 3, .int .i64 4, hv (Tree.node u z), hv (Tree.node u (Tree.node z q)), Vv813] rfl) ?_
          refine (vcons_any (Tree.node u z) (Tree.node u (Tree.node z q)) 3 4 Vv813 [z, q, u] _ (node_isH _ _) (node_isH _ _) Lv813 (ht.later (RS7.out.next hS).b) (hst.later (RS7.out.next hS).b) (by decide)).mono ?_
          rintro e v817 ⟨rfl, bb⟩
          rw [HC.out.2.1]
          have hS' : Below wc7.heap.size wc7 v817 := below_append hS bb
          refine ⟨_, rfl, hS', ?_⟩
          have Lv813' : HIn v817 Vv813 [z, q, u] := Lv813.later bb
          clear Lv813
          have Lv813 := Lv813'
          clear Lv813'
          clear hS bb
          have hS := hS'
          clear hS'
          simp only [Act.put, List.setIfInBounds_toArray, List.set_cons_succ, List.set_cons_zero]
          refine takeH (i := 13) (some 8) rfl rfl (by kernel_rfl) (by kernel_rfl) (by kernel_rfl) (fun _ _ _ h => h) (yAssign rfl (.tmp 77) rfl (.bool true) rfl) hS ?_
          simp only [Act.put, List.setIfInBounds_toArray, List.set_cons_succ, List.set_cons_zero]
          refine wpAnyH_done (by kernel_rfl) ?_ _
          have RZ : Hid (Sh w _ g1 g2 g3 g4 g5 x y z q u) := RS7.out.next hS
          clear hS
          clear Lv813
          go_wp2_with fail
          go_meet
          case rel => exact ⟨rfl, RZ.out⟩
      case rest =>
        obtain ⟨rfl, hsh⟩ := hcut
        rename World => wc8
        have RS8 : Hid (Sh w wc8 g1 g2 g3 g4 g5 x y z q u) := hsh
        clear hsh
        go_upto_region 9 with fail
        refine wp_region_held (S := fun W => Below wc8.heap.size wc8 W) (by kernel_rfl) ?_
        show wpAnyH _ _ _ _ _ 30 (Array.replicate 30 false) _ _
        have hS : Below wc8.heap.size wc8 { wc8 with drawn := wc8.drawn + 1 } := below_drawn wc8 _
        refine takeH (i := 0) (some 78) rfl rfl (by kernel_rfl) (by kernel_rfl) (by kernel_rfl) (fun _ _ _ h => h) (yMoveW rfl (.tmp 6) rfl (.bool true) rfl) hS ?_
        simp only [Act.put, List.setIfInBounds_toArray, List.set_cons_succ, List.set_cons_zero]
        refine takeH (i := 1) (some 79) rfl rfl (by kernel_rfl) (by kernel_rfl) (by kernel_rfl) (fun _ _ _ h => h) (yMoveW rfl (.tmp 78) rfl (.bool true) rfl) hS ?_
        simp only [Act.put, List.setIfInBounds_toArray, List.set_cons_succ, List.set_cons_zero]
        refine takeH (i := 2) (some 80) rfl rfl (by kernel_rfl) (by kernel_rfl) (by kernel_rfl) (fun _ _ _ h => h) (yMoveW rfl (.tmp 7) rfl (.bool true) rfl) hS ?_
        simp only [Act.put, List.setIfInBounds_toArray, List.set_cons_succ, List.set_cons_zero]
        refine takeH (i := 3) (some 81) rfl rfl (by kernel_rfl) (by kernel_rfl) (by kernel_rfl) (fun _ _ _ h => h) (yPickW rfl (.tmp 79) (.tmp 80) _ rfl rfl (.bool true) rfl) hS ?_
        simp only [Act.put, List.setIfInBounds_toArray, List.set_cons_succ, List.set_cons_zero]
        refine takeH (i := 4) (some 82) rfl rfl (by kernel_rfl) (by kernel_rfl) (by kernel_rfl) (fun _ _ _ h => h) (yMoveW rfl (.tmp 81) rfl (.bool true) rfl) hS ?_
        simp only [Act.put, List.setIfInBounds_toArray, List.set_cons_succ, List.set_cons_zero]
        refine takeH (i := 5) (some 83) rfl rfl (by kernel_rfl) (by kernel_rfl) (by kernel_rfl) (fun _ _ _ h => h) (yMoveW rfl (.tmp 8) rfl (.bool true) rfl) hS ?_
        simp only [Act.put, List.setIfInBounds_toArray, List.set_cons_succ, List.set_cons_zero]
        refine takeH (i := 6) (some 84) rfl rfl (by kernel_rfl) (by kernel_rfl) (by kernel_rfl) (fun _ _ _ h => h) (yPickW rfl (.tmp 82) (.tmp 83) _ rfl rfl (.bool true) rfl) hS ?_
        simp only [Act.put, List.setIfInBounds_toArray, List.set_cons_succ, List.set_cons_zero]
        refine takeH (i := 7) (some 85) rfl rfl (by kernel_rfl) (by kernel_rfl) (by kernel_rfl) (fun _ _ _ h => h) (yMoveW rfl (.tmp 84) rfl (.bool true) rfl) hS ?_
        simp only [Act.put, List.setIfInBounds_toArray, List.set_cons_succ, List.set_cons_zero]
        refine takeH (i := 8) (some 86) rfl rfl (by kernel_rfl) (by kernel_rfl) (by kernel_rfl) (fun _ _ _ h => h) (yRunW rfl (hv x) (fun W hW => rx_load (.tmp 1) rfl (.pointer (some ⟨g1, 0, none⟩)) rfl x ((RS8.out.next hW).x.at))) hS ?_
        simp only [Act.put, List.setIfInBounds_toArray, List.set_cons_succ, List.set_cons_zero]
        refine takeH (i := 9) (some 87) rfl rfl (by kernel_rfl) (by kernel_rfl) (by kernel_rfl) (fun _ _ _ h => h) (yRunW rfl (hv x) (fun W hW => rx_load (.tmp 1) rfl (.pointer (some ⟨g1, 0, none⟩)) rfl x ((RS8.out.next hW).x.at))) hS ?_
        simp only [Act.put, List.setIfInBounds_toArray, List.set_cons_succ, List.set_cons_zero]
        refine oneH (i := 10) (by kernel_rfl) ?_
        refine opCallW (some 88) rfl rfl rfl 13 _ (run_call en13' [.const (.int .i64 3), .const (.int .i64 3), .tmp 86, .tmp 87, .const (.slice none 0 0)] _ rfl [.int .i64 3, .int .i64 3, hv x, hv x, (.slice none 0 0)] rfl) ?_
        refine (vcons_any x x 3 3 (.slice none 0 0) [] _ RS8.out.x.1 RS8.out.x.1 (HIn.nil _) (ht.later (RS8.out.next hS).b) (hst.later (RS8.out.next hS).b) (by decide)).mono ?_
        rintro e v91 ⟨rfl, bb⟩
        rw [HC.out.2.2.1]
        have hS' : Below wc8.heap.size wc8 v91 := below_append hS bb
        refine ⟨_, rfl, hS', ?_⟩
        clear hS bb
        have hS := hS'
        clear hS'
        simp only [Act.put, List.setIfInBounds_toArray, List.set_cons_succ, List.set_cons_zero]
        refine takeH (i := 11) (some 89) rfl rfl (by kernel_rfl) (by kernel_rfl) (by kernel_rfl) (fun _ _ _ h => h) (yPickW rfl (.tmp 85) (.tmp 88) _ rfl rfl (.bool true) rfl) hS ?_
        simp only [Act.put, List.setIfInBounds_toArray, List.set_cons_succ, List.set_cons_zero]
        refine takeH (i := 12) (some 90) rfl rfl (by kernel_rfl) (by kernel_rfl) (by kernel_rfl) (fun _ _ _ h => h) (yMoveW rfl (.tmp 89) rfl (.bool true) rfl) hS ?_
        simp only [Act.put, List.setIfInBounds_toArray, List.set_cons_succ, List.set_cons_zero]
        refine takeH (i := 13) (some 91) rfl rfl (by kernel_rfl) (by kernel_rfl) (by kernel_rfl) (fun _ _ _ h => h) (yRunW rfl (hv x) (fun W hW => rx_load (.tmp 1) rfl (.pointer (some ⟨g1, 0, none⟩)) rfl x ((RS8.out.next hW).x.at))) hS ?_
        simp only [Act.put, List.setIfInBounds_toArray, List.set_cons_succ, List.set_cons_zero]
        refine takeH (i := 14) (some 92) rfl rfl (by kernel_rfl) (by kernel_rfl) (by kernel_rfl) (fun _ _ _ h => h) (yRunW rfl (hv y) (fun W hW => rx_load (.tmp 2) rfl (.pointer (some ⟨g2, 0, none⟩)) rfl y ((RS8.out.next hW).y.at))) hS ?_
        simp only [Act.put, List.setIfInBounds_toArray, List.set_cons_succ, List.set_cons_zero]
        refine oneH (i := 15) (by kernel_rfl) ?_
        refine opCallW (some 93) rfl rfl rfl 13 _ (run_call en13' [.const (.int .i64 4), .const (.int .i64 3), .tmp 91, .tmp 92, .const (.slice none 0 0)] _ rfl [.int .i64 4, .int .i64 3, hv x, hv y, (.slice none 0 0)] rfl) ?_
        refine (vcons_any x y 4 3 (.slice none 0 0) [] _ RS8.out.x.1 RS8.out.y.1 (HIn.nil _) (ht.later (RS8.out.next hS).b) (hst.later (RS8.out.next hS).b) (by decide)).mono ?_
        rintro e v92 ⟨rfl, bb⟩
        rw [HC.out.2.2.2.1]
        have hS' : Below wc8.heap.size wc8 v92 := below_append hS bb
        refine ⟨_, rfl, hS', ?_⟩
        clear hS bb
        have hS := hS'
        clear hS'
        simp only [Act.put, List.setIfInBounds_toArray, List.set_cons_succ, List.set_cons_zero]
        refine takeH (i := 16) (some 94) rfl rfl (by kernel_rfl) (by kernel_rfl) (by kernel_rfl) (fun _ _ _ h => h) (yNotW rfl (.tmp 93) rfl false rfl) hS ?_
        simp only [Act.put, List.setIfInBounds_toArray, List.set_cons_succ, List.set_cons_zero]
        refine takeH (i := 17) (some 95) rfl rfl (by kernel_rfl) (by kernel_rfl) (by kernel_rfl) (fun _ _ _ h => h) (yPickW rfl (.tmp 90) (.tmp 94) _ rfl rfl (.bool true) rfl) hS ?_
        simp only [Act.put, List.setIfInBounds_toArray, List.set_cons_succ, List.set_cons_zero]
        refine takeH (i := 18) (some 96) rfl rfl (by kernel_rfl) (by kernel_rfl) (by kernel_rfl) (fun _ _ _ h => h) (yMoveW rfl (.tmp 95) rfl (.bool true) rfl) hS ?_
        simp only [Act.put, List.setIfInBounds_toArray, List.set_cons_succ, List.set_cons_zero]
        refine takeH (i := 20) (some 98) rfl rfl (by kernel_rfl) (by kernel_rfl) (by kernel_rfl) (fun _ _ _ h => h) (yRunW rfl (hv x) (fun W hW => rx_load (.tmp 1) rfl (.pointer (some ⟨g1, 0, none⟩)) rfl x ((RS8.out.next hW).x.at))) hS ?_
        simp only [Act.put, List.setIfInBounds_toArray, List.set_cons_succ, List.set_cons_zero]
        refine oneH (i := 19) (by kernel_rfl) ?_
        refine opCallW (some 97) rfl rfl rfl 16 _ (run_call en16' [.const (.slice none 0 0)] _ rfl [(.slice none 0 0)] rfl) ?_
        refine (root_any 0 (.slice none 0 0) [] _ rfl (by decide) (HIn.nil _) (ht.later (RS8.out.next hS).b) (hst.later (RS8.out.next hS).b)).mono ?_
        rintro e v93 ⟨rfl, bb⟩
        rw [Tree.root_nil]
        have hS' : Below wc8.heap.size wc8 v93 := below_append hS bb
        refine ⟨_, rfl, hS', ?_⟩
        clear hS bb
        have hS := hS'
        clear hS'
        simp only [Act.put, List.setIfInBounds_toArray, List.set_cons_succ, List.set_cons_zero]
        refine oneH (i := 21) (by kernel_rfl) ?_
        refine opCallW (some 99) rfl rfl rfl 13 _ (run_call en13' [.const (.int .i64 0), .const (.int .i64 3), .tmp 97, .tmp 98, .const (.slice none 0 0)] _ rfl [.int .i64 0, .int .i64 3, hv (Sha.sha []), hv x, (.slice none 0 0)] rfl) ?_
        refine (vcons_any (Sha.sha []) x 0 3 (.slice none 0 0) [] _ (sha_isH _) RS8.out.x.1 (HIn.nil _) (ht.later (RS8.out.next hS).b) (hst.later (RS8.out.next hS).b) (by decide)).mono ?_
        rintro e v94 ⟨rfl, bb⟩
        rw [HC.out.2.2.2.2.1]
        have hS' : Below wc8.heap.size wc8 v94 := below_append hS bb
        refine ⟨_, rfl, hS', ?_⟩
        clear hS bb
        have hS := hS'
        clear hS'
        simp only [Act.put, List.setIfInBounds_toArray, List.set_cons_succ, List.set_cons_zero]
        refine takeH (i := 22) (some 100) rfl rfl (by kernel_rfl) (by kernel_rfl) (by kernel_rfl) (fun _ _ _ h => h) (yPickW rfl (.tmp 96) (.tmp 99) _ rfl rfl (.bool true) rfl) hS ?_
        simp only [Act.put, List.setIfInBounds_toArray, List.set_cons_succ, List.set_cons_zero]
        refine takeH (i := 23) (some 101) rfl rfl (by kernel_rfl) (by kernel_rfl) (by kernel_rfl) (fun _ _ _ h => h) (yMoveW rfl (.tmp 100) rfl (.bool true) rfl) hS ?_
        simp only [Act.put, List.setIfInBounds_toArray, List.set_cons_succ, List.set_cons_zero]
        refine takeH (i := 24) (some 102) rfl rfl (by kernel_rfl) (by kernel_rfl) (by kernel_rfl) (fun _ _ _ h => h) (yRunW rfl (hv x) (fun W hW => rx_load (.tmp 1) rfl (.pointer (some ⟨g1, 0, none⟩)) rfl x ((RS8.out.next hW).x.at))) hS ?_
        simp only [Act.put, List.setIfInBounds_toArray, List.set_cons_succ, List.set_cons_zero]
        refine takeH (i := 25) (some 103) rfl rfl (by kernel_rfl) (by kernel_rfl) (by kernel_rfl) (fun _ _ _ h => h) (yRunW rfl (hv x) (fun W hW => rx_load (.tmp 1) rfl (.pointer (some ⟨g1, 0, none⟩)) rfl x ((RS8.out.next hW).x.at))) hS ?_
        simp only [Act.put, List.setIfInBounds_toArray, List.set_cons_succ, List.set_cons_zero]
        refine oneH (i := 26) (by kernel_rfl) ?_
        refine opCallW (some 104) rfl rfl rfl 13 _ (run_call en13' [.const (.int .i64 0), .const (.int .i64 3), .tmp 102, .tmp 103, .const (.slice none 0 0)] _ rfl [.int .i64 0, .int .i64 3, hv x, hv x, (.slice none 0 0)] rfl) ?_
        refine (vcons_any x x 0 3 (.slice none 0 0) [] _ RS8.out.x.1 RS8.out.x.1 (HIn.nil _) (ht.later (RS8.out.next hS).b) (hst.later (RS8.out.next hS).b) (by decide)).mono ?_
        rintro e v95 ⟨rfl, bb⟩
        rw [HC.out.2.2.2.2.2]
        have hS' : Below wc8.heap.size wc8 v95 := below_append hS bb
        refine ⟨_, rfl, hS', ?_⟩
        clear hS bb
        have hS := hS'
        clear hS'
        simp only [Act.put, List.setIfInBounds_toArray, List.set_cons_succ, List.set_cons_zero]
        refine takeH (i := 27) (some 105) rfl rfl (by kernel_rfl) (by kernel_rfl) (by kernel_rfl) (fun _ _ _ h => h) (yNotW rfl (.tmp 104) rfl false rfl) hS ?_
        simp only [Act.put, List.setIfInBounds_toArray, List.set_cons_succ, List.set_cons_zero]
        refine takeH (i := 28) (some 106) rfl rfl (by kernel_rfl) (by kernel_rfl) (by kernel_rfl) (fun _ _ _ h => h) (yPickW rfl (.tmp 101) (.tmp 105) _ rfl rfl (.bool true) rfl) hS ?_
        simp only [Act.put, List.setIfInBounds_toArray, List.set_cons_succ, List.set_cons_zero]
        refine takeH (i := 29) (some 0) rfl rfl (by kernel_rfl) (by kernel_rfl) (by kernel_rfl) (fun _ _ _ h => h) (yAssign rfl (.tmp 106) rfl (.bool true) rfl) hS ?_
        simp only [Act.put, List.setIfInBounds_toArray, List.set_cons_zero]
        refine wpAnyH_done (by kernel_rfl) ?_ _
        have RZ : Hid (Below w.heap.size w _) := (RS8.out.next hS).b
        clear hS
        go_wp2_with fail
        go_ret
        exact ⟨rfl, RZ.out⟩
end Go.Proofs.YtjdmpanemdhbbaaDoor

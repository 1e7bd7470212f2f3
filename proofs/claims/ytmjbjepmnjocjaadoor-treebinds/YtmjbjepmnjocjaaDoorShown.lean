/- The walk of 'shown'. -/
import Derived.Test.YtmjbjepmnjocjaaDoorGuards
namespace Go.Proofs.YtmjbjepmnjocjaaDoor
open Go.RowKit

/-- what the last test reads -/
structure ShS (w : World) (ga gb gc gn gr G : Nat) (a b c : List Nat) (vp vq vg : Value) (W : World) : Prop where
  sh : ShIn w W ga gb gc gn a b c
  p : HIn W vp [Tree.node a b]
  q : HIn W vq [b, c]
  r : HIs W gr (Tree.node (Tree.node a b) c)
  g : GrowAt W G vg [a]
theorem ShS.next {w W W' : World} {ga gb gc gn gr G : Nat} {a b c : List Nat} {vp vq vg : Value} (h : ShS w ga gb gc gn gr G a b c vp vq vg W) (hb : Below W.heap.size W W') : ShS w ga gb gc gn gr G a b c vp vq vg W' :=
  ⟨h.sh.next hb, h.p.later hb, h.q.later hb, h.r.next hb, h.g.below hb⟩
theorem ShS.c0 {w W : World} {ga gb gc gn gr G : Nat} {a b c : List Nat} {vp vq vg : Value} (h : ShS w ga gb gc gn gr G a b c vp vq vg W) : W.cell? ⟨gn, 0, none⟩ = some (.int .u8 227) := by
  rw [h.sh.n.2.at 0 _ (bcells_at _ 0 (by rw [sha_length]; decide)), sha_none0.1]
  rfl
theorem ShS.c31 {w W : World} {ga gb gc gn gr G : Nat} {a b c : List Nat} {vp vq vg : Value} (h : ShS w ga gb gc gn gr G a b c vp vq vg W) : W.cell? ⟨gn, 31, none⟩ = some (.int .u8 85) := by
  rw [h.sh.n.2.at 31 _ (bcells_at _ 31 (by rw [sha_length]; decide)), sha_none0.2]
  rfl
theorem rootOne {G : Nat} {vg : Value} {a : List Nat} (W : World) (h : GrowAt W G vg [a]) (ht : TabIn W) (hst : StartIn W) : Calls Tryd.prog 23 #[.pointer (some ⟨G, 0, none⟩)] W fun e w' => e = .returned (hv a) ∧ Below W.heap.size W w' := by
  have := growRoot_any G vg [a] W h ht hst (by simp)
  rwa [Tree.root_single] at this

set_option maxHeartbeats 40000000 in
set_option maxRecDepth 100000 in
theorem shown_any (w : World) (ht : TabIn w) (hst : StartIn w) :
    Calls Tryd.prog 8 #[] w fun e w' => e = .returned (.bool true) ∧ Below w.heap.size w w' := by
  have h1lt := ht.lt
  go_enter Tryd.func8, Tryd.ntmps8
  go_wp2_with ((first | (refine wl_const1 14 15 rfl rfl rfl rfl 97 (by decide) _ rfl rfl rfl (fun _ => rfl) ?_; intro w1 s1 b1; have R1 : Hid (SliceIn w1 (.slice (some ⟨w.heap.size, 0, none⟩) 1 1) [97] ∧ Below w.heap.size w w1) := ⟨s1, b1⟩; clear s1 b1)); try simp only [Act.put, List.setIfInBounds_toArray, List.set_cons_succ, List.set_cons_zero])
  refine (leaf_any _ [97] w1 R1.out.1 (ht.later R1.out.2) (hst.later R1.out.2) (by decide)).mono ?_
  rintro e w2 ⟨rfl, b2⟩
  have R2 : Hid (Below w.heap.size w w2) := below_append R1.out.2 b2
  have HA : Hid (IsH (Tree.leaf [97])) := leaf_isH _
  clear b2 R1
  generalize Tree.leaf [97] = a at HA ⊢
  go_wp2_with ((first
    | (refine wl_new rfl rfl rfl rfl rfl (.tmp 16) rfl a HA.out (fun _ => rfl) (fun _ => rfl) ?_; intro w3 r3 s3 b3; have R3 : Hid (HIs w3 w2.heap.size a ∧ Below w.heap.size w w3) := ⟨r3, below_append R2.out b3⟩; clear r3 s3 b3)
    | (refine wl_const1 17 18 rfl rfl rfl rfl 98 (by decide) _ rfl rfl rfl (fun _ => rfl) ?_; intro w4 s4 b4; have R4 : Hid (HIs w4 w2.heap.size a ∧ Below w.heap.size w w4 ∧ SliceIn w4 (.slice (some ⟨w3.heap.size, 0, none⟩) 1 1) [98]) := ⟨R3.out.1.next b4, below_append R3.out.2 b4, s4⟩; clear s4 b4)); try simp only [Act.put, List.setIfInBounds_toArray, List.set_cons_succ, List.set_cons_zero])
  refine (leaf_any _ [98] w4 R4.out.2.2 (ht.later R4.out.2.1) (hst.later R4.out.2.1) (by decide)).mono ?_
  rintro e w5 ⟨rfl, b5⟩
  have R5 : Hid (HIs w5 w2.heap.size a ∧ Below w.heap.size w w5) := ⟨R4.out.1.next b5, below_append R4.out.2.1 b5⟩
  have HB : Hid (IsH (Tree.leaf [98])) := leaf_isH _
  clear b5 R4 R3
  generalize Tree.leaf [98] = b at HB ⊢
  go_wp2_with ((first
    | (refine wl_new rfl rfl rfl rfl rfl (.tmp 19) rfl b HB.out (fun _ => rfl) (fun _ => rfl) ?_; intro w6 r6 s6 b6; have R6 : Hid (HIs w6 w2.heap.size a ∧ HIs w6 w5.heap.size b ∧ Below w.heap.size w w6) := ⟨R5.out.1.next b6, r6, below_append R5.out.2 b6⟩; clear r6 s6 b6)
    | (refine wl_const1 20 21 rfl rfl rfl rfl 99 (by decide) _ rfl rfl rfl (fun _ => rfl) ?_; intro w7 s7 b7; have R7 : Hid (HIs w7 w2.heap.size a ∧ HIs w7 w5.heap.size b ∧ Below w.heap.size w w7 ∧ SliceIn w7 (.slice (some ⟨w6.heap.size, 0, none⟩) 1 1) [99]) := ⟨R6.out.1.next b7, R6.out.2.1.next b7, below_append R6.out.2.2 b7, s7⟩; clear s7 b7)); try simp only [Act.put, List.setIfInBounds_toArray, List.set_cons_succ, List.set_cons_zero])
  refine (leaf_any _ [99] w7 R7.out.2.2.2 (ht.later R7.out.2.2.1) (hst.later R7.out.2.2.1) (by decide)).mono ?_
  rintro e w8 ⟨rfl, b8⟩
  have R8 : Hid (HIs w8 w2.heap.size a ∧ HIs w8 w5.heap.size b ∧ Below w.heap.size w w8) := ⟨R7.out.1.next b8, R7.out.2.1.next b8, below_append R7.out.2.2.1 b8⟩
  have HC : Hid (IsH (Tree.leaf [99])) := leaf_isH _
  clear b8 R7 R6 R5 R2
  generalize Tree.leaf [99] = c at HC ⊢
  go_wp2_with ((first
    | (refine wl_new rfl rfl rfl rfl rfl (.tmp 22) rfl c HC.out (fun _ => rfl) (fun _ => rfl) ?_; intro w9 r9 s9 b9; have R9 : Hid (HIs w9 w2.heap.size a ∧ HIs w9 w5.heap.size b ∧ HIs w9 w8.heap.size c ∧ Below w.heap.size w w9) := ⟨R8.out.1.next b9, R8.out.2.1.next b9, r9, below_append R8.out.2.2 b9⟩; clear r9 s9 b9)
    | (refine wl_load (.tmp 1) rfl rfl _ rfl a R9.out.1.at ?_)
    | (refine wl_load (.tmp 2) rfl rfl _ rfl b R9.out.2.1.at ?_)
    | (refine wl_load (.tmp 3) rfl rfl _ rfl c R9.out.2.2.1.at ?_)
    | (refine wl_hlit3 (.tmp 23) (.tmp 24) (.tmp 25) rfl rfl a b c HA.out HB.out HC.out rfl rfl rfl ?_; intro vl w10 s10 b10; have R10 : Hid (HIs w10 w2.heap.size a ∧ HIs w10 w5.heap.size b ∧ HIs w10 w8.heap.size c ∧ Below w.heap.size w w10 ∧ HIn w10 vl [a, b, c]) := ⟨R9.out.1.next b10, R9.out.2.1.next b10, R9.out.2.2.1.next b10, below_append R9.out.2.2.2 b10, s10⟩; clear s10 b10)); try simp only [Act.put, List.setIfInBounds_toArray, List.set_cons_succ, List.set_cons_zero])
  refine (root_any 0 (.slice none 0 0) [] w10 rfl (by decide) (HIn.nil w10) (ht.later R10.out.2.2.2.1) (hst.later R10.out.2.2.2.1)).mono ?_
  rintro e w11 ⟨rfl, b11⟩
  rw [Tree.root_nil]
  have R11 : Hid (HIs w11 w2.heap.size a ∧ HIs w11 w5.heap.size b ∧ HIs w11 w8.heap.size c ∧ Below w.heap.size w w11 ∧ HIn w11 vl [a, b, c]) := ⟨R10.out.1.next b11, R10.out.2.1.next b11, R10.out.2.2.1.next b11, below_append R10.out.2.2.2.1 b11, R10.out.2.2.2.2.later b11⟩
  clear b11 R10 R9 R8
  go_wp2_with ((first
    | (refine wl_new rfl rfl rfl rfl rfl (.tmp 27) rfl (Sha.sha []) (sha_isH _) (fun _ => rfl) (fun _ => rfl) ?_; intro w12 r12 s12 b12; have R12 : Hid (ShIn w w12 w2.heap.size w5.heap.size w8.heap.size w11.heap.size a b c ∧ HIn w12 vl [a, b, c]) := ⟨⟨R11.out.1.next b12, R11.out.2.1.next b12, R11.out.2.2.1.next b12, r12, below_append R11.out.2.2.2.1 b12⟩, R11.out.2.2.2.2.later b12⟩; clear r12 s12 b12)); try simp only [Act.put, List.setIfInBounds_toArray, List.set_cons_succ, List.set_cons_zero])
  generalize w2.heap.size = ga at R12 ⊢
  generalize w5.heap.size = gb at R12 ⊢
  generalize w8.heap.size = gc at R12 ⊢
  generalize w11.heap.size = gn at R12 ⊢
  clear R11
  refine (incl_any vl [a, b, c] 2 w12 R12.out.2 (ht.later R12.out.1.bl) (hst.later R12.out.1.bl) (by simp)).mono ?_
  rintro e w13 ⟨vp, rfl, o13, b13⟩
  rw [(incl_abc a b c).1] at o13
  rw [(incl_abc a b c).2]
  have R13 : Hid (ShIn w w13 ga gb gc gn a b c ∧ HIn w13 vl [a, b, c] ∧ HIn w13 vp [Tree.node a b]) := ⟨R12.out.1.next b13, R12.out.2.later b13, o13.hin⟩
  clear o13 b13 R12
  go_wp2_with fail
  refine (cons_any vl [a, b, c] 1 w13 R13.out.2.1 (ht.later R13.out.1.bl) (hst.later R13.out.1.bl) (by simp)).mono ?_
  rintro e w14 ⟨vq, rfl, o14, b14⟩
  rw [(cons_abc a b c).1] at o14
  rw [(cons_abc a b c).2]
  have R14 : Hid (ShIn w w14 ga gb gc gn a b c ∧ HIn w14 vl [a, b, c] ∧ HIn w14 vp [Tree.node a b] ∧ HIn w14 vq [b, c]) := ⟨R13.out.1.next b14, R13.out.2.1.later b14, R13.out.2.2.later b14, o14.hin⟩
  clear o14 b14 R13
  go_wp2_with fail
  refine (cons_any vl [a, b, c] 4 w14 R14.out.2.1 (ht.later R14.out.1.bl) (hst.later R14.out.1.bl) (by simp)).mono ?_
  rintro e w15 ⟨vz, rfl, o15, b15⟩
  rw [show consErr [a, b, c] 4 = 50 from rfl]
  have R15 : Hid (ShIn w w15 ga gb gc gn a b c ∧ HIn w15 vl [a, b, c] ∧ HIn w15 vp [Tree.node a b] ∧ HIn w15 vq [b, c]) := ⟨R14.out.1.next b15, R14.out.2.1.later b15, R14.out.2.2.1.later b15, R14.out.2.2.2.later b15⟩
  clear o15 b15 R14
  go_wp2_with fail
  refine (root_any 3 vl [a, b, c] w15 rfl (by decide) R15.out.2.1 (ht.later R15.out.1.bl) (hst.later R15.out.1.bl)).mono ?_
  rintro e w16 ⟨rfl, b16⟩
  rw [root_abc]
  have R16 : Hid (ShIn w w16 ga gb gc gn a b c ∧ HIn w16 vp [Tree.node a b] ∧ HIn w16 vq [b, c]) := ⟨R15.out.1.next b16, R15.out.2.2.1.later b16, R15.out.2.2.2.later b16⟩
  clear b16 R15
  go_wp2_with ((first
    | (refine wl_new rfl rfl rfl rfl rfl (.tmp 44) rfl (Tree.node (Tree.node a b) c) (node_isH _ _) (fun _ => rfl) (fun _ => rfl) ?_; intro w17 r17 s17 b17; have R17 : Hid (ShIn w w17 ga gb gc gn a b c ∧ HIn w17 vp [Tree.node a b] ∧ HIn w17 vq [b, c] ∧ HIs w17 w16.heap.size (Tree.node (Tree.node a b) c)) := ⟨R16.out.1.next b17, R16.out.2.1.later b17, R16.out.2.2.later b17, r17⟩; clear r17 s17 b17)); try simp only [Act.put, List.setIfInBounds_toArray, List.set_cons_succ, List.set_cons_zero])
  generalize w16.heap.size = gr at R17 ⊢
  clear R16
  refine (newGrow_any w17).mono ?_
  rintro e w18 ⟨rfl, g18, b18⟩
  obtain ⟨G, hG⟩ : ∃ G, G = w17.heap.size := ⟨_, rfl⟩
  rw [← hG] at g18 ⊢
  have HG : Hid (G = w17.heap.size ∧ 1 < G) := ⟨hG, by have := R17.out.1.bl.size; omega⟩
  have R18 : Hid (GrowAt w18 G (.slice none 0 0) [] ∧ Below w17.heap.size w17 w18) := ⟨g18, b18⟩
  clear g18 b18 hG
  go_wp2_with ((first
    | (refine wl_load (.tmp 1) rfl rfl _ rfl a (R17.out.1.next R18.out.2).a.at ?_)); try simp only [Act.put, List.setIfInBounds_toArray, List.set_cons_succ, List.set_cons_zero])
  refine (add_any G (.slice none 0 0) [] a w18 R18.out.1 HA.out (ht.later (R17.out.1.next R18.out.2).bl) (hst.later (R17.out.1.next R18.out.2).bl) HG.out.2 (by simp)).mono ?_
  rintro e w19 ⟨rfl, vg, g19, k19, _⟩
  have b19 : Below w17.heap.size w17 w19 := R18.out.2.trans (k19.below (by rw [HG.out.1]; exact Nat.le_refl _) (fun i hi => by cases hi) R18.out.2.size)
  have R19 : Hid (GrowAt w19 G vg [a] ∧ Below w17.heap.size w17 w19 ∧ ShIn w w19 ga gb gc gn a b c ∧ HIn w19 vp [Tree.node a b] ∧ HIn w19 vq [b, c] ∧ HIs w19 gr (Tree.node (Tree.node a b) c)) := ⟨g19, b19, R17.out.1.next b19, R17.out.2.1.later b19, R17.out.2.2.1.later b19, R17.out.2.2.2.next b19⟩
  clear g19 k19 b19 R18 R17
  have S0 : ShS w ga gb gc gn gr G a b c vp vq vg w19 := ⟨R19.out.2.2.1, R19.out.2.2.2.1, R19.out.2.2.2.2.1, R19.out.2.2.2.2.2, R19.out.1⟩
  obtain ⟨p, hp1, hp2⟩ := run_hindex R19.out.2.2.2.1 0 (by simp)
  obtain ⟨p0, hq1, hq2⟩ := run_hindex R19.out.2.2.2.2.1 0 (by simp)
  obtain ⟨p1, hr1, hr2⟩ := run_hindex R19.out.2.2.2.2.1 1 (by simp)
  have HP : Hid ((∀ w', (Instr.indexAt 24 vp (.int .i64 (0 : Nat))).run Tryd.prog w' = .ok p w') ∧ (∀ w', (Instr.indexAt 24 vq (.int .i64 (0 : Nat))).run Tryd.prog w' = .ok p0 w') ∧ (∀ w', (Instr.indexAt 24 vq (.int .i64 (1 : Nat))).run Tryd.prog w' = .ok p1 w')) := ⟨hp1, hq1, hr1⟩
  have HQ : Hid (HAt w19 p (Tree.node a b) ∧ HAt w19 p0 b ∧ HAt w19 p1 c) := ⟨hp2, hq2, hr2⟩
  have S1 : Hid (ShS w ga gb gc gn gr G a b c vp vq vg w19) := S0
  have HV : Hid (HIn w19 vp [Tree.node a b] ∧ HIn w19 vq [b, c]) := ⟨R19.out.2.2.2.1, R19.out.2.2.2.2.1⟩
  clear hp1 hp2 hq1 hq2 hr1 hr2 S0 R19
  go_wp2_with fail
  refine wp_region_held (S := fun W => ShS w ga gb gc gn gr G a b c vp vq vg W ∧ Below w19.heap.size w19 W) (by kernel_rfl) ?_
  show wpAnyH _ _ _ _ _ 74 (Array.replicate 74 false) _ _
  have hS : ShS w ga gb gc gn gr G a b c vp vq vg { w19 with drawn := w19.drawn + 1 } ∧ Below w19.heap.size w19 { w19 with drawn := w19.drawn + 1 } := ⟨S1.out.next (below_drawn w19 _), below_drawn w19 _⟩
  clear S1
  refine takeH (i := 0) (some 51) rfl rfl (by kernel_rfl) (by kernel_rfl) (by kernel_rfl) (fun _ _ _ h => h) (yAt27 rfl (.tmp 5) (.const (.int .i64 0)) rfl gn 0 (by decide) rfl _ rfl rfl) hS ?_
  simp only [Act.put, List.setIfInBounds_toArray, List.set_cons_succ, List.set_cons_zero]
  refine takeH (i := 1) (some 52) rfl rfl (by kernel_rfl) (by kernel_rfl) (by kernel_rfl) (fun _ _ _ h => h) (yCellW rfl (.tmp 51) rfl gn 0 rfl 227 (fun W hW => hW.1.c0)) hS ?_
  simp only [Act.put, List.setIfInBounds_toArray, List.set_cons_succ, List.set_cons_zero]
  refine takeH (i := 2) (some 53) rfl rfl (by kernel_rfl) (by kernel_rfl) (by kernel_rfl) (fun _ _ _ h => h) (yIntEq rfl (.tmp 52) (.const (.int .u8 227)) rfl .u8 227 rfl rfl) hS ?_
  simp only [Act.put, List.setIfInBounds_toArray, List.set_cons_succ, List.set_cons_zero]
  refine takeH (i := 3) (some 54) rfl rfl (by kernel_rfl) (by kernel_rfl) (by kernel_rfl) (fun _ _ _ h => h) (yMoveW rfl (.tmp 53) rfl (.bool true) rfl) hS ?_
  simp only [Act.put, List.setIfInBounds_toArray, List.set_cons_succ, List.set_cons_zero]
  refine takeH (i := 4) (some 55) rfl rfl (by kernel_rfl) (by kernel_rfl) (by kernel_rfl) (fun _ _ _ h => h) (yAt27 rfl (.tmp 5) (.const (.int .i64 31)) rfl gn 31 (by decide) rfl _ rfl rfl) hS ?_
  simp only [Act.put, List.setIfInBounds_toArray, List.set_cons_succ, List.set_cons_zero]
  refine takeH (i := 5) (some 56) rfl rfl (by kernel_rfl) (by kernel_rfl) (by kernel_rfl) (fun _ _ _ h => h) (yCellW rfl (.tmp 55) rfl gn 31 rfl 85 (fun W hW => hW.1.c31)) hS ?_
  simp only [Act.put, List.setIfInBounds_toArray, List.set_cons_succ, List.set_cons_zero]
  refine takeH (i := 6) (some 57) rfl rfl (by kernel_rfl) (by kernel_rfl) (by kernel_rfl) (fun _ _ _ h => h) (yIntEq rfl (.tmp 56) (.const (.int .u8 85)) rfl .u8 85 rfl rfl) hS ?_
  simp only [Act.put, List.setIfInBounds_toArray, List.set_cons_succ, List.set_cons_zero]
  refine takeH (i := 7) (some 58) rfl rfl (by kernel_rfl) (by kernel_rfl) (by kernel_rfl) (fun _ _ _ h => h) (yPickW rfl (.tmp 54) (.tmp 57) _ rfl rfl (.bool true) rfl) hS ?_
  simp only [Act.put, List.setIfInBounds_toArray, List.set_cons_succ, List.set_cons_zero]
  refine takeH (i := 8) (some 59) rfl rfl (by kernel_rfl) (by kernel_rfl) (by kernel_rfl) (fun _ _ _ h => h) (yMoveW rfl (.tmp 58) rfl (.bool true) rfl) hS ?_
  simp only [Act.put, List.setIfInBounds_toArray, List.set_cons_succ, List.set_cons_zero]
  refine takeH (i := 9) (some 60) rfl rfl (by kernel_rfl) (by kernel_rfl) (by kernel_rfl) (fun _ _ _ h => h) (yMoveW rfl (.tmp 7) rfl (.int .i64 (0)) rfl) hS ?_
  simp only [Act.put, List.setIfInBounds_toArray, List.set_cons_succ, List.set_cons_zero]
  refine takeH (i := 10) (some 61) rfl rfl (by kernel_rfl) (by kernel_rfl) (by kernel_rfl) (fun _ _ _ h => h) (yIntEq rfl (.tmp 60) (.const (.int .i64 0)) rfl .i64 0 rfl rfl) hS ?_
  simp only [Act.put, List.setIfInBounds_toArray, List.set_cons_succ, List.set_cons_zero]
  refine takeH (i := 11) (some 62) rfl rfl (by kernel_rfl) (by kernel_rfl) (by kernel_rfl) (fun _ _ _ h => h) (yPickW rfl (.tmp 59) (.tmp 61) _ rfl rfl (.bool true) rfl) hS ?_
  simp only [Act.put, List.setIfInBounds_toArray, List.set_cons_succ, List.set_cons_zero]
  refine takeH (i := 12) (some 63) rfl rfl (by kernel_rfl) (by kernel_rfl) (by kernel_rfl) (fun _ _ _ h => h) (yMoveW rfl (.tmp 62) rfl (.bool true) rfl) hS ?_
  simp only [Act.put, List.setIfInBounds_toArray, List.set_cons_succ, List.set_cons_zero]
  refine takeH (i := 13) (some 64) rfl rfl (by kernel_rfl) (by kernel_rfl) (by kernel_rfl) (fun _ _ _ h => h) (yMoveW rfl (.tmp 6) rfl (vp) rfl) hS ?_
  simp only [Act.put, List.setIfInBounds_toArray, List.set_cons_succ, List.set_cons_zero]
  refine takeH (i := 14) (some 65) rfl rfl (by kernel_rfl) (by kernel_rfl) (by kernel_rfl) (fun _ _ _ h => h) (yLen rfl (.tmp 64) rfl vp [Tree.node a b] rfl w19 HV.out.1 1 rfl) hS ?_
  simp only [Act.put, List.setIfInBounds_toArray, List.set_cons_succ, List.set_cons_zero]
  refine takeH (i := 15) (some 66) rfl rfl (by kernel_rfl) (by kernel_rfl) (by kernel_rfl) (fun _ _ _ h => h) (yIntEq rfl (.tmp 65) (.const (.int .i64 1)) rfl .i64 1 rfl rfl) hS ?_
  simp only [Act.put, List.setIfInBounds_toArray, List.set_cons_succ, List.set_cons_zero]
  refine takeH (i := 16) (some 67) rfl rfl (by kernel_rfl) (by kernel_rfl) (by kernel_rfl) (fun _ _ _ h => h) (yPickW rfl (.tmp 63) (.tmp 66) _ rfl rfl (.bool true) rfl) hS ?_
  simp only [Act.put, List.setIfInBounds_toArray, List.set_cons_succ, List.set_cons_zero]
  refine takeH (i := 17) (some 68) rfl rfl (by kernel_rfl) (by kernel_rfl) (by kernel_rfl) (fun _ _ _ h => h) (yMoveW rfl (.tmp 67) rfl (.bool true) rfl) hS ?_
  simp only [Act.put, List.setIfInBounds_toArray, List.set_cons_succ, List.set_cons_zero]
  refine takeH (i := 18) (some 69) rfl rfl (by kernel_rfl) (by kernel_rfl) (by kernel_rfl) (fun _ _ _ h => h) (yMoveW rfl (.tmp 6) rfl (vp) rfl) hS ?_
  simp only [Act.put, List.setIfInBounds_toArray, List.set_cons_succ, List.set_cons_zero]
  refine takeH (i := 19) (some 70) rfl rfl (by kernel_rfl) (by kernel_rfl) (by kernel_rfl) (fun _ _ _ h => h) (yRunW rfl p (fun _ _ => rx_index (.tmp 69) (.const (.int .i64 0)) rfl vp p rfl _ rfl HP.out.1)) hS ?_
  simp only [Act.put, List.setIfInBounds_toArray, List.set_cons_succ, List.set_cons_zero]
  refine takeH (i := 20) (some 71) rfl rfl (by kernel_rfl) (by kernel_rfl) (by kernel_rfl) (fun _ _ _ h => h) (yRunW rfl (hv (Tree.node a b)) (fun W hW => rx_load (.tmp 70) rfl (p) rfl (Tree.node a b) (HQ.out.1.later hW.2))) hS ?_
  simp only [Act.put, List.setIfInBounds_toArray, List.set_cons_succ, List.set_cons_zero]
  refine takeH (i := 21) (some 72) rfl rfl (by kernel_rfl) (by kernel_rfl) (by kernel_rfl) (fun _ _ _ h => h) (yRunW rfl (hv (a)) (fun W hW => rx_load (.tmp 1) rfl (.pointer (some ⟨ga, 0, none⟩)) rfl (a) (hW.1.sh.a.at))) hS ?_
  simp only [Act.put, List.setIfInBounds_toArray, List.set_cons_succ, List.set_cons_zero]
  refine takeH (i := 22) (some 73) rfl rfl (by kernel_rfl) (by kernel_rfl) (by kernel_rfl) (fun _ _ _ h => h) (yRunW rfl (hv (b)) (fun W hW => rx_load (.tmp 2) rfl (.pointer (some ⟨gb, 0, none⟩)) rfl (b) (hW.1.sh.b.at))) hS ?_
  simp only [Act.put, List.setIfInBounds_toArray, List.set_cons_succ, List.set_cons_zero]
  refine oneH (i := 23) (by kernel_rfl) ?_
  refine opCallW (some 74) rfl rfl rfl 14 _ (run_call en14 [.tmp 72, .tmp 73] _ rfl [hv a, hv b] rfl) ?_
  refine (node_any a b HA.out HB.out _ (ht.later hS.1.sh.bl) (hst.later hS.1.sh.bl)).mono ?_
  rintro e w20 ⟨rfl, bb⟩
  have hS' : ShS w ga gb gc gn gr G a b c vp vq vg w20 ∧ Below w19.heap.size w19 w20 := ⟨hS.1.next bb, below_append hS.2 bb⟩
  refine ⟨_, rfl, hS', ?_⟩
  clear hS bb
  have hS := hS'
  clear hS'
  simp only [Act.put, List.setIfInBounds_toArray, List.set_cons_succ, List.set_cons_zero]
  refine takeH (i := 24) (some 75) rfl rfl (by kernel_rfl) (by kernel_rfl) (by kernel_rfl) (fun _ _ _ h => h) (yRunW rfl (.bool true) (fun _ _ => rx_same (.tmp 71) (.tmp 74) rfl (Tree.node a b) (node_isH _ _) rfl rfl)) hS ?_
  simp only [Act.put, List.setIfInBounds_toArray, List.set_cons_succ, List.set_cons_zero]
  refine takeH (i := 25) (some 76) rfl rfl (by kernel_rfl) (by kernel_rfl) (by kernel_rfl) (fun _ _ _ h => h) (yPickW rfl (.tmp 68) (.tmp 75) _ rfl rfl (.bool true) rfl) hS ?_
  simp only [Act.put, List.setIfInBounds_toArray, List.set_cons_succ, List.set_cons_zero]
  refine takeH (i := 26) (some 77) rfl rfl (by kernel_rfl) (by kernel_rfl) (by kernel_rfl) (fun _ _ _ h => h) (yMoveW rfl (.tmp 76) rfl (.bool true) rfl) hS ?_
  simp only [Act.put, List.setIfInBounds_toArray, List.set_cons_succ, List.set_cons_zero]
  refine takeH (i := 27) (some 78) rfl rfl (by kernel_rfl) (by kernel_rfl) (by kernel_rfl) (fun _ _ _ h => h) (yMoveW rfl (.tmp 9) rfl (.int .i64 (0)) rfl) hS ?_
  simp only [Act.put, List.setIfInBounds_toArray, List.set_cons_succ, List.set_cons_zero]
  refine takeH (i := 28) (some 79) rfl rfl (by kernel_rfl) (by kernel_rfl) (by kernel_rfl) (fun _ _ _ h => h) (yIntEq rfl (.tmp 78) (.const (.int .i64 0)) rfl .i64 0 rfl rfl) hS ?_
  simp only [Act.put, List.setIfInBounds_toArray, List.set_cons_succ, List.set_cons_zero]
  refine takeH (i := 29) (some 80) rfl rfl (by kernel_rfl) (by kernel_rfl) (by kernel_rfl) (fun _ _ _ h => h) (yPickW rfl (.tmp 77) (.tmp 79) _ rfl rfl (.bool true) rfl) hS ?_
  simp only [Act.put, List.setIfInBounds_toArray, List.set_cons_succ, List.set_cons_zero]
  refine takeH (i := 30) (some 81) rfl rfl (by kernel_rfl) (by kernel_rfl) (by kernel_rfl) (fun _ _ _ h => h) (yMoveW rfl (.tmp 80) rfl (.bool true) rfl) hS ?_
  simp only [Act.put, List.setIfInBounds_toArray, List.set_cons_succ, List.set_cons_zero]
  refine takeH (i := 31) (some 82) rfl rfl (by kernel_rfl) (by kernel_rfl) (by kernel_rfl) (fun _ _ _ h => h) (yMoveW rfl (.tmp 8) rfl (vq) rfl) hS ?_
  simp only [Act.put, List.setIfInBounds_toArray, List.set_cons_succ, List.set_cons_zero]
  refine takeH (i := 32) (some 83) rfl rfl (by kernel_rfl) (by kernel_rfl) (by kernel_rfl) (fun _ _ _ h => h) (yLen rfl (.tmp 82) rfl vq [b, c] rfl w19 HV.out.2 2 rfl) hS ?_
  simp only [Act.put, List.setIfInBounds_toArray, List.set_cons_succ, List.set_cons_zero]
  refine takeH (i := 33) (some 84) rfl rfl (by kernel_rfl) (by kernel_rfl) (by kernel_rfl) (fun _ _ _ h => h) (yIntEq rfl (.tmp 83) (.const (.int .i64 2)) rfl .i64 2 rfl rfl) hS ?_
  simp only [Act.put, List.setIfInBounds_toArray, List.set_cons_succ, List.set_cons_zero]
  refine takeH (i := 34) (some 85) rfl rfl (by kernel_rfl) (by kernel_rfl) (by kernel_rfl) (fun _ _ _ h => h) (yPickW rfl (.tmp 81) (.tmp 84) _ rfl rfl (.bool true) rfl) hS ?_
  simp only [Act.put, List.setIfInBounds_toArray, List.set_cons_succ, List.set_cons_zero]
  refine takeH (i := 35) (some 86) rfl rfl (by kernel_rfl) (by kernel_rfl) (by kernel_rfl) (fun _ _ _ h => h) (yMoveW rfl (.tmp 85) rfl (.bool true) rfl) hS ?_
  simp only [Act.put, List.setIfInBounds_toArray, List.set_cons_succ, List.set_cons_zero]
  refine takeH (i := 36) (some 87) rfl rfl (by kernel_rfl) (by kernel_rfl) (by kernel_rfl) (fun _ _ _ h => h) (yMoveW rfl (.tmp 8) rfl (vq) rfl) hS ?_
  simp only [Act.put, List.setIfInBounds_toArray, List.set_cons_succ, List.set_cons_zero]
  refine takeH (i := 37) (some 88) rfl rfl (by kernel_rfl) (by kernel_rfl) (by kernel_rfl) (fun _ _ _ h => h) (yRunW rfl p0 (fun _ _ => rx_index (.tmp 87) (.const (.int .i64 0)) rfl vq p0 rfl _ rfl HP.out.2.1)) hS ?_
  simp only [Act.put, List.setIfInBounds_toArray, List.set_cons_succ, List.set_cons_zero]
  refine takeH (i := 38) (some 89) rfl rfl (by kernel_rfl) (by kernel_rfl) (by kernel_rfl) (fun _ _ _ h => h) (yRunW rfl (hv (b)) (fun W hW => rx_load (.tmp 88) rfl (p0) rfl (b) (HQ.out.2.1.later hW.2))) hS ?_
  simp only [Act.put, List.setIfInBounds_toArray, List.set_cons_succ, List.set_cons_zero]
  refine takeH (i := 39) (some 90) rfl rfl (by kernel_rfl) (by kernel_rfl) (by kernel_rfl) (fun _ _ _ h => h) (yRunW rfl (hv (b)) (fun W hW => rx_load (.tmp 2) rfl (.pointer (some ⟨gb, 0, none⟩)) rfl (b) (hW.1.sh.b.at))) hS ?_
  simp only [Act.put, List.setIfInBounds_toArray, List.set_cons_succ, List.set_cons_zero]
  refine takeH (i := 40) (some 91) rfl rfl (by kernel_rfl) (by kernel_rfl) (by kernel_rfl) (fun _ _ _ h => h) (yRunW rfl (.bool true) (fun _ _ => rx_same (.tmp 89) (.tmp 90) rfl (b) (HB.out) rfl rfl)) hS ?_
  simp only [Act.put, List.setIfInBounds_toArray, List.set_cons_succ, List.set_cons_zero]
  refine takeH (i := 41) (some 92) rfl rfl (by kernel_rfl) (by kernel_rfl) (by kernel_rfl) (fun _ _ _ h => h) (yPickW rfl (.tmp 86) (.tmp 91) _ rfl rfl (.bool true) rfl) hS ?_
  simp only [Act.put, List.setIfInBounds_toArray, List.set_cons_succ, List.set_cons_zero]
  refine takeH (i := 42) (some 93) rfl rfl (by kernel_rfl) (by kernel_rfl) (by kernel_rfl) (fun _ _ _ h => h) (yMoveW rfl (.tmp 92) rfl (.bool true) rfl) hS ?_
  simp only [Act.put, List.setIfInBounds_toArray, List.set_cons_succ, List.set_cons_zero]
  refine takeH (i := 43) (some 94) rfl rfl (by kernel_rfl) (by kernel_rfl) (by kernel_rfl) (fun _ _ _ h => h) (yMoveW rfl (.tmp 8) rfl (vq) rfl) hS ?_
  simp only [Act.put, List.setIfInBounds_toArray, List.set_cons_succ, List.set_cons_zero]
  refine takeH (i := 44) (some 95) rfl rfl (by kernel_rfl) (by kernel_rfl) (by kernel_rfl) (fun _ _ _ h => h) (yRunW rfl p1 (fun _ _ => rx_index (.tmp 94) (.const (.int .i64 1)) rfl vq p1 rfl _ rfl HP.out.2.2)) hS ?_
  simp only [Act.put, List.setIfInBounds_toArray, List.set_cons_succ, List.set_cons_zero]
  refine takeH (i := 45) (some 96) rfl rfl (by kernel_rfl) (by kernel_rfl) (by kernel_rfl) (fun _ _ _ h => h) (yRunW rfl (hv (c)) (fun W hW => rx_load (.tmp 95) rfl (p1) rfl (c) (HQ.out.2.2.later hW.2))) hS ?_
  simp only [Act.put, List.setIfInBounds_toArray, List.set_cons_succ, List.set_cons_zero]
  refine takeH (i := 46) (some 97) rfl rfl (by kernel_rfl) (by kernel_rfl) (by kernel_rfl) (fun _ _ _ h => h) (yRunW rfl (hv (c)) (fun W hW => rx_load (.tmp 3) rfl (.pointer (some ⟨gc, 0, none⟩)) rfl (c) (hW.1.sh.c.at))) hS ?_
  simp only [Act.put, List.setIfInBounds_toArray, List.set_cons_succ, List.set_cons_zero]
  refine takeH (i := 47) (some 98) rfl rfl (by kernel_rfl) (by kernel_rfl) (by kernel_rfl) (fun _ _ _ h => h) (yRunW rfl (.bool true) (fun _ _ => rx_same (.tmp 96) (.tmp 97) rfl (c) (HC.out) rfl rfl)) hS ?_
  simp only [Act.put, List.setIfInBounds_toArray, List.set_cons_succ, List.set_cons_zero]
  refine takeH (i := 48) (some 99) rfl rfl (by kernel_rfl) (by kernel_rfl) (by kernel_rfl) (fun _ _ _ h => h) (yPickW rfl (.tmp 93) (.tmp 98) _ rfl rfl (.bool true) rfl) hS ?_
  simp only [Act.put, List.setIfInBounds_toArray, List.set_cons_succ, List.set_cons_zero]
  refine takeH (i := 49) (some 100) rfl rfl (by kernel_rfl) (by kernel_rfl) (by kernel_rfl) (fun _ _ _ h => h) (yMoveW rfl (.tmp 99) rfl (.bool true) rfl) hS ?_
  simp only [Act.put, List.setIfInBounds_toArray, List.set_cons_succ, List.set_cons_zero]
  refine takeH (i := 50) (some 101) rfl rfl (by kernel_rfl) (by kernel_rfl) (by kernel_rfl) (fun _ _ _ h => h) (yMoveW rfl (.tmp 11) rfl (.int .i64 (50)) rfl) hS ?_
  simp only [Act.put, List.setIfInBounds_toArray, List.set_cons_succ, List.set_cons_zero]
  refine takeH (i := 51) (some 102) rfl rfl (by kernel_rfl) (by kernel_rfl) (by kernel_rfl) (fun _ _ _ h => h) (yIntEq rfl (.tmp 101) (.const (.int .i64 50)) rfl .i64 50 rfl rfl) hS ?_
  simp only [Act.put, List.setIfInBounds_toArray, List.set_cons_succ, List.set_cons_zero]
  refine takeH (i := 52) (some 103) rfl rfl (by kernel_rfl) (by kernel_rfl) (by kernel_rfl) (fun _ _ _ h => h) (yPickW rfl (.tmp 100) (.tmp 102) _ rfl rfl (.bool true) rfl) hS ?_
  simp only [Act.put, List.setIfInBounds_toArray, List.set_cons_succ, List.set_cons_zero]
  refine takeH (i := 53) (some 104) rfl rfl (by kernel_rfl) (by kernel_rfl) (by kernel_rfl) (fun _ _ _ h => h) (yMoveW rfl (.tmp 103) rfl (.bool true) rfl) hS ?_
  simp only [Act.put, List.setIfInBounds_toArray, List.set_cons_succ, List.set_cons_zero]
  refine takeH (i := 54) (some 105) rfl rfl (by kernel_rfl) (by kernel_rfl) (by kernel_rfl) (fun _ _ _ h => h) (yRunW rfl (hv (Tree.node (Tree.node a b) c)) (fun W hW => rx_load (.tmp 12) rfl (.pointer (some ⟨gr, 0, none⟩)) rfl (Tree.node (Tree.node a b) c) (hW.1.r.at))) hS ?_
  simp only [Act.put, List.setIfInBounds_toArray, List.set_cons_succ, List.set_cons_zero]
  refine takeH (i := 55) (some 106) rfl rfl (by kernel_rfl) (by kernel_rfl) (by kernel_rfl) (fun _ _ _ h => h) (yRunW rfl (hv (a)) (fun W hW => rx_load (.tmp 1) rfl (.pointer (some ⟨ga, 0, none⟩)) rfl (a) (hW.1.sh.a.at))) hS ?_
  simp only [Act.put, List.setIfInBounds_toArray, List.set_cons_succ, List.set_cons_zero]
  refine takeH (i := 56) (some 107) rfl rfl (by kernel_rfl) (by kernel_rfl) (by kernel_rfl) (fun _ _ _ h => h) (yRunW rfl (hv (b)) (fun W hW => rx_load (.tmp 2) rfl (.pointer (some ⟨gb, 0, none⟩)) rfl (b) (hW.1.sh.b.at))) hS ?_
  simp only [Act.put, List.setIfInBounds_toArray, List.set_cons_succ, List.set_cons_zero]
  refine takeH (i := 58) (some 109) rfl rfl (by kernel_rfl) (by kernel_rfl) (by kernel_rfl) (fun _ _ _ h => h) (yRunW rfl (hv (c)) (fun W hW => rx_load (.tmp 3) rfl (.pointer (some ⟨gc, 0, none⟩)) rfl (c) (hW.1.sh.c.at))) hS ?_
  simp only [Act.put, List.setIfInBounds_toArray, List.set_cons_succ, List.set_cons_zero]
  refine oneH (i := 57) (by kernel_rfl) ?_
  refine opCallW (some 108) rfl rfl rfl 14 _ (run_call en14 [.tmp 106, .tmp 107] _ rfl [hv a, hv b] rfl) ?_
  refine (node_any a b HA.out HB.out _ (ht.later hS.1.sh.bl) (hst.later hS.1.sh.bl)).mono ?_
  rintro e w21 ⟨rfl, bb⟩
  have hS' : ShS w ga gb gc gn gr G a b c vp vq vg w21 ∧ Below w19.heap.size w19 w21 := ⟨hS.1.next bb, below_append hS.2 bb⟩
  refine ⟨_, rfl, hS', ?_⟩
  clear hS bb
  have hS := hS'
  clear hS'
  simp only [Act.put, List.setIfInBounds_toArray, List.set_cons_succ, List.set_cons_zero]
  refine oneH (i := 59) (by kernel_rfl) ?_
  refine opCallW (some 110) rfl rfl rfl 14 _ (run_call en14 [.tmp 108, .tmp 109] _ rfl [hv (Tree.node a b), hv c] rfl) ?_
  refine (node_any (Tree.node a b) c (node_isH _ _) HC.out _ (ht.later hS.1.sh.bl) (hst.later hS.1.sh.bl)).mono ?_
  rintro e w22 ⟨rfl, bb⟩
  have hS' : ShS w ga gb gc gn gr G a b c vp vq vg w22 ∧ Below w19.heap.size w19 w22 := ⟨hS.1.next bb, below_append hS.2 bb⟩
  refine ⟨_, rfl, hS', ?_⟩
  clear hS bb
  have hS := hS'
  clear hS'
  simp only [Act.put, List.setIfInBounds_toArray, List.set_cons_succ, List.set_cons_zero]
  refine takeH (i := 60) (some 111) rfl rfl (by kernel_rfl) (by kernel_rfl) (by kernel_rfl) (fun _ _ _ h => h) (yRunW rfl (.bool true) (fun _ _ => rx_same (.tmp 105) (.tmp 110) rfl (Tree.node (Tree.node a b) c) (node_isH _ _) rfl rfl)) hS ?_
  simp only [Act.put, List.setIfInBounds_toArray, List.set_cons_succ, List.set_cons_zero]
  refine takeH (i := 61) (some 112) rfl rfl (by kernel_rfl) (by kernel_rfl) (by kernel_rfl) (fun _ _ _ h => h) (yPickW rfl (.tmp 104) (.tmp 111) _ rfl rfl (.bool true) rfl) hS ?_
  simp only [Act.put, List.setIfInBounds_toArray, List.set_cons_succ, List.set_cons_zero]
  refine takeH (i := 62) (some 113) rfl rfl (by kernel_rfl) (by kernel_rfl) (by kernel_rfl) (fun _ _ _ h => h) (yMoveW rfl (.tmp 112) rfl (.bool true) rfl) hS ?_
  simp only [Act.put, List.setIfInBounds_toArray, List.set_cons_succ, List.set_cons_zero]
  refine takeH (i := 63) (some 114) rfl rfl (by kernel_rfl) (by kernel_rfl) (by kernel_rfl) (fun _ _ _ h => h) (yMoveW rfl (.tmp 13) rfl (.pointer (some ⟨G, 0, none⟩)) rfl) hS ?_
  simp only [Act.put, List.setIfInBounds_toArray, List.set_cons_succ, List.set_cons_zero]
  refine takeH (i := 65) (some 116) rfl rfl (by kernel_rfl) (by kernel_rfl) (by kernel_rfl) (fun _ _ _ h => h) (yRunW rfl (hv (a)) (fun W hW => rx_load (.tmp 1) rfl (.pointer (some ⟨ga, 0, none⟩)) rfl (a) (hW.1.sh.a.at))) hS ?_
  simp only [Act.put, List.setIfInBounds_toArray, List.set_cons_succ, List.set_cons_zero]
  refine oneH (i := 64) (by kernel_rfl) ?_
  refine opCallW (some 115) rfl rfl rfl 23 _ (run_call en23 [.tmp 114] _ rfl [.pointer (some ⟨G, 0, none⟩)] rfl) ?_
  refine (rootOne _ hS.1.g (ht.later hS.1.sh.bl) (hst.later hS.1.sh.bl)).mono ?_
  rintro e w23 ⟨rfl, bb⟩
  have hS' : ShS w ga gb gc gn gr G a b c vp vq vg w23 ∧ Below w19.heap.size w19 w23 := ⟨hS.1.next bb, below_append hS.2 bb⟩
  refine ⟨_, rfl, hS', ?_⟩
  clear hS bb
  have hS := hS'
  clear hS'
  simp only [Act.put, List.setIfInBounds_toArray, List.set_cons_succ, List.set_cons_zero]
  refine takeH (i := 66) (some 117) rfl rfl (by kernel_rfl) (by kernel_rfl) (by kernel_rfl) (fun _ _ _ h => h) (yRunW rfl (.bool true) (fun _ _ => rx_same (.tmp 115) (.tmp 116) rfl (a) (HA.out) rfl rfl)) hS ?_
  simp only [Act.put, List.setIfInBounds_toArray, List.set_cons_succ, List.set_cons_zero]
  refine takeH (i := 67) (some 118) rfl rfl (by kernel_rfl) (by kernel_rfl) (by kernel_rfl) (fun _ _ _ h => h) (yPickW rfl (.tmp 113) (.tmp 117) _ rfl rfl (.bool true) rfl) hS ?_
  simp only [Act.put, List.setIfInBounds_toArray, List.set_cons_succ, List.set_cons_zero]
  refine takeH (i := 68) (some 119) rfl rfl (by kernel_rfl) (by kernel_rfl) (by kernel_rfl) (fun _ _ _ h => h) (yMoveW rfl (.tmp 118) rfl (.bool true) rfl) hS ?_
  simp only [Act.put, List.setIfInBounds_toArray, List.set_cons_succ, List.set_cons_zero]
  refine takeH (i := 69) (some 120) rfl rfl (by kernel_rfl) (by kernel_rfl) (by kernel_rfl) (fun _ _ _ h => h) (yMoveW rfl (.tmp 13) rfl (.pointer (some ⟨G, 0, none⟩)) rfl) hS ?_
  simp only [Act.put, List.setIfInBounds_toArray, List.set_cons_succ, List.set_cons_zero]
  refine oneH (i := 70) (by kernel_rfl) ?_
  refine opCallW (some 121) rfl rfl rfl 22 _ (run_call en22 [.tmp 120] _ rfl [.pointer (some ⟨G, 0, none⟩)] rfl) ?_
  refine (growSize_any G vg [a] w23 hS.1.g).mono ?_
  rintro e w24 ⟨rfl, rfl⟩
  refine ⟨_, rfl, hS, ?_⟩
  simp only [Act.put, List.setIfInBounds_toArray, List.set_cons_succ, List.set_cons_zero]
  refine takeH (i := 71) (some 122) rfl rfl (by kernel_rfl) (by kernel_rfl) (by kernel_rfl) (fun _ _ _ h => h) (yIntEq rfl (.tmp 121) (.const (.int .i64 1)) rfl .i64 1 rfl rfl) hS ?_
  simp only [Act.put, List.setIfInBounds_toArray, List.set_cons_succ, List.set_cons_zero]
  refine takeH (i := 72) (some 123) rfl rfl (by kernel_rfl) (by kernel_rfl) (by kernel_rfl) (fun _ _ _ h => h) (yPickW rfl (.tmp 119) (.tmp 122) _ rfl rfl (.bool true) rfl) hS ?_
  simp only [Act.put, List.setIfInBounds_toArray, List.set_cons_succ, List.set_cons_zero]
  refine takeH (i := 73) (some 0) rfl rfl (by kernel_rfl) (by kernel_rfl) (by kernel_rfl) (fun _ _ _ h => h) (yAssign rfl (.tmp 123) rfl (.bool true) rfl) hS ?_
  simp only [Act.put, List.setIfInBounds_toArray, List.set_cons_zero]
  refine wpAnyH_done (by kernel_rfl) ?_ _
  have HB9 : Hid (Below w.heap.size w w23) := hS.1.sh.bl
  clear hS
  go_wp2_with fail
  go_ret
  exact ⟨rfl, HB9.out⟩
end Go.Proofs.YtmjbjepmnjocjaaDoor

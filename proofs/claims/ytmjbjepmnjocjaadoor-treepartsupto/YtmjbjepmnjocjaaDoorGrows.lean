/- The law TreeGrows, walked out of its callees' contracts. -/
import Derived.Test.YtmjbjepmnjocjaaDoorShown
namespace Go.Proofs.YtmjbjepmnjocjaaDoor
open Go.RowKit

section
variable {ops : Array Oper} {a : Act} {S : World → Prop} {o : Oper} {w : World}
theorem yIntNe {t : Nat} (hw : Region.wanted o (yielded ops a.tmps) = true) (x y : Operand) (ho : o.op = .binOp .neq t x y t) (k : IntKind) (z : Int) (hx : a.eval x = .int k z) (hy : a.eval y = .int k z) : YieldsIf Tryd.prog ops S o (.bool false) a :=
  yRunW hw _ fun w _ => by
    simp only [execOp, ho, hx, hy]
    simp [go_sem]
theorem rx_diff (x y : Operand) (ho : o.op = .binOp .neq 27 x y 27) (h : List Nat) (hh : IsH h) (hx : a.eval x = hv h) (hy : a.eval y = hv h) : (execOp a.eval o).run Tryd.prog w = .ok (.value (.bool false)) w := by
  have := rx_ne (w := w) x y ho h h hh hh hx hy
  rwa [decide_eq_true rfl] at this
end
/-- the Grow has taken the first m; the row is as it was -/
structure GrS (w3 : World) (G B : Nat) (vh : Value) (hs : List (List Nat)) (m : Nat) (W : World) : Prop where
  g : ∃ vg, GrowAt W G vg (hs.take m) ∧ ∀ k, vg.ownBlock = some k → w3.heap.size ≤ k
  only : Only G w3 W
  row : HOwn W B vh hs
theorem GrS.next {w3 W W' : World} {G B : Nat} {vh : Value} {hs : List (List Nat)} {m : Nat} (h : GrS w3 G B vh hs m W) (hb : Below W.heap.size W W') : GrS w3 G B vh hs m W' := by
  obtain ⟨⟨vg, hg, hk⟩, ho, hr⟩ := h
  exact ⟨⟨vg, hg.below hb, hk⟩, ho.trans (Only.of_below hb), hr.later hb (Nat.le_refl _)⟩
theorem GrS.tab {w3 W : World} {G B : Nat} {vh : Value} {hs : List (List Nat)} {m : Nat} (h : GrS w3 G B vh hs m W) (hg : 1 < G) (ht : TabIn w3) : TabIn W := h.only.tab hg ht
theorem GrS.start {w3 W : World} {G B : Nat} {vh : Value} {hs : List (List Nat)} {m : Nat} (h : GrS w3 G B vh hs m W) (hg : 1 < G) (ht : StartIn w3) : StartIn W := h.only.startIn hg ht
/-- the first m of the row -/
theorem GrS.sub {w3 W : World} {G B : Nat} {vh vt : Value} {hs : List (List Nat)} {m : Nat} (h : GrS w3 G B vh hs m W) (he : ∀ w', (Instr.slice 24 vh none (some (.int .i64 (m : Nat))) none).run Tryd.prog w' = .ok vt w') (hl : m ≤ hs.length) : HIn W vt (hs.take m) := by
  obtain ⟨v', hr, hv'⟩ := run_hto h.row.hin m hl
  have e := hr W
  rw [he W] at e
  injection e with e1 e2
  rw [e1]
  exact hv'
set_option maxHeartbeats 4000000 in
set_option maxRecDepth 100000 in
theorem treeGrows_any (vl : Value) (ls : List Nat) (w : World) (hl : SliceIn w vl ls) (ht : TabIn w) (hst : StartIn w) (hll : ls.length ≤ 1048576) :
    Calls Tryd.prog 5 #[vl] w fun e w' => e = .returned (.bool true) ∧ Below w.heap.size w w' := by
  have h1lt := ht.lt
  go_enter Tryd.func5, Tryd.ntmps5
  go_wp2_with fail
  refine (shown_any w ht hst).mono ?_
  rintro e w1 ⟨rfl, b1⟩
  have R1 : Hid (Below w.heap.size w w1) := b1
  clear b1
  go_wp2_with fail
  refine (newGrow_any w1).mono ?_
  rintro e w2 ⟨rfl, g2, b2⟩
  obtain ⟨G, hG⟩ : ∃ G, G = w1.heap.size := ⟨_, rfl⟩
  rw [← hG] at g2 ⊢
  have HG : Hid (1 < G ∧ w.heap.size ≤ G ∧ G < w2.heap.size) := ⟨by have := R1.out.size; omega, by have := R1.out.size; omega, g2.2.1.lt⟩
  have R2 : Hid (GrowAt w2 G (.slice none 0 0) [] ∧ Below w.heap.size w w2) := ⟨g2, below_append R1.out (hG ▸ b2)⟩
  clear g2 b2 hG R1
  go_wp2_with fail
  refine (leaves_any vl ls w2 (hl.later R2.out.2) (by omega)).mono ?_
  rintro e w3 ⟨vh, rfl, o3, b3⟩
  obtain ⟨n, hn⟩ : ∃ n, n = ls.length := ⟨_, rfl⟩
  have HL0 : Hid ((lv ls ls.length).length = n) := by show _ = _; rw [lv_length, hn]
  have hn20 : n ≤ 1048576 := by omega
  have HAL : Hid (AllH (lv ls ls.length)) := lv_all _ _
  generalize lv ls ls.length = hs at o3 HL0 HAL
  have HHs : Hid (hs.length = n) := HL0.out
  obtain ⟨w2s, hw2s⟩ : ∃ w2s, w2s = w2.heap.size := ⟨_, rfl⟩
  have HI0 : Hid (GrS w3 G w2s vh hs 0 w3) := ⟨⟨.slice none 0 0, by rw [List.take_zero]; exact R2.out.1.below b3, fun k hk => by cases hk⟩, Only.refl _ _, hw2s ▸ o3⟩
  have HGB : Hid (G < w2s) := by show _ < _; rw [hw2s]; exact HG.out.2.2
  have R3 : Hid (HOwn w3 w2s vh hs ∧ Below w.heap.size w w3 ∧ TabIn w3 ∧ StartIn w3) := ⟨hw2s ▸ o3, below_append R2.out.2 b3, ht.later (below_append R2.out.2 b3), hst.later (below_append R2.out.2 b3)⟩
  clear o3 b3 R2 hn hw2s HL0
  have hin := R3.out.1.hin
  go_wp2_with fail
  go_loopw [6] (fun i W => ∃ m : Nat, m ≤ n + 1 ∧ m ≤ 80 ∧ i = .int .i64 (m : Nat) ∧ GrS w3 G w2s vh hs (min m n) W) (fun i _ => 81 - (intOf i).toNat)
  case atStart => exact ⟨0, by omega, by omega, rfl, by rw [Nat.zero_min]; exact HI0.out⟩
  case round =>
    clear HI0
    obtain ⟨m, hm, hm80, rfl, hgr⟩ := hrel
    by_cases hgo : m ≤ n ∧ m < 80
    · have hgo1 : (m : Int) ≤ (n : Int) := by omega
      have hgo2 : (m : Int) < 80 := by omega
      rw [Nat.min_eq_left hgo.1] at hgr
      obtain ⟨vt, hvt, _⟩ := run_hto hgr.row.hin m (by have := HHs.out; omega)
      have HI : Hid (GrS w3 G w2s vh hs m wr) := hgr
      have HE : Hid (∀ w', (Instr.slice 24 vh none (some (.int .i64 (m : Nat))) none).run Tryd.prog w' = .ok vt w') := hvt
      have LT : Hid ((hs.take m).length = m) := by show _ = _; rw [List.length_take, HHs.out]; omega
      have HRT : Hid (IsH (Tree.root (hs.take m))) := (HAL.out.take m).root
      clear hgr hvt
      go_wp2_with ((first
        | (refine wl_lenN (.tmp 18) rfl rfl vh hs rfl hin n HHs.out ?_)); try simp only [Act.put, List.setIfInBounds_toArray, List.set_cons_succ, List.set_cons_zero])
      refine wp_region_held (S := GrS w3 G w2s vh hs m) (by kernel_rfl) ?_
      show wpAnyH _ _ _ _ _ 13 (Array.replicate 13 false) _ _
      have hS : GrS w3 G w2s vh hs m { wr with drawn := wr.drawn + 1 } := HI.out.next (below_drawn wr _)
      clear HI
      refine takeH (i := 0) (some 27) rfl rfl (by kernel_rfl) (by kernel_rfl) (by kernel_rfl) (fun _ _ _ h => h) (yMoveW rfl (.tmp 4) rfl (.pointer (some ⟨G, 0, none⟩)) rfl) hS ?_
      simp only [Act.put, List.setIfInBounds_toArray, List.set_cons_succ, List.set_cons_zero]
      refine takeH (i := 2) (some 29) rfl rfl (by kernel_rfl) (by kernel_rfl) (by kernel_rfl) (fun _ _ _ h => h) (yMoveW rfl (.tmp 6) rfl (.int .i64 (m : Nat)) rfl) hS ?_
      simp only [Act.put, List.setIfInBounds_toArray, List.set_cons_succ, List.set_cons_zero]
      refine oneH (i := 1) (by kernel_rfl) ?_
      refine opCallW (some 28) rfl rfl rfl 22 _ (run_call en22 [.tmp 27] _ rfl [.pointer (some ⟨G, 0, none⟩)] rfl) ?_
      obtain ⟨vg, hvg, hvb⟩ := hS.g
      refine (growSize_any G vg (hs.take m) _ hvg).mono ?_
      rintro e w5 ⟨rfl, hw5⟩
      rw [← hw5]
      rw [LT.out]
      refine ⟨_, rfl, hS, ?_⟩
      clear hw5 hvg hvb
      simp only [Act.put, List.setIfInBounds_toArray, List.set_cons_succ, List.set_cons_zero]
      refine takeH (i := 3) (some 30) rfl rfl (by kernel_rfl) (by kernel_rfl) (by kernel_rfl) (fun _ _ _ h => h) (yIntNe rfl (.tmp 28) (.tmp 29) rfl .i64 (m : Nat) rfl rfl) hS ?_
      simp only [Act.put, List.setIfInBounds_toArray, List.set_cons_succ, List.set_cons_zero]
      refine takeH (i := 4) (some 31) rfl rfl (by kernel_rfl) (by kernel_rfl) (by kernel_rfl) (fun _ _ _ h => h) (yMoveW rfl (.tmp 30) rfl (.bool false) rfl) hS ?_
      simp only [Act.put, List.setIfInBounds_toArray, List.set_cons_succ, List.set_cons_zero]
      refine takeH (i := 5) (some 32) rfl rfl (by kernel_rfl) (by kernel_rfl) (by kernel_rfl) (fun _ _ _ h => h) (yMoveW rfl (.tmp 4) rfl (.pointer (some ⟨G, 0, none⟩)) rfl) hS ?_
      simp only [Act.put, List.setIfInBounds_toArray, List.set_cons_succ, List.set_cons_zero]
      refine takeH (i := 7) (some 34) rfl rfl (by kernel_rfl) (by kernel_rfl) (by kernel_rfl) (fun _ _ _ h => h) (yMoveW rfl (.tmp 5) rfl (vh) rfl) hS ?_
      simp only [Act.put, List.setIfInBounds_toArray, List.set_cons_succ, List.set_cons_zero]
      refine takeH (i := 8) (some 35) rfl rfl (by kernel_rfl) (by kernel_rfl) (by kernel_rfl) (fun _ _ _ h => h) (yMoveW rfl (.tmp 6) rfl (.int .i64 (m : Nat)) rfl) hS ?_
      simp only [Act.put, List.setIfInBounds_toArray, List.set_cons_succ, List.set_cons_zero]
      refine takeH (i := 9) (some 36) rfl rfl (by kernel_rfl) (by kernel_rfl) (by kernel_rfl) (fun _ _ _ h => h) (yRunW rfl vt (fun _ _ => rx_sub (.tmp 34) none (some (.tmp 35)) rfl vh vt rfl HE.out)) hS ?_
      simp only [Act.put, List.setIfInBounds_toArray, List.set_cons_succ, List.set_cons_zero]
      refine oneH (i := 6) (by kernel_rfl) ?_
      refine opCallW (some 33) rfl rfl rfl 23 _ (run_call en23 [.tmp 32] _ rfl [.pointer (some ⟨G, 0, none⟩)] rfl) ?_
      obtain ⟨vg, hvg, hvb⟩ := hS.g
      refine (growRoot_any G vg (hs.take m) _ hvg (hS.tab HG.out.1 R3.out.2.2.1) (hS.start HG.out.1 R3.out.2.2.2) (by rw [LT.out]; omega)).mono ?_
      rintro e w6 ⟨rfl, bb⟩
      have hS' : GrS w3 G w2s vh hs m w6 := hS.next bb
      refine ⟨_, rfl, hS', ?_⟩
      clear hS bb hvg hvb
      have hS := hS'
      clear hS'
      simp only [Act.put, List.setIfInBounds_toArray, List.set_cons_succ, List.set_cons_zero]
      refine oneH (i := 10) (by kernel_rfl) ?_
      refine opCallW (some 37) rfl rfl rfl 13 _ (run_call en13 [.tmp 36] _ rfl [vt] rfl) ?_
      refine (refRoot_any _ vt (hs.take m) _ LT.out (by omega) (hS.sub HE.out (by have := HHs.out; omega))).mono ?_
      rintro e w7 ⟨rfl, bb⟩
      have hS' : GrS w3 G w2s vh hs m w7 := hS.next bb
      refine ⟨_, rfl, hS', ?_⟩
      clear hS bb
      have hS := hS'
      clear hS'
      simp only [Act.put, List.setIfInBounds_toArray, List.set_cons_succ, List.set_cons_zero]
      refine takeH (i := 11) (some 38) rfl rfl (by kernel_rfl) (by kernel_rfl) (by kernel_rfl) (fun _ _ _ h => h) (yRunW rfl (.bool false) (fun _ _ => rx_diff (.tmp 33) (.tmp 37) rfl (Tree.root (hs.take m)) HRT.out rfl rfl)) hS ?_
      simp only [Act.put, List.setIfInBounds_toArray, List.set_cons_succ, List.set_cons_zero]
      refine takeH (i := 12) (some 39) rfl rfl (by kernel_rfl) (by kernel_rfl) (by kernel_rfl) (fun _ _ _ h => h) (yPickF rfl (.tmp 31) _ (.tmp 38) rfl rfl (.bool false) rfl) hS ?_
      simp only [Act.put, List.setIfInBounds_toArray, List.set_cons_succ, List.set_cons_zero]
      refine wpAnyH_done (by kernel_rfl) ?_ _
      have HI : Hid (GrS w3 G w2s vh hs m w7) := hS
      clear hS
      by_cases hlt : m < n
      · have hlt' : (m : Int) < (n : Int) := by omega
        have HX : Hid (IsH (hs.getD m []) ∧ hs.take (m + 1) = hs.take m ++ [hs.getD m []]) := by
          have hml : m < hs.length := by have := HHs.out; omega
          refine ⟨HAL.out.at m hml, ?_⟩
          rw [List.take_succ_eq_append_getElem hml]
          simp [hml]
        generalize hx : hs.getD m [] = x at HX
        have HXE : Hid (hs.getD m [] = x) := hx
        clear hx
        go_wp2_with ((first
          | (refine wl_lenN (.tmp 41) rfl rfl vh hs rfl hin n HHs.out ?_)
          | (refine wl_index (.tmp 45) (.tmp 46) rfl rfl vh hs rfl HI.out.row.hin _ m rfl rfl (by have := HHs.out; omega) ?_; intro p hp; rw [HXE.out] at hp; have HP : Hid (HAt w7 p x) := hp; clear hp)
          | (refine wl_load (.tmp 47) rfl rfl p rfl x HP.out ?_)); try simp only [Act.put, List.setIfInBounds_toArray, List.set_cons_succ, List.set_cons_zero])
        obtain ⟨vg, hvg, hvb⟩ := HI.out.g
        have HVB : Hid (∀ k, vg.ownBlock = some k → w3.heap.size ≤ k) := hvb
        refine (add_any G vg (hs.take m) x w7 hvg HX.out.1 (HI.out.tab HG.out.1 R3.out.2.2.1) (HI.out.start HG.out.1 R3.out.2.2.2) HG.out.1 (by rw [LT.out]; omega)).mono ?_
        rintro e w8 ⟨rfl, vg', g8, k8, l8⟩
        have HJ : Hid (GrS w3 G w2s vh hs (m + 1) w8) := by
          have hon : Only G w3 w8 := ⟨k8.os.trans HI.out.only.os, k8.tape.trans HI.out.only.tape, k8.output.trans HI.out.only.output, Nat.le_trans HI.out.only.size k8.size, fun i hi hig => (k8.block i (Nat.lt_of_lt_of_le hi HI.out.only.size) hig (fun e => by have := HVB.out i e; omega)).trans (HI.out.only.block i hi hig)⟩
          refine ⟨⟨vg', by rw [HX.out.2]; exact g8, ?_⟩, hon, R3.out.1.only hon HGB.out⟩
          rcases l8 with l | l
          · rw [l]
            exact HVB.out
          · exact fun k hk => Nat.le_trans HI.out.only.size (l k hk)
        clear g8 k8 l8 hvg hvb HI
        go_wp2_with fail
        exact ⟨⟨m + 1, by omega, by omega, by go_num, by rw [Nat.min_eq_left (by omega)]; exact HJ.out⟩, by simp [intOf]; omega⟩
      · have hlt' : ¬ (m : Int) < (n : Int) := by omega
        have HMN : Hid (m = n) := by show _ = _; omega
        go_wp2_with ((first
          | (refine wl_lenN (.tmp 41) rfl rfl vh hs rfl hin n HHs.out ?_)); try simp only [Act.put, List.setIfInBounds_toArray, List.set_cons_succ, List.set_cons_zero])
        exact ⟨⟨m + 1, by omega, by omega, by go_num, by rw [Nat.min_eq_right (by omega), ← HMN.out]; exact HI.out⟩, by simp [intOf]; omega⟩
    · have HBL : Hid (Below w.heap.size w wr) := R3.out.2.1.trans (hgr.only.below HG.out.2.1 R3.out.2.1.size)
      clear hgr
      by_cases hmn : m ≤ n
      · have hgo1 : (m : Int) ≤ (n : Int) := by omega
        have hgo2 : ¬ (m : Int) < 80 := by omega
        go_wp2_with ((first
          | (refine wl_lenN (.tmp 18) rfl rfl vh hs rfl hin n HHs.out ?_)); try simp only [Act.put, List.setIfInBounds_toArray, List.set_cons_succ, List.set_cons_zero])
        go_ret
        exact ⟨rfl, HBL.out⟩
      · have hgo1 : ¬ (m : Int) ≤ (n : Int) := by omega
        go_wp2_with ((first
          | (refine wl_lenN (.tmp 18) rfl rfl vh hs rfl hin n HHs.out ?_)); try simp only [Act.put, List.setIfInBounds_toArray, List.set_cons_succ, List.set_cons_zero])
        go_ret
        exact ⟨rfl, HBL.out⟩
end Go.Proofs.YtmjbjepmnjocjaaDoor

/- Layer 8: the document's examples. -/
import Derived.Test.YtgcecejamcnkiaaDoorZ40
namespace Go.Proofs.YtgcecejamcnkiaaDoor
open Go.RowKit Go.Maps
theorem zA {α : Type} (l : List α) (i : Nat) (a : α) : l.toArray.setIfInBounds i a = (l.set i a).toArray := by simp
theorem zB {α : Type} (x : α) (l : List α) (i : Nat) (a : α) : (x :: l).set (i + 1) a = x :: l.set i a := rfl
theorem zC {α : Type} (x : α) (l : List α) (a : α) : (x :: l).set 0 a = a :: l := rfl

section
variable {w : World} {ops : Array Oper} {rest : List Oper} {o : Oper} {a : Act} {Q : Exit → Act → World → Prop}
theorem wl_ptrE1 (x : Operand) (hgd : Region.wanted o (yielded ops a.tmps) = true) (ho : o.op = .binOp .eql 37 x (.const (.pointer none)) 37) (g : Nat) (hx : a.eval x = ptr g) (h : wpList Tryd.prog ops Q rest (a.put o.dst (.bool false)) w) : wpList Tryd.prog ops Q (o :: rest) a w := wl hgd _ w (run_binOp' x (.const (.pointer none)) ho _ _ _ hx rfl rfl (by kernel_rfl)) h
theorem wl_ptrN0 (x : Operand) (hgd : Region.wanted o (yielded ops a.tmps) = true) (ho : o.op = .binOp .neq 37 x (.const (.pointer none)) 37) (hx : a.eval x = .pointer none) (h : wpList Tryd.prog ops Q rest (a.put o.dst (.bool false)) w) : wpList Tryd.prog ops Q (o :: rest) a w := wl hgd _ w (run_binOp' x (.const (.pointer none)) ho _ _ _ hx rfl rfl (by kernel_rfl)) h
end
theorem blank_new (n : Nat) (h : 8 ≤ n ∧ n ≤ 4096) : Blank (newPl (List.replicate 1 (n : Int)) []) 0 n := by
  have hwf := newPl_wf (List.replicate 1 (n : Int)) [] (shapeOk_rep 1 n ⟨by decide, by decide⟩ ⟨by omega, h.2⟩)
  have hsh := newPl_rep 1 n
  have hd := hsh.disk 0 (by simp)
  refine ⟨⟨hwf, rfl, by rw [hsh.n]; simp, hd.1⟩, rfl, by rw [hd.2]; simp, h.1, ?_⟩
  show Option.getD none ((fresh ((newPl (List.replicate 1 (n : Int)) []).tape 0) ((newPl (List.replicate 1 (n : Int)) []).size 0)).getD 0 zeros) = zeros
  rw [hd.1, hd.2]
  unfold fresh
  rw [if_neg (by decide), List.getD_eq_getElem?_getD, List.getElem?_replicate]
  split <;> rfl
def D2 : List (List (List Nat)) := [[[97], [98]], []]
theorem exL1 : longTx [[97], [98]] = false ∧ costOf [[97], [98]] = 1 ∧ longTx ([] : List (List Nat)) = false ∧ costOf ([] : List (List Nat)) = 1 ∧ longTx [[99]] = false ∧ costOf [[99]] = 1 ∧ costs [] = 0 ∧ costs [[[97], [98]]] = 1 ∧ costs D2 = 2 ∧ longTx (List.replicate 17 ([] : List Nat)) = true ∧ txSize (List.replicate 17 ([] : List Nat)) ≤ 100000 := by decide
theorem rows_nil (w : World) : RowsIn w (.slice none 0 0) [] := ⟨none, 0, rfl, by decide, Or.inl rfl⟩
theorem rows_17 {w : World} {b : Nat} (h : Row w b 51 (List.replicate 17 (.slice none 0 0))) : RowsIn w (whole b 17) (List.replicate 17 []) := by
  refine ⟨some ⟨b, 0, none⟩, 17, rfl, by decide, Or.inr ⟨b, 0, rfl, fun i hi => ⟨.slice none 0 0, ?_, ?_⟩⟩⟩
  · rw [Nat.zero_add]
    rw [List.length_replicate] at hi
    exact h.at i _ (by rw [List.getElem?_replicate, if_pos hi])
  · rw [List.length_replicate] at hi
    rw [show (List.replicate 17 ([] : List Nat)).getD i [] = [] by rw [List.getD_eq_getElem?_getD, List.getElem?_replicate, if_pos hi]; rfl]
    exact nil_in w
/-- rows in a block that is new -/
theorem rows_two {w : World} {u v : Value} {r s : List Nat} (hu : SliceIn w u r) (hv : SliceIn w v s) : RowsIn (w.alloc (.cells #[u, v] 51)) (.slice (some ⟨w.heap.size, 0, none⟩) 2 2) [r, s] := by
  have b := below_alloc w (.cells #[u, v] 51)
  have rr : Row (w.alloc (.cells #[u, v] 51)) w.heap.size 51 [u, v] := Row.new w 51 _
  refine ⟨_, 2, rfl, (by show 2 ≤ 1099511627776; decide), Or.inr ⟨w.heap.size, 0, rfl, fun i hi => ?_⟩⟩
  rw [Nat.zero_add]
  match i, hi with
  | 0, _ => exact ⟨u, rr.at 0 _ rfl, hu.later b⟩
  | 1, _ => exact ⟨v, rr.at 1 _ rfl, hv.later b⟩
theorem rows_one {w : World} {u : Value} {r : List Nat} (hu : SliceIn w u r) : RowsIn (w.alloc (.cells #[u] 51)) (.slice (some ⟨w.heap.size, 0, none⟩) 1 1) [r] := by
  have b := below_alloc w (.cells #[u] 51)
  have rr : Row (w.alloc (.cells #[u] 51)) w.heap.size 51 [u] := Row.new w 51 _
  refine ⟨_, 1, rfl, (by show 1 ≤ 1099511627776; decide), Or.inr ⟨w.heap.size, 0, rfl, fun i hi => ?_⟩⟩
  have hi0 : i = 0 := by simp at hi; omega
  subst hi0
  exact ⟨u, rr.at 0 _ rfl, hu.later b⟩
theorem txs_two {w : World} {u v : Value} {r s : List (List Nat)} (hu : RowsIn w u r) (hv : RowsIn w v s) : TxsIn (w.alloc (.cells #[u, v] 30)) (.slice (some ⟨w.heap.size, 0, none⟩) 2 2) [r, s] := by
  have b := below_alloc w (.cells #[u, v] 30)
  have rr : Row (w.alloc (.cells #[u, v] 30)) w.heap.size 30 [u, v] := Row.new w 30 _
  refine ⟨_, 2, rfl, (by show 2 ≤ 1000000; decide), Or.inr ⟨w.heap.size, 0, rfl, fun i hi => ?_⟩⟩
  rw [Nat.zero_add]
  match i, hi with
  | 0, _ => exact ⟨u, rr.at 0 _ rfl, hu.later b⟩
  | 1, _ => exact ⟨v, rr.at 1 _ rfl, hv.later b⟩
set_option maxHeartbeats 16000000 in
set_option maxRecDepth 100000 in
theorem shown_any (w : World) (ht : Fr.TabIn w) : Calls Tryd.prog 9 #[] w fun e w' => e = .returned (.bool true) ∧ Below w.heap.size w w' := by
  have HT : Hid (Fr.TabIn w) := ht
  have HMD : Hid (Calls Tryd.prog 11 #[.int .i64 1, .int .i64 64] w fun e w' => ∃ g c', e = .returned (ptr g) ∧ Sw w w' c' g 64 (newPl (List.replicate 1 (64 : Int)) []) 0) := by
    refine (made_any w (fun _ => (0, 0)) 2 1 64 ⟨by decide, by decide⟩ ⟨by decide, by decide⟩).mono ?_
    rintro e w' ⟨g, c', rfl, h1, h2, h3, h4⟩
    exact ⟨g, c', rfl, h3, TabIn.later ht h4, h2, h4, newPl_rep 1 64, Nat.le_refl _, tab_lt ht⟩
  obtain ⟨PQ, hPQ⟩ : ∃ PQ : Ending → World → Prop, PQ = fun (e : Ending) (w' : World) => e = .returned (.bool true) ∧ Below w.heap.size w w' := ⟨_, rfl⟩
  have HPQ : Hid (PQ = fun (e : Ending) (w' : World) => e = .returned (.bool true) ∧ Below w.heap.size w w') := hPQ
  rw [← hPQ]
  clear hPQ ht
  go_enter Tryd.func9, Tryd.ntmps9
  go_upto_region 1 with fail
  refine wp_region_lit ?_
  refine wpList_callF eN11 [.const (.int .i64 1), .const (.int .i64 64)] _ rfl rfl [.int .i64 1, .int .i64 64] rfl ?_
  refine (HMD.out).mono ?_
  rintro e w1 ⟨g, c1, rfl, q⟩
  refine ⟨_, rfl, ?_⟩
  have R1 : Hid (Sw w w1 c1 g 64 (newPl (List.replicate 1 (64 : Int)) []) 0) := q
  clear q HMD
  obtain ⟨m1, hm1⟩ : ∃ m1, m1 = newPl (List.replicate 1 (64 : Int)) [] := ⟨_, rfl⟩
  have RB : Hid (Blank m1 0 64 ∧ m1.fuse < 0) := (by rw [hm1]; exact ⟨blank_new 64 ⟨by decide, by decide⟩, (by decide : (-1 : Int) < 0)⟩)
  rw [← hm1] at R1
  clear hm1
  simp only [Act.put, zA, List.set_cons_succ, zC]
  refine wl_as (.tmp 23) rfl rfl (ptr g) rfl ?_
  simp only [Act.put, zA, List.set_cons_succ, zC]
  refine wpList_nil ?_
  go_upto_region 4 with fail
  refine wp_region_lit ?_
  refine wl_mv (.tmp 1) rfl rfl (ptr g) rfl ?_
  simp only [Act.put, zA, List.set_cons_succ, zC]
  refine wpList_callF eN20 [.tmp 27, .const (.int .i64 0)] _ rfl rfl [(ptr g), .int .i64 0] rfl ?_
  refine (sOpenB R1.out (by decide) RB.out.1).mono ?_
  rintro e w2 ⟨rfl, c2, q⟩
  refine ⟨_, rfl, ?_⟩
  have R2 : Hid (Sw w w2 c2 g 64 m1 0) := q
  clear q R1
  simp only [Act.put, zA, List.set_cons_succ, zC]
  refine wl_mv (.tmp 28) rfl rfl (.tuple #[(.pointer none), (.slice none 0 0), (.int .i64 4)]) rfl ?_
  simp only [Act.put, zA, List.set_cons_succ, zC]
  refine wl_ext (.tmp 26) 0 rfl rfl #[(.pointer none), (.slice none 0 0), (.int .i64 4)] rfl (.pointer none) rfl ?_
  simp only [Act.put, zA, List.set_cons_succ, zC]
  refine wl_ext (.tmp 26) 1 rfl rfl #[(.pointer none), (.slice none 0 0), (.int .i64 4)] rfl (.slice none 0 0) rfl ?_
  simp only [Act.put, zA, List.set_cons_succ, zC]
  refine wl_ext (.tmp 26) 2 rfl rfl #[(.pointer none), (.slice none 0 0), (.int .i64 4)] rfl (.int .i64 4) rfl ?_
  simp only [Act.put, zA, List.set_cons_succ, zC]
  refine wl_as (.tmp 29) rfl rfl (.pointer none) rfl ?_
  simp only [Act.put, zA, List.set_cons_succ, zC]
  refine wl_as (.tmp 30) rfl rfl (.slice none 0 0) rfl ?_
  simp only [Act.put, zA, List.set_cons_succ, zC]
  refine wl_as (.tmp 31) rfl rfl (.int .i64 4) rfl ?_
  simp only [Act.put, zA, List.set_cons_succ, zC]
  refine wpList_nil ?_
  go_upto_region 5 with fail
  refine wp_region_lit ?_
  refine wl_mv (.tmp 1) rfl rfl (ptr g) rfl ?_
  simp only [Act.put, zA, List.set_cons_succ, zC]
  refine wpList_callF eN19 [.tmp 32, .const (.int .i64 0)] _ rfl rfl [(ptr g), .int .i64 0] rfl ?_
  refine (sFormat R2.out (by decide) (by decide) RB.out.1.lv.on RB.out.2).mono ?_
  rintro e w3 ⟨rfl, c3, m3, q1, q2, q3⟩
  refine ⟨_, rfl, ?_⟩
  have R3 : Hid (Sw w w3 c3 g 64 m3 5000 ∧ Jc m3 0 64 [] ∧ m3.fuse < 0) := ⟨q1, q2, q3⟩
  clear q1 q2 q3 R2 RB
  simp only [Act.put, zA, List.set_cons_succ, zC]
  refine wl_as (.tmp 33) rfl rfl (.int .i64 0) rfl ?_
  simp only [Act.put, zA, List.set_cons_succ, zC]
  refine wpList_nil ?_
  go_upto_region 6 with fail
  refine wp_region_lit ?_
  refine wl_mv (.tmp 1) rfl rfl (ptr g) rfl ?_
  simp only [Act.put, zA, List.set_cons_succ, zC]
  refine wpList_callF eN20 [.tmp 35, .const (.int .i64 0)] _ rfl rfl [(ptr g), .int .i64 0] rfl ?_
  refine (sOpen R3.out.1 (by decide) R3.out.2.1 R3.out.2.2).mono ?_
  rintro e w4 ⟨ga, pa, ca, Sa, Ea, c4, m4, rfl, q1, q2, q3, q4, q5, qc, qh, us4, q6⟩
  refine ⟨_, rfl, ?_⟩
  have R4 : Hid (Sw w w4 c4 g 64 m4 5002 ∧ w.heap.size ≤ ga ∧ WalAt w4 c4 2 ga g (0 : Nat) Sa Ea ∧ Jo m4 0 64 Sa Ea [] ∧ m4.fuse < 0) := ⟨q1, Nat.le_trans R3.out.1.below.size q2, q3, q4, q5⟩
  clear q1 q2 q3 q4 q5 q6 qc qh R3
  simp only [Act.put, zA, List.set_cons_succ, zC]
  refine wl_mv (.tmp 36) rfl rfl (.tuple #[(ptr ga), (.slice pa 0 ca), (.int .i64 0)]) rfl ?_
  simp only [Act.put, zA, List.set_cons_succ, zC]
  refine wl_ext (.tmp 34) 0 rfl rfl #[(ptr ga), (.slice pa 0 ca), (.int .i64 0)] rfl (ptr ga) rfl ?_
  simp only [Act.put, zA, List.set_cons_succ, zC]
  refine wl_ext (.tmp 34) 1 rfl rfl #[(ptr ga), (.slice pa 0 ca), (.int .i64 0)] rfl (.slice pa 0 ca) rfl ?_
  simp only [Act.put, zA, List.set_cons_succ, zC]
  refine wl_ext (.tmp 34) 2 rfl rfl #[(ptr ga), (.slice pa 0 ca), (.int .i64 0)] rfl (.int .i64 0) rfl ?_
  simp only [Act.put, zA, List.set_cons_succ, zC]
  refine wl_as (.tmp 37) rfl rfl (ptr ga) rfl ?_
  simp only [Act.put, zA, List.set_cons_succ, zC]
  refine wl_as (.tmp 38) rfl rfl (.slice pa 0 ca) rfl ?_
  simp only [Act.put, zA, List.set_cons_succ, zC]
  refine wl_as (.tmp 39) rfl rfl (.int .i64 0) rfl ?_
  simp only [Act.put, zA, List.set_cons_succ, zC]
  refine wpList_nil ?_
  go_upto_region 7 with fail
  refine wp_region_lit ?_
  refine wl_mv (.tmp 2) rfl rfl (.pointer none) rfl ?_
  simp only [Act.put, zA, List.set_cons_succ, zC]
  refine wl_ptrN0 (.tmp 40) rfl rfl rfl ?_
  simp only [Act.put, zA, List.set_cons_succ, zC]
  refine wl_mv (.tmp 41) rfl rfl (.bool false) rfl ?_
  simp only [Act.put, zA, List.set_cons_succ, zC]
  refine wl_mv (.tmp 4) rfl rfl (.int .i64 4) rfl ?_
  simp only [Act.put, zA, List.set_cons_succ, zC]
  refine wl_neI (.tmp 43) (.const (.int .i64 4)) rfl rfl 4 4 rfl rfl false rfl ?_
  simp only [Act.put, zA, List.set_cons_succ, zC]
  refine wl rfl _ _ (run_pickZ (.tmp 42) (.const (.bool true)) (.tmp 44) rfl false (.bool false) rfl rfl) ?_
  simp only [Act.put, zA, List.set_cons_succ, zC]
  refine wl_mv (.tmp 45) rfl rfl (.bool false) rfl ?_
  simp only [Act.put, zA, List.set_cons_succ, zC]
  refine wl_mv (.tmp 5) rfl rfl (.int .i64 0) rfl ?_
  simp only [Act.put, zA, List.set_cons_succ, zC]
  refine wl_neI (.tmp 47) (.const (.int .i64 0)) rfl rfl 0 0 rfl rfl false rfl ?_
  simp only [Act.put, zA, List.set_cons_succ, zC]
  refine wl rfl _ _ (run_pickZ (.tmp 46) (.const (.bool true)) (.tmp 48) rfl false (.bool false) rfl rfl) ?_
  simp only [Act.put, zA, List.set_cons_succ, zC]
  refine wl_mv (.tmp 49) rfl rfl (.bool false) rfl ?_
  simp only [Act.put, zA, List.set_cons_succ, zC]
  refine wl_mv (.tmp 6) rfl rfl (ptr ga) rfl ?_
  simp only [Act.put, zA, List.set_cons_succ, zC]
  refine wl_ptrE1 (.tmp 51) rfl rfl ga rfl ?_
  simp only [Act.put, zA, List.set_cons_succ, zC]
  refine wl rfl _ _ (run_pickZ (.tmp 50) (.const (.bool true)) (.tmp 52) rfl false (.bool false) rfl rfl) ?_
  simp only [Act.put, zA, List.set_cons_succ, zC]
  refine wl_mv (.tmp 53) rfl rfl (.bool false) rfl ?_
  simp only [Act.put, zA, List.set_cons_succ, zC]
  refine wl_mv (.tmp 7) rfl rfl (.slice pa 0 ca) rfl ?_
  simp only [Act.put, zA, List.set_cons_succ, zC]
  refine wl_sl sl38 (.tmp 55) rfl rfl pa 0 ca rfl ?_
  simp only [Act.put, zA, List.set_cons_succ, zC]
  refine wl_neI (.tmp 56) (.const (.int .i64 0)) rfl rfl 0 0 rfl rfl false rfl ?_
  simp only [Act.put, zA, List.set_cons_succ, zC]
  refine wl rfl _ _ (run_pickZ (.tmp 54) (.const (.bool true)) (.tmp 57) rfl false (.bool false) rfl rfl) ?_
  simp only [Act.put, zA, List.set_cons_succ, zC]
  refine wl_mv (.tmp 58) rfl rfl (.bool false) rfl ?_
  simp only [Act.put, zA, List.set_cons_succ, zC]
  refine wl_mv (.tmp 8) rfl rfl (.int .i64 0) rfl ?_
  simp only [Act.put, zA, List.set_cons_succ, zC]
  refine wl_neI (.tmp 60) (.const (.int .i64 0)) rfl rfl 0 0 rfl rfl false rfl ?_
  simp only [Act.put, zA, List.set_cons_succ, zC]
  refine wl rfl _ _ (run_pickZ (.tmp 59) (.const (.bool true)) (.tmp 61) rfl false (.bool false) rfl rfl) ?_
  simp only [Act.put, zA, List.set_cons_succ, zC]
  refine wpList_nil ?_
  go_upto_region 9 with fail
  refine wp_region_lit ?_
  refine wl_mv (.tmp 6) rfl rfl (ptr ga) rfl ?_
  simp only [Act.put, zA, List.set_cons_succ, zC]
  refine lit51b 97 rfl rfl ?_
  obtain ⟨y1, hy1⟩ : ∃ y1, y1 = w4.alloc (.cells #[.int .u8 ((97 : Nat) : Int)] 5) := ⟨_, rfl⟩
  obtain ⟨gy1, hgy1⟩ : ∃ gy1, gy1 = w4.heap.size := ⟨_, rfl⟩
  have by1 : Below w4.heap.size w4 y1 := by rw [hy1]; exact below_alloc w4 _
  have sy1 : SliceIn y1 (.slice (some ⟨gy1, 0, none⟩) 1 1) [97] := by rw [hy1, hgy1]; exact one_byte (by decide) (Below.refl _ _)
  rw [← hy1, ← hgy1]
  simp only [Act.put, zA, List.set_cons_succ, zC]
  refine lit51b 98 rfl rfl ?_
  obtain ⟨y2, hy2⟩ : ∃ y2, y2 = y1.alloc (.cells #[.int .u8 ((98 : Nat) : Int)] 5) := ⟨_, rfl⟩
  obtain ⟨gy2, hgy2⟩ : ∃ gy2, gy2 = y1.heap.size := ⟨_, rfl⟩
  have by2 : Below y1.heap.size y1 y2 := by rw [hy2]; exact below_alloc y1 _
  have sy2 : SliceIn y2 (.slice (some ⟨gy2, 0, none⟩) 1 1) [98] := by rw [hy2, hgy2]; exact one_byte (by decide) (Below.refl _ _)
  rw [← hy2, ← hgy2]
  simp only [Act.put, zA, List.set_cons_succ, zC]
  refine wl rfl _ _ (run_lit30_2 (.tmp 64) (.tmp 65) rfl (.slice (some ⟨gy1, 0, none⟩) 1 1) (.slice (some ⟨gy2, 0, none⟩) 1 1) ⟨_, _, _, rfl⟩ ⟨_, _, _, rfl⟩ rfl rfl) ?_
  obtain ⟨y3, hy3⟩ : ∃ y3, y3 = y2.alloc (.cells #[.slice (some ⟨gy1, 0, none⟩) 1 1, .slice (some ⟨gy2, 0, none⟩) 1 1] 51) := ⟨_, rfl⟩
  obtain ⟨gy3, hgy3⟩ : ∃ gy3, gy3 = y2.heap.size := ⟨_, rfl⟩
  have by3 : Below y2.heap.size y2 y3 := by rw [hy3]; exact below_alloc y2 _
  have ry3 : RowsIn y3 (.slice (some ⟨gy3, 0, none⟩) 2 2) [[97], [98]] := by rw [hy3, hgy3]; exact rows_two (sy1.later by2) sy2
  rw [← hy3, ← hgy3]
  have Ry : Hid (Below w4.heap.size w4 y3 ∧ RowsIn y3 (.slice (some ⟨gy3, 0, none⟩) 2 2) [[97], [98]]) := ⟨(by1.trans (by2.mono by1.size)).trans (by3.mono (Nat.le_trans by1.size by2.size)), ry3⟩
  clear hy1 hgy1 by1 sy1 hy2 hgy2 by2 sy2 hy3 hgy3 by3 ry3
  simp only [Act.put, zA, List.set_cons_succ, zC]
  refine wpList_callF eN21 [.tmp 63, .tmp 66] _ rfl rfl [(ptr ga), (.slice (some ⟨gy3, 0, none⟩) 2 2)] rfl ?_
  refine (sAppend (R4.out.1.bel Ry.out.1) (by decide) (R4.out.2.2.1.below Ry.out.1) R4.out.2.1 R4.out.2.2.2.1 R4.out.2.2.2.2 _ [[97], [98]] Ry.out.2 exL1.1 (by rw [exL1.2.2.2.2.2.2.1, exL1.2.1]; decide)).mono ?_
  rintro e w5 ⟨rfl, c5, m5, un5, q1, q2, q3, q4, _, _⟩
  refine ⟨_, rfl, ?_⟩
  have R5 : Hid (Sw w w5 c5 g 64 m5 5102 ∧ WalAt w5 c5 2 ga g (0 : Nat) Sa un5 ∧ Jo m5 0 64 Sa un5 [[[97], [98]]] ∧ m5.fuse < 0 ∧ w.heap.size ≤ ga) := ⟨q1, q2, q3, q4, R4.out.2.1⟩
  clear q1 q2 q3 q4 R4 Ry
  simp only [Act.put, zA, List.set_cons_succ, zC]
  refine wl_as (.tmp 67) rfl rfl (.int .i64 0) rfl ?_
  simp only [Act.put, zA, List.set_cons_succ, zC]
  refine wpList_nil ?_
  go_upto_region 10 with fail
  refine wp_region_lit ?_
  refine wl_mv (.tmp 6) rfl rfl (ptr ga) rfl ?_
  simp only [Act.put, zA, List.set_cons_succ, zC]
  refine wpList_callF eN21 [.tmp 68, .const (.slice none 0 0)] _ rfl rfl [(ptr ga), .slice none 0 0] rfl ?_
  refine (sAppend R5.out.1 (by decide) R5.out.2.1 R5.out.2.2.2.2 R5.out.2.2.1 R5.out.2.2.2.1 _ [] (rows_nil w5) exL1.2.2.1 (by rw [exL1.2.2.2.2.2.2.2.1, exL1.2.2.2.1]; decide)).mono ?_
  rintro e w6 ⟨rfl, c6, m6, un6, q1, q2, q3, q4, _, _⟩
  refine ⟨_, rfl, ?_⟩
  have R6 : Hid (Sw w w6 c6 g 64 m6 5202 ∧ WalAt w6 c6 2 ga g (0 : Nat) Sa un6 ∧ Jo m6 0 64 Sa un6 D2 ∧ m6.fuse < 0 ∧ w.heap.size ≤ ga) := ⟨q1, q2, q3, q4, R5.out.2.2.2.2⟩
  clear q1 q2 q3 q4 R5
  simp only [Act.put, zA, List.set_cons_succ, zC]
  refine wl_as (.tmp 69) rfl rfl (.int .i64 0) rfl ?_
  simp only [Act.put, zA, List.set_cons_succ, zC]
  refine wpList_nil ?_
  go_upto_region 11 with fail
  refine wp_region_lit ?_
  refine wl_mv (.tmp 6) rfl rfl (ptr ga) rfl ?_
  simp only [Act.put, zA, List.set_cons_succ, zC]
  refine wl_make (.const (.int .i64 17)) (.const (.int .i64 17)) 30 51 (.slice none 0 0) 1 24 rfl rfl Tryd.underlying30 info51z 17 rfl rfl (by decide) (by decide) ?_
  intro w7 r7 s7 b7
  rw [made51] at r7
  obtain ⟨g7, hg7⟩ : ∃ g7, g7 = w6.heap.size := ⟨_, rfl⟩
  rw [← hg7] at r7 ⊢
  have R7 : Hid (RowsIn w7 (whole g7 17) (List.replicate 17 []) ∧ Below w6.heap.size w6 w7) := ⟨rows_17 r7, b7⟩
  clear r7 s7 b7 hg7
  simp only [Act.put, zA, List.set_cons_succ, zC]
  refine wpList_callF eN21 [.tmp 70, .tmp 71] _ rfl rfl [(ptr ga), (whole g7 17)] rfl ?_
  refine (sAppendLong (R6.out.1.bel R7.out.2) (by decide) (R6.out.2.1.below R7.out.2) R6.out.2.2.2.2 R6.out.2.2.1 _ (List.replicate 17 []) R7.out.1 exL1.2.2.2.2.2.2.2.2.2.1 exL1.2.2.2.2.2.2.2.2.2.2).mono ?_
  rintro e w8 ⟨rfl, c8, q1, q2⟩
  refine ⟨_, rfl, ?_⟩
  have R8 : Hid (Sw w w8 c8 g 64 m6 5202 ∧ Jc m6 0 64 D2 ∧ m6.fuse < 0) := ⟨q1, R6.out.2.2.1.jc, R6.out.2.2.2.1⟩
  clear q1 q2 R6 R7
  simp only [Act.put, zA, List.set_cons_succ, zC]
  refine wl_as (.tmp 72) rfl rfl (.int .i64 5) rfl ?_
  simp only [Act.put, zA, List.set_cons_succ, zC]
  refine wpList_nil ?_
  go_upto_region 12 with fail
  refine wp_region_lit ?_
  refine wl_mv (.tmp 1) rfl rfl (ptr g) rfl ?_
  simp only [Act.put, zA, List.set_cons_succ, zC]
  refine wpList_callF eN20 [.tmp 74, .const (.int .i64 0)] _ rfl rfl [(ptr g), .int .i64 0] rfl ?_
  refine (sOpen R8.out.1 (by decide) R8.out.2.1 R8.out.2.2).mono ?_
  rintro e w9 ⟨gb, pb, cb, Sb, Eb, c9, m9, rfl, q1, q2, q3, q4, q5, qc, qh, us9, q6⟩
  refine ⟨_, rfl, ?_⟩
  have R9 : Hid (Sw w w9 c9 g 64 m9 5204 ∧ w.heap.size ≤ gb ∧ WalAt w9 c9 2 gb g (0 : Nat) Sb Eb ∧ Jo m9 0 64 Sb Eb D2 ∧ m9.fuse < 0 ∧ Rob (fun b => b < gb ∧ (c9 b).1 ≠ 2) (fun W => TxsIn W (.slice pb 2 cb) D2) w9) := ⟨q1, Nat.le_trans R8.out.1.below.size q2, q3, q4, q5, fun W h1 h2 => (q6 W h1 fun b hb hp => h2 b hb ⟨hp.2.1, hp.2.2⟩).ins⟩
  clear q1 q2 q3 q4 q5 q6 qc qh R8
  simp only [Act.put, zA, List.set_cons_succ, zC]
  refine wl_mv (.tmp 75) rfl rfl (.tuple #[(ptr gb), (.slice pb 2 cb), (.int .i64 0)]) rfl ?_
  simp only [Act.put, zA, List.set_cons_succ, zC]
  refine wl_ext (.tmp 73) 0 rfl rfl #[(ptr gb), (.slice pb 2 cb), (.int .i64 0)] rfl (ptr gb) rfl ?_
  simp only [Act.put, zA, List.set_cons_succ, zC]
  refine wl_ext (.tmp 73) 1 rfl rfl #[(ptr gb), (.slice pb 2 cb), (.int .i64 0)] rfl (.slice pb 2 cb) rfl ?_
  simp only [Act.put, zA, List.set_cons_succ, zC]
  refine wl_ext (.tmp 73) 2 rfl rfl #[(ptr gb), (.slice pb 2 cb), (.int .i64 0)] rfl (.int .i64 0) rfl ?_
  simp only [Act.put, zA, List.set_cons_succ, zC]
  refine wl_as (.tmp 76) rfl rfl (ptr gb) rfl ?_
  simp only [Act.put, zA, List.set_cons_succ, zC]
  refine wl_as (.tmp 77) rfl rfl (.slice pb 2 cb) rfl ?_
  simp only [Act.put, zA, List.set_cons_succ, zC]
  refine wl_as (.tmp 78) rfl rfl (.int .i64 0) rfl ?_
  simp only [Act.put, zA, List.set_cons_succ, zC]
  refine wpList_nil ?_
  go_upto_region 13 with fail
  refine wp_region_lit ?_
  refine wl_mv (.tmp 12) rfl rfl (ptr gb) rfl ?_
  simp only [Act.put, zA, List.set_cons_succ, zC]
  refine wl_ptrE1 (.tmp 79) rfl rfl gb rfl ?_
  simp only [Act.put, zA, List.set_cons_succ, zC]
  refine wl_mv (.tmp 80) rfl rfl (.bool false) rfl ?_
  simp only [Act.put, zA, List.set_cons_succ, zC]
  refine wl_mv (.tmp 9) rfl rfl (.int .i64 0) rfl ?_
  simp only [Act.put, zA, List.set_cons_succ, zC]
  refine wl_neI (.tmp 82) (.const (.int .i64 0)) rfl rfl 0 0 rfl rfl false rfl ?_
  simp only [Act.put, zA, List.set_cons_succ, zC]
  refine wl rfl _ _ (run_pickZ (.tmp 81) (.const (.bool true)) (.tmp 83) rfl false (.bool false) rfl rfl) ?_
  simp only [Act.put, zA, List.set_cons_succ, zC]
  refine wl_mv (.tmp 84) rfl rfl (.bool false) rfl ?_
  simp only [Act.put, zA, List.set_cons_succ, zC]
  refine wl_mv (.tmp 10) rfl rfl (.int .i64 0) rfl ?_
  simp only [Act.put, zA, List.set_cons_succ, zC]
  refine wl_neI (.tmp 86) (.const (.int .i64 0)) rfl rfl 0 0 rfl rfl false rfl ?_
  simp only [Act.put, zA, List.set_cons_succ, zC]
  refine wl rfl _ _ (run_pickZ (.tmp 85) (.const (.bool true)) (.tmp 87) rfl false (.bool false) rfl rfl) ?_
  simp only [Act.put, zA, List.set_cons_succ, zC]
  refine wl_mv (.tmp 88) rfl rfl (.bool false) rfl ?_
  simp only [Act.put, zA, List.set_cons_succ, zC]
  refine wl_mv (.tmp 11) rfl rfl (.int .i64 5) rfl ?_
  simp only [Act.put, zA, List.set_cons_succ, zC]
  refine wl_neI (.tmp 90) (.const (.int .i64 5)) rfl rfl 5 5 rfl rfl false rfl ?_
  simp only [Act.put, zA, List.set_cons_succ, zC]
  refine wl rfl _ _ (run_pickZ (.tmp 89) (.const (.bool true)) (.tmp 91) rfl false (.bool false) rfl rfl) ?_
  simp only [Act.put, zA, List.set_cons_succ, zC]
  refine wl_mv (.tmp 92) rfl rfl (.bool false) rfl ?_
  simp only [Act.put, zA, List.set_cons_succ, zC]
  refine wl_mv (.tmp 14) rfl rfl (.int .i64 0) rfl ?_
  simp only [Act.put, zA, List.set_cons_succ, zC]
  refine wl_neI (.tmp 94) (.const (.int .i64 0)) rfl rfl 0 0 rfl rfl false rfl ?_
  simp only [Act.put, zA, List.set_cons_succ, zC]
  refine wl rfl _ _ (run_pickZ (.tmp 93) (.const (.bool true)) (.tmp 95) rfl false (.bool false) rfl rfl) ?_
  simp only [Act.put, zA, List.set_cons_succ, zC]
  refine wl_mv (.tmp 96) rfl rfl (.bool false) rfl ?_
  simp only [Act.put, zA, List.set_cons_succ, zC]
  refine wl_mv (.tmp 13) rfl rfl (.slice pb 2 cb) rfl ?_
  simp only [Act.put, zA, List.set_cons_succ, zC]
  refine lit51b 97 rfl rfl ?_
  obtain ⟨z1, hz1⟩ : ∃ z1, z1 = w9.alloc (.cells #[.int .u8 ((97 : Nat) : Int)] 5) := ⟨_, rfl⟩
  obtain ⟨gz1, hgz1⟩ : ∃ gz1, gz1 = w9.heap.size := ⟨_, rfl⟩
  have bz1 : Below w9.heap.size w9 z1 := by rw [hz1]; exact below_alloc w9 _
  have sz1 : SliceIn z1 (.slice (some ⟨gz1, 0, none⟩) 1 1) [97] := by rw [hz1, hgz1]; exact one_byte (by decide) (Below.refl _ _)
  rw [← hz1, ← hgz1]
  simp only [Act.put, zA, List.set_cons_succ, zC]
  refine lit51b 98 rfl rfl ?_
  obtain ⟨z2, hz2⟩ : ∃ z2, z2 = z1.alloc (.cells #[.int .u8 ((98 : Nat) : Int)] 5) := ⟨_, rfl⟩
  obtain ⟨gz2, hgz2⟩ : ∃ gz2, gz2 = z1.heap.size := ⟨_, rfl⟩
  have bz2 : Below z1.heap.size z1 z2 := by rw [hz2]; exact below_alloc z1 _
  have sz2 : SliceIn z2 (.slice (some ⟨gz2, 0, none⟩) 1 1) [98] := by rw [hz2, hgz2]; exact one_byte (by decide) (Below.refl _ _)
  rw [← hz2, ← hgz2]
  simp only [Act.put, zA, List.set_cons_succ, zC]
  refine wl rfl _ _ (run_lit30_2 (.tmp 99) (.tmp 100) rfl (.slice (some ⟨gz1, 0, none⟩) 1 1) (.slice (some ⟨gz2, 0, none⟩) 1 1) ⟨_, _, _, rfl⟩ ⟨_, _, _, rfl⟩ rfl rfl) ?_
  obtain ⟨z3, hz3⟩ : ∃ z3, z3 = z2.alloc (.cells #[.slice (some ⟨gz1, 0, none⟩) 1 1, .slice (some ⟨gz2, 0, none⟩) 1 1] 51) := ⟨_, rfl⟩
  obtain ⟨gz3, hgz3⟩ : ∃ gz3, gz3 = z2.heap.size := ⟨_, rfl⟩
  have bz3 : Below z2.heap.size z2 z3 := by rw [hz3]; exact below_alloc z2 _
  have rz3 : RowsIn z3 (.slice (some ⟨gz3, 0, none⟩) 2 2) [[97], [98]] := by rw [hz3, hgz3]; exact rows_two (sz1.later bz2) sz2
  rw [← hz3, ← hgz3]
  have Rz : Hid (Below w9.heap.size w9 z3 ∧ RowsIn z3 (.slice (some ⟨gz3, 0, none⟩) 2 2) [[97], [98]]) := ⟨(bz1.trans (bz2.mono bz1.size)).trans (bz3.mono (Nat.le_trans bz1.size bz2.size)), rz3⟩
  clear hz1 hgz1 bz1 sz1 hz2 hgz2 bz2 sz2 hz3 hgz3 bz3 rz3
  simp only [Act.put, zA, List.set_cons_succ, zC]
  refine lit30 rfl rfl ?_
  obtain ⟨z4, hz4⟩ : ∃ z4, z4 = z3.alloc (.cells #[] 51) := ⟨_, rfl⟩
  obtain ⟨gz4, hgz4⟩ : ∃ gz4, gz4 = z3.heap.size := ⟨_, rfl⟩
  have bz4 : Below z3.heap.size z3 z4 := by rw [hz4]; exact below_alloc z3 _
  rw [← hz4, ← hgz4]
  simp only [Act.put, zA, List.set_cons_succ, zC]
  refine wl rfl _ _ (run_lit38_2 (.tmp 101) (.tmp 102) rfl (.slice (some ⟨gz3, 0, none⟩) 2 2) (.slice (some ⟨gz4, 0, none⟩) 0 0) ⟨_, _, _, rfl⟩ ⟨_, _, _, rfl⟩ rfl rfl) ?_
  obtain ⟨z5, hz5⟩ : ∃ z5, z5 = z4.alloc (.cells #[.slice (some ⟨gz3, 0, none⟩) 2 2, .slice (some ⟨gz4, 0, none⟩) 0 0] 30) := ⟨_, rfl⟩
  obtain ⟨gz5, hgz5⟩ : ∃ gz5, gz5 = z4.heap.size := ⟨_, rfl⟩
  have bz5 : Below z4.heap.size z4 z5 := by rw [hz5]; exact below_alloc z4 _
  have tz5 : TxsIn z5 (.slice (some ⟨gz5, 0, none⟩) 2 2) D2 := by rw [hz5, hgz5]; exact txs_two (Rz.out.2.later bz4) ⟨_, 0, rfl, by decide, Or.inl rfl⟩
  rw [← hz5, ← hgz5]
  have b95 : Below w9.heap.size w9 z5 := (Rz.out.1.trans (bz4.mono Rz.out.1.size)).trans (bz5.mono (Nat.le_trans Rz.out.1.size bz4.size))
  have HSM : Hid (Calls Tryd.prog 22 #[.slice pb 2 cb, .slice (some ⟨gz5, 0, none⟩) 2 2] z5 fun e w' => e = .returned (.bool true) ∧ Below z5.heap.size z5 w') := same_any (R9.out.2.2.2.2.2.below b95).now tz5
  have RZ : Hid (Below w9.heap.size w9 z5) := b95
  clear hz4 hgz4 bz4 hz5 hgz5 bz5 tz5 b95 Rz
  simp only [Act.put, zA, List.set_cons_succ, zC]
  refine wpList_callW eN22 [.tmp 98, .tmp 103] _ rfl rfl [(.slice pb 2 cb), (.slice (some ⟨gz5, 0, none⟩) 2 2)] rfl ?_
  refine HSM.out.mono ?_
  rintro e wa ⟨rfl, ba⟩
  have RA : Hid (Sw w wa c9 g 64 m9 5204 ∧ w.heap.size ≤ gb ∧ WalAt wa c9 2 gb g (0 : Nat) Sb Eb ∧ Jo m9 0 64 Sb Eb D2 ∧ m9.fuse < 0 ∧ Rob (fun b => b < gb ∧ (c9 b).1 ≠ 2) (fun W => TxsIn W (.slice pb 2 cb) D2) wa) := by
    have bb : Below w9.heap.size w9 wa := RZ.out.trans (ba.mono RZ.out.size)
    exact ⟨R9.out.1.bel bb, R9.out.2.1, R9.out.2.2.1.below bb, R9.out.2.2.2.1, R9.out.2.2.2.2.1, R9.out.2.2.2.2.2.below bb⟩
  clear ba R9 RZ HSM
  refine ⟨_, rfl, ?_⟩
  simp only [Act.put, zA, List.set_cons_succ, zC]
  refine wl_not (.tmp 104) rfl rfl true rfl ?_
  simp only [Act.put, zA, List.set_cons_succ, zC]
  refine wl rfl _ _ (run_pickZ (.tmp 97) (.const (.bool true)) (.tmp 105) rfl false (.bool false) rfl rfl) ?_
  simp only [Act.put, zA, List.set_cons_succ, zC]
  refine wpList_nil ?_
  go_upto_region 15 with fail
  refine wp_region_lit ?_
  refine wl_mv (.tmp 1) rfl rfl (ptr g) rfl ?_
  simp only [Act.put, zA, List.set_cons_succ, zC]
  refine wpList_callF eN14 [.tmp 107, .const (.int .i64 0)] _ rfl rfl [(ptr g), .int .i64 0] rfl ?_
  refine (sFuse RA.out.1 0 (by decide) (by decide)).mono ?_
  rintro e wb ⟨rfl, cb2, q1, q2, q3⟩
  refine ⟨_, rfl, ?_⟩
  have RBB : Hid (Sw w wb cb2 g 64 (m9.fuseTo 0) 5204 ∧ w.heap.size ≤ gb ∧ WalAt wb cb2 2 gb g (0 : Nat) Sb Eb ∧ Jo (m9.fuseTo 0) 0 64 Sb Eb D2 ∧ (m9.fuseTo 0).fuse = 0 ∧ Rob (fun b => b < gb ∧ (cb2 b).1 ≠ 2) (fun W => TxsIn W (.slice pb 2 cb) D2) wb) := by
    have hgb := RA.out.2.2.1.row.lt
    refine ⟨q1, RA.out.2.1, RA.out.2.2.1.kept q2 q3, ?_, ?_, RA.out.2.2.2.2.2.next q3.size fun b hb hp => ⟨q3.block b hb hp.2, hp.1, by rw [q2 b hb]; exact hp.2⟩⟩
    · obtain ⟨F, rows, hJ, h2, h3⟩ := RA.out.2.2.2.1
      exact ⟨F, rows, hJ.fuse 0 (by decide) (by decide), h2, h3⟩
    · unfold Pl.fuseTo
      rw [if_pos RA.out.2.2.2.1.jc.lv.1.on]
  obtain ⟨mb, hmb⟩ : ∃ mb, mb = m9.fuseTo 0 := ⟨_, rfl⟩
  rw [← hmb] at RBB
  clear q1 q2 q3 RA hmb
  simp only [Act.put, zA, List.set_cons_succ, zC]
  refine wpList_nil ?_
  go_upto_region 16 with fail
  refine wp_region_lit ?_
  refine wl_mv (.tmp 12) rfl rfl (ptr gb) rfl ?_
  simp only [Act.put, zA, List.set_cons_succ, zC]
  refine lit51b 99 rfl rfl ?_
  obtain ⟨x1, hx1⟩ : ∃ x1, x1 = wb.alloc (.cells #[.int .u8 ((99 : Nat) : Int)] 5) := ⟨_, rfl⟩
  obtain ⟨gx1, hgx1⟩ : ∃ gx1, gx1 = wb.heap.size := ⟨_, rfl⟩
  have bx1 : Below wb.heap.size wb x1 := by rw [hx1]; exact below_alloc wb _
  have sx1 : SliceIn x1 (.slice (some ⟨gx1, 0, none⟩) 1 1) [99] := by rw [hx1, hgx1]; exact one_byte (by decide) (Below.refl _ _)
  rw [← hx1, ← hgx1]
  simp only [Act.put, zA, List.set_cons_succ, zC]
  refine wl rfl _ _ (run_lit30 (.tmp 110) rfl (.slice (some ⟨gx1, 0, none⟩) 1 1) ⟨_, _, _, rfl⟩ rfl) ?_
  obtain ⟨x2, hx2⟩ : ∃ x2, x2 = x1.alloc (.cells #[.slice (some ⟨gx1, 0, none⟩) 1 1] 51) := ⟨_, rfl⟩
  obtain ⟨gx2, hgx2⟩ : ∃ gx2, gx2 = x1.heap.size := ⟨_, rfl⟩
  have bx2 : Below x1.heap.size x1 x2 := by rw [hx2]; exact below_alloc x1 _
  have rx2 : RowsIn x2 (.slice (some ⟨gx2, 0, none⟩) 1 1) [[99]] := by rw [hx2, hgx2]; exact rows_one sx1
  rw [← hx2, ← hgx2]
  have RX : Hid (Below wb.heap.size wb x2 ∧ RowsIn x2 (.slice (some ⟨gx2, 0, none⟩) 1 1) [[99]]) := ⟨bx1.trans (bx2.mono bx1.size), rx2⟩
  clear hx1 hgx1 bx1 sx1 hx2 hgx2 bx2 rx2
  simp only [Act.put, zA, List.set_cons_succ, zC]
  refine wpList_callF eN21 [.tmp 109, .tmp 111] _ rfl rfl [(ptr gb), (.slice (some ⟨gx2, 0, none⟩) 1 1)] rfl ?_
  refine (sAppendDark (RBB.out.1.bel RX.out.1) (by decide) (RBB.out.2.2.1.below RX.out.1) RBB.out.2.1 RBB.out.2.2.2.1 RBB.out.2.2.2.2.1 _ [[99]] RX.out.2 exL1.2.2.2.2.1 (by rw [exL1.2.2.2.2.2.2.2.2.1, exL1.2.2.2.2.2.1]; decide)).mono ?_
  rintro e wd ⟨rfl, cd, q1, q2, q3, q4⟩
  refine ⟨_, rfl, ?_⟩
  have RD : Hid (Sw w wd cd g 64 mb.step 5205 ∧ Jc (mb.step.boot []) 0 64 D2 ∧ Rob (fun b => b < gb ∧ (cd b).1 ≠ 2) (fun W => TxsIn W (.slice pb 2 cb) D2) wd ∧ w.heap.size ≤ gb) := ⟨q1, q2 [], (RBB.out.2.2.2.2.2.below RX.out.1).next q4.size fun b hb hp => ⟨q4.block b hb (fun e => e.elim hp.2 (fun e => by have := hp.1; omega)), hp.1, by rw [q3 b hb]; exact hp.2⟩, RBB.out.2.1⟩
  clear q1 q2 q3 q4 RBB RX
  simp only [Act.put, zA, List.set_cons_succ, zC]
  refine wl_as (.tmp 112) rfl rfl (.int .i64 2) rfl ?_
  simp only [Act.put, zA, List.set_cons_succ, zC]
  refine wpList_nil ?_
  go_upto_region 17 with fail
  refine wp_region_lit ?_
  refine wl_mv (.tmp 1) rfl rfl (ptr g) rfl ?_
  simp only [Act.put, zA, List.set_cons_succ, zC]
  refine wpList_callF eN15 [.tmp 113, .const (.slice none 0 0)] _ rfl rfl [(ptr g), .slice none 0 0] rfl ?_
  refine (sBoot RD.out.1 (by decide) _ [] ⟨none, 0, rfl, Nat.le_refl _, by decide, Or.inl rfl⟩).mono ?_
  rintro e we ⟨rfl, ce, q1, q2, q3⟩
  refine ⟨_, rfl, ?_⟩
  have RE : Hid (Sw w we ce g 64 (mb.step.boot []) 5205 ∧ Jc (mb.step.boot []) 0 64 D2 ∧ (mb.step.boot []).fuse < 0 ∧ Rob (fun b => b < gb ∧ (ce b).1 ≠ 2) (fun W => TxsIn W (.slice pb 2 cb) D2) we) := ⟨q1, RD.out.2.1, (by decide : (-1 : Int) < 0), RD.out.2.2.1.next q3.size fun b hb hp => ⟨q3.block b hb hp.2, hp.1, by rw [q2 b hb]; exact hp.2⟩⟩
  obtain ⟨me, hme⟩ : ∃ me, me = mb.step.boot [] := ⟨_, rfl⟩
  rw [← hme] at RE
  clear q1 q2 q3 RD hme
  simp only [Act.put, zA, List.set_cons_succ, zC]
  refine wpList_nil ?_
  go_upto_region 18 with fail
  refine wp_region_lit ?_
  refine wl_mv (.tmp 1) rfl rfl (ptr g) rfl ?_
  simp only [Act.put, zA, List.set_cons_succ, zC]
  refine wpList_callF eN20 [.tmp 116, .const (.int .i64 0)] _ rfl rfl [(ptr g), .int .i64 0] rfl ?_
  refine (sOpen RE.out.1 (by decide) RE.out.2.1 RE.out.2.2.1).mono ?_
  rintro e wf ⟨gf, pf, cf, Sf, Ef, cF, mf, rfl, q1, q2, q3, q4, q5, qc, qh, usf, q6⟩
  refine ⟨_, rfl, ?_⟩
  have RF : Hid (Sw w wf cF g 64 mf 5207 ∧ w.heap.size ≤ gf ∧ WalAt wf cF 2 gf g (0 : Nat) Sf Ef ∧ Jo mf 0 64 Sf Ef D2 ∧ mf.fuse < 0 ∧ TxsIn wf (.slice pf 2 cf) D2 ∧ TxsIn wf (.slice pb 2 cb) D2) := ⟨q1, Nat.le_trans RE.out.1.below.size q2, q3, q4, q5, q6.now.ins, (RE.out.2.2.2.kept qh.size fun b hb hp => qh.block b hb hp.2).now⟩
  clear q1 q2 q3 q4 q5 q6 qc qh RE
  simp only [Act.put, zA, List.set_cons_succ, zC]
  refine wl_mv (.tmp 117) rfl rfl (.tuple #[(ptr gf), (.slice pf 2 cf), (.int .i64 0)]) rfl ?_
  simp only [Act.put, zA, List.set_cons_succ, zC]
  refine wl_ext (.tmp 115) 0 rfl rfl #[(ptr gf), (.slice pf 2 cf), (.int .i64 0)] rfl (ptr gf) rfl ?_
  simp only [Act.put, zA, List.set_cons_succ, zC]
  refine wl_ext (.tmp 115) 1 rfl rfl #[(ptr gf), (.slice pf 2 cf), (.int .i64 0)] rfl (.slice pf 2 cf) rfl ?_
  simp only [Act.put, zA, List.set_cons_succ, zC]
  refine wl_ext (.tmp 115) 2 rfl rfl #[(ptr gf), (.slice pf 2 cf), (.int .i64 0)] rfl (.int .i64 0) rfl ?_
  simp only [Act.put, zA, List.set_cons_succ, zC]
  refine wl_as (.tmp 118) rfl rfl (ptr gf) rfl ?_
  simp only [Act.put, zA, List.set_cons_succ, zC]
  refine wl_as (.tmp 119) rfl rfl (.slice pf 2 cf) rfl ?_
  simp only [Act.put, zA, List.set_cons_succ, zC]
  refine wl_as (.tmp 120) rfl rfl (.int .i64 0) rfl ?_
  simp only [Act.put, zA, List.set_cons_succ, zC]
  refine wpList_nil ?_
  go_upto_region 19 with fail
  refine wp_region_lit ?_
  refine wl_mv (.tmp 16) rfl rfl (ptr gf) rfl ?_
  simp only [Act.put, zA, List.set_cons_succ, zC]
  refine wl_ptrE1 (.tmp 121) rfl rfl gf rfl ?_
  simp only [Act.put, zA, List.set_cons_succ, zC]
  refine wl_mv (.tmp 122) rfl rfl (.bool false) rfl ?_
  simp only [Act.put, zA, List.set_cons_succ, zC]
  refine wl_mv (.tmp 15) rfl rfl (.int .i64 2) rfl ?_
  simp only [Act.put, zA, List.set_cons_succ, zC]
  refine wl_neI (.tmp 124) (.const (.int .i64 2)) rfl rfl 2 2 rfl rfl false rfl ?_
  simp only [Act.put, zA, List.set_cons_succ, zC]
  refine wl rfl _ _ (run_pickZ (.tmp 123) (.const (.bool true)) (.tmp 125) rfl false (.bool false) rfl rfl) ?_
  simp only [Act.put, zA, List.set_cons_succ, zC]
  refine wl_mv (.tmp 126) rfl rfl (.bool false) rfl ?_
  simp only [Act.put, zA, List.set_cons_succ, zC]
  refine wl_mv (.tmp 18) rfl rfl (.int .i64 0) rfl ?_
  simp only [Act.put, zA, List.set_cons_succ, zC]
  refine wl_neI (.tmp 128) (.const (.int .i64 0)) rfl rfl 0 0 rfl rfl false rfl ?_
  simp only [Act.put, zA, List.set_cons_succ, zC]
  refine wl rfl _ _ (run_pickZ (.tmp 127) (.const (.bool true)) (.tmp 129) rfl false (.bool false) rfl rfl) ?_
  simp only [Act.put, zA, List.set_cons_succ, zC]
  refine wl_mv (.tmp 130) rfl rfl (.bool false) rfl ?_
  simp only [Act.put, zA, List.set_cons_succ, zC]
  refine wl_mv (.tmp 13) rfl rfl (.slice pb 2 cb) rfl ?_
  simp only [Act.put, zA, List.set_cons_succ, zC]
  refine wl_mv (.tmp 17) rfl rfl (.slice pf 2 cf) rfl ?_
  simp only [Act.put, zA, List.set_cons_succ, zC]
  have HS2 : Hid (Calls Tryd.prog 22 #[.slice pb 2 cb, .slice pf 2 cf] wf fun e w' => e = .returned (.bool true) ∧ Below wf.heap.size wf w') := same_any RF.out.2.2.2.2.2.2 RF.out.2.2.2.2.2.1
  refine wpList_callW eN22 [.tmp 132, .tmp 133] _ rfl rfl [(.slice pb 2 cb), (.slice pf 2 cf)] rfl ?_
  refine HS2.out.mono ?_
  rintro e wh ⟨rfl, bh⟩
  have RH : Hid (Sw w wh cF g 64 mf 5207 ∧ w.heap.size ≤ gf ∧ WalAt wh cF 2 gf g (0 : Nat) Sf Ef ∧ Jo mf 0 64 Sf Ef D2 ∧ mf.fuse < 0) := ⟨RF.out.1.bel bh, RF.out.2.1, RF.out.2.2.1.below bh, RF.out.2.2.2.1, RF.out.2.2.2.2.1⟩
  clear bh RF HS2
  refine ⟨_, rfl, ?_⟩
  simp only [Act.put, zA, List.set_cons_succ, zC]
  refine wl_not (.tmp 134) rfl rfl true rfl ?_
  simp only [Act.put, zA, List.set_cons_succ, zC]
  refine wl rfl _ _ (run_pickZ (.tmp 131) (.const (.bool true)) (.tmp 135) rfl false (.bool false) rfl rfl) ?_
  simp only [Act.put, zA, List.set_cons_succ, zC]
  refine wpList_nil ?_
  go_upto_region 21 with fail
  refine wp_region_lit ?_
  refine wl_mv (.tmp 16) rfl rfl (ptr gf) rfl ?_
  simp only [Act.put, zA, List.set_cons_succ, zC]
  refine wpList_callF eN25 [.tmp 137] _ rfl rfl [(ptr gf)] rfl ?_
  refine (sTrunc RH.out.1 (by decide) RH.out.2.2.1 RH.out.2.1 RH.out.2.2.2.1 RH.out.2.2.2.2).mono ?_
  rintro e wi ⟨rfl, ci, mi, q1, q2, q3, q4, _, _⟩
  refine ⟨_, rfl, ?_⟩
  have RI : Hid (Sw w wi ci g 64 mi 5209 ∧ Jc mi 0 64 [] ∧ mi.fuse < 0) := ⟨q1, q3.jc, q4⟩
  clear q1 q2 q3 q4 RH
  simp only [Act.put, zA, List.set_cons_succ, zC]
  refine wl_as (.tmp 138) rfl rfl (.int .i64 0) rfl ?_
  simp only [Act.put, zA, List.set_cons_succ, zC]
  refine wpList_nil ?_
  go_upto_region 22 with fail
  refine wp_region_lit ?_
  refine wl_mv (.tmp 1) rfl rfl (ptr g) rfl ?_
  simp only [Act.put, zA, List.set_cons_succ, zC]
  refine wpList_callF eN20 [.tmp 140, .const (.int .i64 0)] _ rfl rfl [(ptr g), .int .i64 0] rfl ?_
  refine (sOpen RI.out.1 (by decide) RI.out.2.1 RI.out.2.2).mono ?_
  rintro e wj ⟨gj, pj, cj, Sj, Ej, cJ, mj, rfl, q1, q2, q3, q4, q5, qc, qh, usj, q6⟩
  refine ⟨_, rfl, ?_⟩
  have RJ : Hid (Below w.heap.size w wj) := q1.below
  clear q1 q2 q3 q4 q5 q6 qc qh RI
  simp only [Act.put, zA, List.set_cons_succ, zC]
  refine wl_mv (.tmp 141) rfl rfl (.tuple #[(ptr gj), (.slice pj 0 cj), (.int .i64 0)]) rfl ?_
  simp only [Act.put, zA, List.set_cons_succ, zC]
  refine wl_ext (.tmp 139) 0 rfl rfl #[(ptr gj), (.slice pj 0 cj), (.int .i64 0)] rfl (ptr gj) rfl ?_
  simp only [Act.put, zA, List.set_cons_succ, zC]
  refine wl_ext (.tmp 139) 1 rfl rfl #[(ptr gj), (.slice pj 0 cj), (.int .i64 0)] rfl (.slice pj 0 cj) rfl ?_
  simp only [Act.put, zA, List.set_cons_succ, zC]
  refine wl_ext (.tmp 139) 2 rfl rfl #[(ptr gj), (.slice pj 0 cj), (.int .i64 0)] rfl (.int .i64 0) rfl ?_
  simp only [Act.put, zA, List.set_cons_succ, zC]
  refine wl_as (.tmp 142) rfl rfl (ptr gj) rfl ?_
  simp only [Act.put, zA, List.set_cons_succ, zC]
  refine wl_as (.tmp 143) rfl rfl (.slice pj 0 cj) rfl ?_
  simp only [Act.put, zA, List.set_cons_succ, zC]
  refine wl_as (.tmp 144) rfl rfl (.int .i64 0) rfl ?_
  simp only [Act.put, zA, List.set_cons_succ, zC]
  refine wpList_nil ?_
  go_wp2_with (refine wl_sl sl38 (.tmp 156) rfl rfl pj 0 cj rfl ?_)
  rw [HPQ.out]
  exact ⟨rfl, RJ.out⟩
end Go.Proofs.YtgcecejamcnkiaaDoor

/- The document's proofs: proof, Inclusion, part, Consistency. -/
import Derived.Test.YtfnncccioipjcaaDoorVars
namespace Go.Proofs.YtfnncccioipjcaaDoor
open Go.RowKit

section
variable {w : World} {ops : Array Oper} {rest : List Oper} {o : Oper} {a : Act} {Q : Exit → Act → World → Prop}
theorem wl_lit1o (x : Operand) (hgd : Region.wanted o (yielded ops a.tmps) = true) (ho : o.op = .buildSlice 24 1 #[(0, x)]) (h' : List Nat) (hh : IsH h') (hx : a.eval x = hv h') (base : Nat) (hb : base ≤ w.heap.size)
    (h : ∀ v' w', HOwn w' base v' [h'] → Below w.heap.size w w' → wpList Tryd.prog ops Q rest (a.put o.dst v') w') : wpList Tryd.prog ops Q (o :: rest) a w :=
  wl hgd _ _ (rx_lit1 x ho h' hh hx) (h _ _ (hlit_own w base hb [h'] (AllH.one hh) (by simp)) (below_alloc w _))
end
theorem incl_short (hs : List (List Nat)) (m : Nat) (h : hs.length ≤ 4398046511104) : (Tree.incl hs m).length ≤ 42 := Tree.incl_length 42 hs m h
theorem part_short (hs : List (List Nat)) (m : Nat) (b : Bool) (h : hs.length ≤ 4398046511104) : (Tree.part hs m b).length ≤ 43 := Tree.part_length 42 hs m b h
set_option maxHeartbeats 1000000 in
theorem refProof_one (v : Value) (hs : List (List Nat)) (m : Nat) (w : World) (hn : hs.length = 1) (h : HIn w v hs) :
    Calls Tryd.prog 51 #[v, .int .i64 (m : Nat)] w fun e w' => ∃ v', e = .returned v' ∧ HOwn w' w.heap.size v' (Tree.incl hs m) ∧ Below w.heap.size w w' := by
  have HN : Hid (hs.length = 1) := hn
  clear hn
  go_enter Tryd.func51, Tryd.ntmps51
  go_wp2_with (first | (refine wl_lenN (.tmp 6) rfl rfl v hs rfl h 1 HN.out ?_))
  go_ret
  exact ⟨_, rfl, by rw [Tree.incl_one hs m (by have := HN.out; omega)]; exact HOwn.nil w _, Below.refl _ _⟩
set_option maxHeartbeats 1000000 in
set_option maxRecDepth 100000 in
theorem refProof_any : ∀ (n : Nat) (v : Value) (hs : List (List Nat)) (m : Nat) (w : World), hs.length = n → n ≤ 4398046511104 → m < n → HIn w v hs →
    Calls Tryd.prog 51 #[v, .int .i64 (m : Nat)] w fun e w' => ∃ v', e = .returned v' ∧ HOwn w' w.heap.size v' (Tree.incl hs m) ∧ Below w.heap.size w w' := by
  intro n
  induction n using Nat.strongRecOn with
  | _ n ih =>
  intro v hs m w hn hmax hm h
  by_cases h1 : n = 1
  · exact refProof_one v hs m w (by omega) h
  have h2 : 2 ≤ n := by omega
  have HN : Hid (hs.length = n) := hn
  have hk := Tree.half_lt n h2
  have hkp := Tree.half_pos n
  have hkg := Tree.half_ge n h2
  have HK : Hid (∀ W, Calls Tryd.prog 52 #[.int .i64 (n : Nat)] W fun e w' => e = .returned (.int .i64 (Tree.half n : Nat)) ∧ W = w') := fun W => half_any n W h2 (by omega)
  have hne1 : ((n : Int) == 1) = false := by simp; omega
  have hne1' : ¬ ((n : Int) = 1) := by omega
  by_cases hlow : m < Tree.half n
  · have HR : Hid (Tree.incl hs m = Tree.incl (hs.take (Tree.half n)) m ++ [Tree.root (hs.drop (Tree.half n))]) := by
      have := Tree.incl_low hs m (by omega) (by rw [hn]; exact hlow)
      rwa [hn] at this
    have LP : Hid ((Tree.incl (hs.take (Tree.half n)) m).length ≤ 42) := incl_short _ m (by rw [List.length_take]; omega)
    generalize Tree.half n = k at hk hkp hkg HK HR LP hlow
    obtain ⟨va, ra, sa⟩ := run_hto h k (by omega)
    obtain ⟨vb, rb, sb⟩ := run_hfrom h k (by omega)
    have HA : Hid (∀ w', (Instr.slice 24 v none (some (.int .i64 (k : Nat))) none).run Tryd.prog w' = .ok va w') := ra
    have HBr : Hid (∀ w', (Instr.slice 24 v (some (.int .i64 (k : Nat))) none none).run Tryd.prog w' = .ok vb w') := rb
    have HSva : Hid (HIn w va (hs.take k)) := sa
    have HSvb : Hid (HIn w vb (hs.drop k)) := sb
    have LA : Hid ((hs.take k).length = k) := by show _ = _; rw [List.length_take]; omega
    have LB : Hid ((hs.drop k).length = n - k) := by show _ = _; rw [List.length_drop]; omega
    clear ra rb sa sb hn
    have hlow' : (m : Int) < (k : Int) := by omega
    go_enter Tryd.func51, Tryd.ntmps51
    go_wp2_with (first
      | (refine wl_lenN (.tmp 6) rfl rfl v hs rfl h n HN.out ?_)
      | (refine wl_lenN (.tmp 9) rfl rfl v hs rfl h n HN.out ?_)
      | (go_at_call 52; refine (HK.out _).mono ?_; rintro e w' ⟨rfl, rfl⟩))
    refine wp_region_held (S := Below w.heap.size w) (by kernel_rfl) ?_
    show wpAnyH _ _ _ _ _ 12 (Array.replicate 12 false) _ _
    have hS : Below w.heap.size w { w with drawn := w.drawn + 1 } := below_drawn w _
    refine takeH (i := 0) (some 15) rfl rfl (by kernel_rfl) (by kernel_rfl) (by kernel_rfl) (fun _ _ _ h => h) (yMove rfl (.tmp 0) rfl (v) rfl) hS ?_
    simp only [Act.put, List.setIfInBounds_toArray, List.set_cons_succ, List.set_cons_zero]
    refine takeH (i := 1) (some 16) rfl rfl (by kernel_rfl) (by kernel_rfl) (by kernel_rfl) (fun _ _ _ h => h) (yMove rfl (.tmp 5) rfl (.int .i64 (k : Nat)) rfl) hS ?_
    simp only [Act.put, List.setIfInBounds_toArray, List.set_cons_succ, List.set_cons_zero]
    refine takeH (i := 2) (some 17) rfl rfl (by kernel_rfl) (by kernel_rfl) (by kernel_rfl) (fun _ _ _ h => h) (ySub rfl (.tmp 15) none (some (.tmp 16)) rfl v va rfl HA.out) hS ?_
    simp only [Act.put, List.setIfInBounds_toArray, List.set_cons_succ, List.set_cons_zero]
    refine takeH (i := 3) (some 18) rfl rfl (by kernel_rfl) (by kernel_rfl) (by kernel_rfl) (fun _ _ _ h => h) (yMove rfl (.tmp 1) rfl (.int .i64 (m : Nat)) rfl) hS ?_
    simp only [Act.put, List.setIfInBounds_toArray, List.set_cons_succ, List.set_cons_zero]
    refine takeH (i := 5) (some 20) rfl rfl (by kernel_rfl) (by kernel_rfl) (by kernel_rfl) (fun _ _ _ h => h) (yMove rfl (.tmp 0) rfl (v) rfl) hS ?_
    simp only [Act.put, List.setIfInBounds_toArray, List.set_cons_succ, List.set_cons_zero]
    refine takeH (i := 6) (some 21) rfl rfl (by kernel_rfl) (by kernel_rfl) (by kernel_rfl) (fun _ _ _ h => h) (yMove rfl (.tmp 5) rfl (.int .i64 (k : Nat)) rfl) hS ?_
    simp only [Act.put, List.setIfInBounds_toArray, List.set_cons_succ, List.set_cons_zero]
    refine takeH (i := 7) (some 22) rfl rfl (by kernel_rfl) (by kernel_rfl) (by kernel_rfl) (fun _ _ _ h => h) (ySub rfl (.tmp 20) (some (.tmp 21)) none rfl v vb rfl HBr.out) hS ?_
    simp only [Act.put, List.setIfInBounds_toArray, List.set_cons_succ, List.set_cons_zero]
    refine oneH (i := 4) (by kernel_rfl) ?_
    refine opCallA (some 19) rfl rfl rfl 51 _ (run_call en34 [.tmp 17, .tmp 18] _ rfl [va, .int .i64 (m : Nat)] rfl) ?_
    refine (ih k (by omega) va (hs.take k) m _ LA.out (by omega) (by omega) (HSva.out.later hS)).mono ?_
    rintro e w2 ⟨v2, rfl, o2, b2⟩
    have hS2 : Below w.heap.size w w2 := below_append hS b2
    have O2 : Hid (HOwn w2 w.heap.size v2 (Tree.incl (hs.take k) m)) := o2.weaken hS.size
    refine ⟨_, rfl, hS2, ?_⟩
    clear hS o2 b2
    simp only [Act.put, List.setIfInBounds_toArray, List.set_cons_succ, List.set_cons_zero]
    refine oneH (i := 8) (by kernel_rfl) ?_
    refine opCallA (some 23) rfl rfl rfl 44 _ (run_call en13 [.tmp 22] _ rfl [vb] rfl) ?_
    refine (refRoot_any _ vb (hs.drop k) w2 LB.out (by omega) (HSvb.out.later hS2)).mono ?_
    rintro e w3 ⟨rfl, b3⟩
    have hS3 : Below w.heap.size w w3 := below_append hS2 b3
    have O3 : Hid (HOwn w3 w.heap.size v2 (Tree.incl (hs.take k) m)) := O2.out.later b3 (Nat.le_refl _)
    refine ⟨_, rfl, hS3, ?_⟩
    clear hS2 b3 O2
    have HH : Hid (IsH (Tree.root (hs.drop k))) := HSvb.out.all.root
    generalize Tree.root (hs.drop k) = rt at HR HH ⊢
    simp only [Act.put, List.setIfInBounds_toArray, List.set_cons_succ, List.set_cons_zero]
    refine oneH (i := 9) (by kernel_rfl) ?_
    refine opVal (some 24) rfl rfl rfl _ _ (rx_lit1 (.tmp 23) rfl rt HH.out rfl) ?_
    have b4 := below_alloc w3 (.cells (bcells [rt].flatten).toArray 29)
    have hl4 : HIn (w3.alloc (.cells (bcells [rt].flatten).toArray 29)) (.slice (some ⟨w3.heap.size, 0, none⟩) 1 1) [rt] := (hlit_own w3 w3.heap.size (Nat.le_refl _) [rt] (AllH.one HH.out) (by simp)).hin
    have hS4 := below_append hS3 b4
    have o4 := O3.out.later b4 (Nat.le_refl _)
    generalize w3.alloc (.cells (bcells [rt].flatten).toArray 29) = w4 at b4 hl4 hS4 o4 ⊢
    refine ⟨hS4, ?_⟩
    simp only [Act.put, List.setIfInBounds_toArray, List.set_cons_succ, List.set_cons_zero]
    refine oneH (i := 10) (by kernel_rfl) ?_
    obtain ⟨v5, w5, hr5, o5, g5⟩ := run_happend w.heap.size 24 v2 _ (Tree.incl (hs.take k) m) [rt] o4 hl4 (by have := LP.out; simp only [List.length_cons, List.length_nil]; omega) hS4.size
    refine opVal (some 25) rfl rfl rfl v5 w5 (rx_append (.tmp 19) (.tmp 24) rfl v2 _ v5 w5 rfl rfl hr5) ?_
    have hS5 : Below w.heap.size w w5 := hS4.trans (o4.below g5 hS4.size)
    have O5 : Hid (HOwn w5 w.heap.size v5 (Tree.incl hs m)) := by show HOwn _ _ _ _; rw [HR.out]; exact o5
    refine ⟨hS5, ?_⟩
    clear hS3 O3 b4 hl4 hS4 o4 o5 g5 hr5
    simp only [Act.put, List.setIfInBounds_toArray, List.set_cons_succ, List.set_cons_zero]
    refine takeH (i := 11) (some 4) rfl rfl (by kernel_rfl) (by kernel_rfl) (by kernel_rfl) (fun _ _ _ h => h) (yAssign rfl (.tmp 25) rfl (v5) rfl) hS5 ?_
    simp only [Act.put, List.setIfInBounds_toArray, List.set_cons_succ, List.set_cons_zero]
    refine wpAnyH_done (by kernel_rfl) ?_ _
    have HB5 : Hid (Below w.heap.size w w5) := hS5
    clear hS5
    go_wp2_with fail
    go_ret
    exact ⟨v5, rfl, O5.out, HB5.out⟩
  · have HR : Hid (Tree.incl hs m = Tree.incl (hs.drop (Tree.half n)) (m - Tree.half n) ++ [Tree.root (hs.take (Tree.half n))]) := by
      have := Tree.incl_high hs m (by omega) (by rw [hn]; exact hlow)
      rwa [hn] at this
    have LP : Hid ((Tree.incl (hs.drop (Tree.half n)) (m - Tree.half n)).length ≤ 42) := incl_short _ _ (by rw [List.length_drop]; omega)
    generalize Tree.half n = k at hk hkp hkg HK HR LP hlow
    obtain ⟨va, ra, sa⟩ := run_hto h k (by omega)
    obtain ⟨vb, rb, sb⟩ := run_hfrom h k (by omega)
    have HA : Hid (∀ w', (Instr.slice 24 v none (some (.int .i64 (k : Nat))) none).run Tryd.prog w' = .ok va w') := ra
    have HBr : Hid (∀ w', (Instr.slice 24 v (some (.int .i64 (k : Nat))) none none).run Tryd.prog w' = .ok vb w') := rb
    have HSva : Hid (HIn w va (hs.take k)) := sa
    have HSvb : Hid (HIn w vb (hs.drop k)) := sb
    have LA : Hid ((hs.take k).length = k) := by show _ = _; rw [List.length_take]; omega
    have LB : Hid ((hs.drop k).length = n - k) := by show _ = _; rw [List.length_drop]; omega
    clear ra rb sa sb hn
    have hlow' : ¬ (m : Int) < (k : Int) := by omega
    go_enter Tryd.func51, Tryd.ntmps51
    go_wp2_with (first
      | (refine wl_lenN (.tmp 6) rfl rfl v hs rfl h n HN.out ?_)
      | (refine wl_lenN (.tmp 9) rfl rfl v hs rfl h n HN.out ?_)
      | (go_at_call 52; refine (HK.out _).mono ?_; rintro e w' ⟨rfl, rfl⟩))
    refine wp_region_held (S := Below w.heap.size w) (by kernel_rfl) ?_
    show wpAnyH _ _ _ _ _ 14 (Array.replicate 14 false) _ _
    have hS : Below w.heap.size w { w with drawn := w.drawn + 1 } := below_drawn w _
    refine takeH (i := 0) (some 26) rfl rfl (by kernel_rfl) (by kernel_rfl) (by kernel_rfl) (fun _ _ _ h => h) (yMove rfl (.tmp 0) rfl (v) rfl) hS ?_
    simp only [Act.put, List.setIfInBounds_toArray, List.set_cons_succ, List.set_cons_zero]
    refine takeH (i := 1) (some 27) rfl rfl (by kernel_rfl) (by kernel_rfl) (by kernel_rfl) (fun _ _ _ h => h) (yMove rfl (.tmp 5) rfl (.int .i64 (k : Nat)) rfl) hS ?_
    simp only [Act.put, List.setIfInBounds_toArray, List.set_cons_succ, List.set_cons_zero]
    refine takeH (i := 2) (some 28) rfl rfl (by kernel_rfl) (by kernel_rfl) (by kernel_rfl) (fun _ _ _ h => h) (ySub rfl (.tmp 26) (some (.tmp 27)) none rfl v vb rfl HBr.out) hS ?_
    simp only [Act.put, List.setIfInBounds_toArray, List.set_cons_succ, List.set_cons_zero]
    refine takeH (i := 3) (some 29) rfl rfl (by kernel_rfl) (by kernel_rfl) (by kernel_rfl) (fun _ _ _ h => h) (yMove rfl (.tmp 1) rfl (.int .i64 (m : Nat)) rfl) hS ?_
    simp only [Act.put, List.setIfInBounds_toArray, List.set_cons_succ, List.set_cons_zero]
    refine takeH (i := 4) (some 30) rfl rfl (by kernel_rfl) (by kernel_rfl) (by kernel_rfl) (fun _ _ _ h => h) (yMove rfl (.tmp 5) rfl (.int .i64 (k : Nat)) rfl) hS ?_
    simp only [Act.put, List.setIfInBounds_toArray, List.set_cons_succ, List.set_cons_zero]
    refine takeH (i := 5) (some 31) rfl rfl (by kernel_rfl) (by kernel_rfl) (by kernel_rfl) (fun _ _ _ h => h) (yRun rfl _ (fun _ _ => rx_minus (.tmp 29) (.tmp 30) rfl m k rfl rfl (by omega) (by omega))) hS ?_
    simp only [Act.put, List.setIfInBounds_toArray, List.set_cons_succ, List.set_cons_zero]
    refine takeH (i := 7) (some 33) rfl rfl (by kernel_rfl) (by kernel_rfl) (by kernel_rfl) (fun _ _ _ h => h) (yMove rfl (.tmp 0) rfl (v) rfl) hS ?_
    simp only [Act.put, List.setIfInBounds_toArray, List.set_cons_succ, List.set_cons_zero]
    refine takeH (i := 8) (some 34) rfl rfl (by kernel_rfl) (by kernel_rfl) (by kernel_rfl) (fun _ _ _ h => h) (yMove rfl (.tmp 5) rfl (.int .i64 (k : Nat)) rfl) hS ?_
    simp only [Act.put, List.setIfInBounds_toArray, List.set_cons_succ, List.set_cons_zero]
    refine takeH (i := 9) (some 35) rfl rfl (by kernel_rfl) (by kernel_rfl) (by kernel_rfl) (fun _ _ _ h => h) (ySub rfl (.tmp 33) none (some (.tmp 34)) rfl v va rfl HA.out) hS ?_
    simp only [Act.put, List.setIfInBounds_toArray, List.set_cons_succ, List.set_cons_zero]
    refine oneH (i := 6) (by kernel_rfl) ?_
    refine opCallA (some 32) rfl rfl rfl 51 _ (run_call en34 [.tmp 28, .tmp 31] _ rfl [vb, .int .i64 ((m - k : Nat) : Int)] rfl) ?_
    refine (ih (n - k) (by omega) vb (hs.drop k) (m - k) _ LB.out (by omega) (by omega) (HSvb.out.later hS)).mono ?_
    rintro e w2 ⟨v2, rfl, o2, b2⟩
    have hS2 : Below w.heap.size w w2 := below_append hS b2
    have O2 : Hid (HOwn w2 w.heap.size v2 (Tree.incl (hs.drop k) (m - k))) := o2.weaken hS.size
    refine ⟨_, rfl, hS2, ?_⟩
    clear hS o2 b2
    simp only [Act.put, List.setIfInBounds_toArray, List.set_cons_succ, List.set_cons_zero]
    refine oneH (i := 10) (by kernel_rfl) ?_
    refine opCallA (some 36) rfl rfl rfl 44 _ (run_call en13 [.tmp 35] _ rfl [va] rfl) ?_
    refine (refRoot_any _ va (hs.take k) w2 LA.out (by omega) (HSva.out.later hS2)).mono ?_
    rintro e w3 ⟨rfl, b3⟩
    have hS3 : Below w.heap.size w w3 := below_append hS2 b3
    have O3 : Hid (HOwn w3 w.heap.size v2 (Tree.incl (hs.drop k) (m - k))) := O2.out.later b3 (Nat.le_refl _)
    refine ⟨_, rfl, hS3, ?_⟩
    clear hS2 b3 O2
    have HH : Hid (IsH (Tree.root (hs.take k))) := HSva.out.all.root
    generalize Tree.root (hs.take k) = rt at HR HH ⊢
    simp only [Act.put, List.setIfInBounds_toArray, List.set_cons_succ, List.set_cons_zero]
    refine oneH (i := 11) (by kernel_rfl) ?_
    refine opVal (some 37) rfl rfl rfl _ _ (rx_lit1 (.tmp 36) rfl rt HH.out rfl) ?_
    have b4 := below_alloc w3 (.cells (bcells [rt].flatten).toArray 29)
    have hl4 : HIn (w3.alloc (.cells (bcells [rt].flatten).toArray 29)) (.slice (some ⟨w3.heap.size, 0, none⟩) 1 1) [rt] := (hlit_own w3 w3.heap.size (Nat.le_refl _) [rt] (AllH.one HH.out) (by simp)).hin
    have hS4 := below_append hS3 b4
    have o4 := O3.out.later b4 (Nat.le_refl _)
    generalize w3.alloc (.cells (bcells [rt].flatten).toArray 29) = w4 at b4 hl4 hS4 o4 ⊢
    refine ⟨hS4, ?_⟩
    simp only [Act.put, List.setIfInBounds_toArray, List.set_cons_succ, List.set_cons_zero]
    refine oneH (i := 12) (by kernel_rfl) ?_
    obtain ⟨v5, w5, hr5, o5, g5⟩ := run_happend w.heap.size 24 v2 _ (Tree.incl (hs.drop k) (m - k)) [rt] o4 hl4 (by have := LP.out; simp only [List.length_cons, List.length_nil]; omega) hS4.size
    refine opVal (some 38) rfl rfl rfl v5 w5 (rx_append (.tmp 32) (.tmp 37) rfl v2 _ v5 w5 rfl rfl hr5) ?_
    have hS5 : Below w.heap.size w w5 := hS4.trans (o4.below g5 hS4.size)
    have O5 : Hid (HOwn w5 w.heap.size v5 (Tree.incl hs m)) := by show HOwn _ _ _ _; rw [HR.out]; exact o5
    refine ⟨hS5, ?_⟩
    clear hS3 O3 b4 hl4 hS4 o4 o5 g5 hr5
    simp only [Act.put, List.setIfInBounds_toArray, List.set_cons_succ, List.set_cons_zero]
    refine takeH (i := 13) (some 4) rfl rfl (by kernel_rfl) (by kernel_rfl) (by kernel_rfl) (fun _ _ _ h => h) (yAssign rfl (.tmp 38) rfl (v5) rfl) hS5 ?_
    simp only [Act.put, List.setIfInBounds_toArray, List.set_cons_succ, List.set_cons_zero]
    refine wpAnyH_done (by kernel_rfl) ?_ _
    have HB5 : Hid (Below w.heap.size w w5) := hS5
    clear hS5
    go_wp2_with fail
    go_ret
    exact ⟨v5, rfl, O5.out, HB5.out⟩

end Go.Proofs.YtfnncccioipjcaaDoor

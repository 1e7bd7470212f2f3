/- A reader: bytes, numbers, places. -/
import Derived.Test.YtncjmolhofnpbaaR2
namespace Go.Proofs.Ytncjmolhofnpbaa
open Go.RowKit

theorem take_any (g n : Nat) (l : List Nat) (w : World) (hr : RdAt w g l) :
    Calls Try.prog 43 #[ptr g, .int .i64 (n : Nat)] w fun e w' => Ch (· = g) w w' ∧ ((l.length < n ∧ e = .panicked GU) ∨ (n ≤ l.length ∧ ∃ v', e = .returned v' ∧ Off w' g v' (l.take n) ∧ RdAt w' g (l.drop n))) := by
  obtain ⟨v, row, off⟩ := hr
  obtain ⟨od, hod⟩ : ∃ od, od = decide ((n : Int) ≤ (l.length : Int)) := ⟨_, rfl⟩
  have HL : Hid (Row w g 62 [v] ∧ Off w g v l ∧ decide ((n : Int) ≤ (l.length : Int)) = od) := ⟨row, off, hod.symm⟩
  clear hod row off
  obtain ⟨PQ, HPQ⟩ : ∃ PQ : Ending → World → Prop, Hid (PQ = fun e w' => Ch (· = g) w w' ∧ ((l.length < n ∧ e = .panicked GU) ∨ (n ≤ l.length ∧ ∃ v', e = .returned v' ∧ Off w' g v' (l.take n) ∧ RdAt w' g (l.drop n)))) := ⟨_, rfl⟩
  rw [← HPQ.out]
  go_enter Try.func43, Try.ntmps43
  go_upto_region 1 with fail
  refine wp_region_lit ?_
  refine wl rfl (.int .i64 (n : Nat)) _ (run_mvZ (.tmp 1) rfl (.int .i64 (n : Nat)) rfl) ?_
  simp only [Act.put, List.setIfInBounds_toArray, List.set_cons_succ, List.set_cons_zero]
  refine wl rfl (ptr g) _ (run_mvZ (.tmp 0) rfl (ptr g) rfl) ?_
  simp only [Act.put, List.setIfInBounds_toArray, List.set_cons_succ, List.set_cons_zero]
  refine wl rfl (ptr g) _ (run_nil (.tmp 7) rfl ⟨g, 0, none⟩ rfl) ?_
  simp only [Act.put, List.setIfInBounds_toArray, List.set_cons_succ, List.set_cons_zero]
  refine wl rfl (.pointer (some ⟨g, 0 + 0, none⟩)) _ (run_fieldOp' f62_0 (.tmp 8) rfl g (0) rfl) ?_
  simp only [Act.put, List.setIfInBounds_toArray, List.set_cons_succ, List.set_cons_zero]
  refine wl rfl v _ (run_load1 o28 (.tmp 9) rfl g (0 + 0) rfl v (HL.out.1.at 0 v rfl)) ?_
  simp only [Act.put, List.setIfInBounds_toArray, List.set_cons_succ, List.set_cons_zero]
  refine wl rfl (.int .i64 (l.length : Nat)) _ (run_lenB HL.out.2.1.1 (.tmp 10) rfl rfl) ?_
  simp only [Act.put, List.setIfInBounds_toArray, List.set_cons_succ, List.set_cons_zero]
  refine wl rfl (.bool od) _ (run_leqZ (.tmp 6) (.tmp 11) rfl (n : Nat) (l.length : Nat) rfl rfl od HL.out.2.2) ?_
  simp only [Act.put, List.setIfInBounds_toArray, List.set_cons_succ, List.set_cons_zero]
  refine wpList_callP eN42 [.tmp 12] _ rfl rfl [(.bool od)] rfl ?_
  refine (must_any od w).mono ?_
  rintro e w1 (⟨hd, rfl, rfl⟩ | ⟨hd, rfl, rfl⟩)
  · refine Or.inr ⟨_, rfl, ?_⟩
    refine ⟨rfl, ?_⟩
    rw [HPQ.out]
    have hlt : l.length < n := (by have := HL.out.2.2; rw [hd] at this; simp at this; omega)
    exact ⟨Ch.refl _ _, Or.inl ⟨hlt, rfl⟩⟩
  refine Or.inl ⟨_, rfl, ?_⟩
  have hle : n ≤ l.length := (by have := HL.out.2.2; rw [hd] at this; simp at this; omega)
  simp only [Act.put, List.setIfInBounds_toArray, List.set_cons_succ, List.set_cons_zero]
  refine wpList_nil ?_
  obtain ⟨va, ra, sa, oa⟩ := run_bsubO HL.out.2.1.1 (lo := none) (hi := some (.int .i64 (n : Nat))) (mx := some (.int .i64 (n : Nat))) (l := 0) (h := n) ⟨Or.inl ⟨rfl, rfl⟩, Or.inr ⟨_, rfl, rfl, Or.inr rfl⟩, Nat.zero_le _, hle⟩
  obtain ⟨vb, rb, sb, ob⟩ := run_bsubO HL.out.2.1.1 (lo := some (.int .i64 (n : Nat))) (hi := none) (mx := none) (l := n) (h := l.length) ⟨Or.inr ⟨_, rfl, rfl⟩, Or.inl ⟨rfl, rfl, rfl⟩, hle, Nat.le_refl _⟩
  rw [List.take_length] at sb
  have HA : Hid (∀ w', (Instr.slice 28 v none (some (.int .i64 (n : Nat))) (some (.int .i64 (n : Nat)))).run Try.prog w' = .ok va w') := ra
  have HB : Hid (∀ w', (Instr.slice 28 v (some (.int .i64 (n : Nat))) none none).run Try.prog w' = .ok vb w') := rb
  have hoff : ∀ (x : Value) (l' : List Nat), (x.ownBlock = none ∨ x.ownBlock = v.ownBlock) → (l' ≠ [] → l ≠ []) → (l' ≠ [] → ∀ b, x.ownBlock = some b → b < g) := fun x l' hx hl' hn b e => by
    rcases hx with hx | hx
    · rw [hx] at e; cases e
    · exact HL.out.2.1.2 (hl' hn) b (hx ▸ e)
  have HV : Hid (Off w g va (l.take n) ∧ Off w g vb (l.drop n)) := ⟨⟨sa, hoff va _ oa (fun h e => h (by rw [e]; simp))⟩, ⟨sb, hoff vb _ ob (fun h e => h (by rw [e]; simp))⟩⟩
  clear ra rb sa sb oa ob hoff
  go_upto_region 2 with fail
  refine wp_region_lit ?_
  refine wl rfl (ptr g) _ (run_mvZ (.tmp 0) rfl (ptr g) rfl) ?_
  simp only [Act.put, List.setIfInBounds_toArray, List.set_cons_succ, List.set_cons_zero]
  refine wl rfl (ptr g) _ (run_nil (.tmp 14) rfl ⟨g, 0, none⟩ rfl) ?_
  simp only [Act.put, List.setIfInBounds_toArray, List.set_cons_succ, List.set_cons_zero]
  refine wl rfl (.pointer (some ⟨g, 0 + 0, none⟩)) _ (run_fieldOp' f62_0 (.tmp 15) rfl g (0) rfl) ?_
  simp only [Act.put, List.setIfInBounds_toArray, List.set_cons_succ, List.set_cons_zero]
  refine wl rfl v _ (run_load1 o28 (.tmp 16) rfl g (0 + 0) rfl v (HL.out.1.at 0 v rfl)) ?_
  simp only [Act.put, List.setIfInBounds_toArray, List.set_cons_succ, List.set_cons_zero]
  refine wl rfl (.int .i64 (n : Nat)) _ (run_mvZ (.tmp 1) rfl (.int .i64 (n : Nat)) rfl) ?_
  simp only [Act.put, List.setIfInBounds_toArray, List.set_cons_succ, List.set_cons_zero]
  refine wl rfl (.int .i64 (n : Nat)) _ (run_mvZ (.tmp 1) rfl (.int .i64 (n : Nat)) rfl) ?_
  simp only [Act.put, List.setIfInBounds_toArray, List.set_cons_succ, List.set_cons_zero]
  refine wl rfl va _ (run_subZ (.tmp 17) none (some (.tmp 18)) (some (.tmp 19)) rfl v va HL.out.2.1.1.isSlice rfl none (some (.int .i64 (n : Nat))) (some (.int .i64 (n : Nat))) rfl rfl rfl HA.out) ?_
  simp only [Act.put, List.setIfInBounds_toArray, List.set_cons_succ, List.set_cons_zero]
  refine wl rfl va _ (run_asZ (.tmp 20) rfl va rfl) ?_
  simp only [Act.put, List.setIfInBounds_toArray, List.set_cons_succ, List.set_cons_zero]
  refine wpList_nil ?_
  go_upto_region 3 with fail
  refine wp_region_lit ?_
  refine wl rfl (ptr g) _ (run_mvZ (.tmp 0) rfl (ptr g) rfl) ?_
  simp only [Act.put, List.setIfInBounds_toArray, List.set_cons_succ, List.set_cons_zero]
  refine wl rfl (ptr g) _ (run_mvZ (.tmp 0) rfl (ptr g) rfl) ?_
  simp only [Act.put, List.setIfInBounds_toArray, List.set_cons_succ, List.set_cons_zero]
  refine wl rfl (ptr g) _ (run_nil (.tmp 22) rfl ⟨g, 0, none⟩ rfl) ?_
  simp only [Act.put, List.setIfInBounds_toArray, List.set_cons_succ, List.set_cons_zero]
  refine wl rfl (.pointer (some ⟨g, 0 + 0, none⟩)) _ (run_fieldOp' f62_0 (.tmp 23) rfl g (0) rfl) ?_
  simp only [Act.put, List.setIfInBounds_toArray, List.set_cons_succ, List.set_cons_zero]
  refine wl rfl v _ (run_load1 o28 (.tmp 24) rfl g (0 + 0) rfl v (HL.out.1.at 0 v rfl)) ?_
  simp only [Act.put, List.setIfInBounds_toArray, List.set_cons_succ, List.set_cons_zero]
  refine wl rfl (.int .i64 (n : Nat)) _ (run_mvZ (.tmp 1) rfl (.int .i64 (n : Nat)) rfl) ?_
  simp only [Act.put, List.setIfInBounds_toArray, List.set_cons_succ, List.set_cons_zero]
  refine wl rfl vb _ (run_subZ (.tmp 25) (some (.tmp 26)) none none rfl v vb HL.out.2.1.1.isSlice rfl (some (.int .i64 (n : Nat))) none none rfl rfl rfl HB.out) ?_
  simp only [Act.put, List.setIfInBounds_toArray, List.set_cons_succ, List.set_cons_zero]
  refine wl rfl (ptr g) _ (run_nil (.tmp 21) rfl ⟨g, 0, none⟩ rfl) ?_
  simp only [Act.put, List.setIfInBounds_toArray, List.set_cons_succ, List.set_cons_zero]
  refine wl rfl (.pointer (some ⟨g, 0 + 0, none⟩)) _ (run_fieldOp' f62_0 (.tmp 28) rfl g (0) rfl) ?_
  simp only [Act.put, List.setIfInBounds_toArray, List.set_cons_succ, List.set_cons_zero]
  refine wl_put (t := 28) (by kernel_rfl) (.tmp 29) (.tmp 27) rfl rfl rfl g 0 62 [v] rfl vb rfl (by obtain ⟨p, k, c, e⟩ := HV.out.2.1.isSlice; subst e; exact ⟨rfl, rfl⟩) HL.out.1 (by simp) ?_
  have HN : Hid (Ch (· = g) w (w.setCell ⟨g, 0, none⟩ vb) ∧ Row (w.setCell ⟨g, 0, none⟩ vb) g 62 [vb]) := ⟨(Ch.refl (· = g) w).setCell (g := g) (Or.inl rfl) _ _, row_cell' HL.out.1 vb⟩
  obtain ⟨w2, hw2⟩ : ∃ w2, w2 = w.setCell ⟨g, 0, none⟩ vb := ⟨_, rfl⟩
  rw [← hw2] at HN ⊢
  clear hw2
  refine wpList_nil ?_
  go_wp2
  rw [HPQ.out]
  exact ⟨HN.out.1, Or.inr ⟨hle, va, rfl, HV.out.1.ch HN.out.1 (Nat.le_of_lt HL.out.1.lt), vb, HN.out.2, HV.out.2.ch HN.out.1 (Nat.le_of_lt HL.out.1.lt)⟩⟩
/-- what the reading of a number tells -/
def TellsN (w : World) (g : Nat) (o : Option (Nat × List Nat)) (e : Ending) (w' : World) : Prop :=
  Ch (· = g) w w' ∧ ((o = none ∧ e = .panicked GU) ∨ (∃ x l', o = some (x, l') ∧ e = .returned (.int .i64 (x : Nat)) ∧ RdAt w' g l'))
theorem number_any (g n : Nat) (l : List Nat) (w : World) (hr : RdAt w g l) (h1 : 1 ≤ n) (h6 : n ≤ 6) :
    Calls Try.prog 39 #[ptr g, .int .i64 (n : Nat)] w fun e w' => TellsN w g (num n l) e w' := by
  have HR : Hid (RdAt w g l) := hr
  clear hr
  obtain ⟨PQ, HPQ⟩ : ∃ PQ : Ending → World → Prop, Hid (PQ = fun e w' => TellsN w g (num n l) e w') := ⟨_, rfl⟩
  rw [← HPQ.out]
  go_enter Try.func39, Try.ntmps39
  go_upto_region 1 with fail
  refine wp_region_lit ?_
  refine wl rfl (ptr g) _ (run_mvZ (.tmp 0) rfl (ptr g) rfl) ?_
  simp only [Act.put, List.setIfInBounds_toArray, List.set_cons_succ, List.set_cons_zero]
  refine wl rfl (.int .i64 (n : Nat)) _ (run_mvZ (.tmp 1) rfl (.int .i64 (n : Nat)) rfl) ?_
  simp only [Act.put, List.setIfInBounds_toArray, List.set_cons_succ, List.set_cons_zero]
  refine wpList_callP eN43 [.tmp 9, .tmp 10] _ rfl rfl [(ptr g), (.int .i64 (n : Nat))] rfl ?_
  refine (take_any g n l w HR.out).mono ?_
  rintro e w1 ⟨hc, ⟨hlt, rfl⟩ | ⟨hle, v1, rfl, o1, r1⟩⟩
  · refine Or.inr ⟨_, rfl, ?_⟩
    refine ⟨rfl, ?_⟩
    rw [HPQ.out]
    have hn : num n l = none := (by unfold num tk; rw [if_neg (by omega)]; rfl)
    exact ⟨hc, Or.inl ⟨hn, rfl⟩⟩
  refine Or.inl ⟨_, rfl, ?_⟩
  have HT : Hid (Ch (· = g) w w1 ∧ Off w1 g v1 (l.take n) ∧ RdAt w1 g (l.drop n) ∧ n ≤ l.length) := ⟨hc, o1, r1, hle⟩
  clear hc o1 r1
  simp only [Act.put, List.setIfInBounds_toArray, List.set_cons_succ, List.set_cons_zero]
  refine wl rfl (.int .i64 (n : Nat)) _ (run_mvZ (.tmp 1) rfl (.int .i64 (n : Nat)) rfl) ?_
  simp only [Act.put, List.setIfInBounds_toArray, List.set_cons_succ, List.set_cons_zero]
  refine wpList_callW eN44 [.tmp 11, .tmp 12] _ rfl rfl [v1, (.int .i64 (n : Nat))] rfl ?_
  refine (Fr.take_yes v1 (l.take n) n w1 HT.out.2.1.1 h1 (by omega) (by rw [List.length_take]; omega) (by rw [List.length_take]; omega)).mono ?_
  rintro e w2 ⟨v2, rfl, o2, b2⟩
  refine ⟨_, rfl, ?_⟩
  have hm : (l.take n).length = n := (by rw [List.length_take]; have := HT.out.2.2.2; omega)
  have hv : Fr.Frame.val (l.take n) < 281474976710656 := (by
    have q1 := Fr.Frame.val_lt (l.take n) (SliceIn.lt256 HT.out.2.1.1)
    rw [hm] at q1
    have q2 : 256 ^ n ≤ 256 ^ 6 := Nat.pow_le_pow_right (by decide) h6
    omega)
  have HT2 : Hid (Ch (· = g) w w2 ∧ RdAt w2 g (l.drop n) ∧ num n l = some (Fr.Frame.val (l.take n), l.drop n)) := (by
    have hc2 : Ch (· = g) w1 w2 := Ch.of_below b2
    refine ⟨HT.out.1.trans hc2, HT.out.2.2.1.later (b2.mono HT.out.2.2.1.lt), ?_⟩
    unfold num tk
    rw [if_pos HT.out.2.2.2]
    rfl)
  rw [show (l.take n).take n = l.take n from List.take_of_length_le (by omega)]
  generalize Fr.Frame.val (l.take n) = q at hv HT2 ⊢
  clear hm o2 b2 HT
  simp only [Act.put, List.setIfInBounds_toArray, List.set_cons_succ, List.set_cons_zero]
  refine wl rfl (.tuple #[(.int .u64 (q : Nat)), v2, (.int .i64 0)]) _ (run_mvZ (.tmp 13) rfl (.tuple #[(.int .u64 (q : Nat)), v2, (.int .i64 0)]) rfl) ?_
  simp only [Act.put, List.setIfInBounds_toArray, List.set_cons_succ, List.set_cons_zero]
  refine wl rfl (.int .u64 (q : Nat)) _ (run_extZ (.tmp 8) 0 rfl #[(.int .u64 (q : Nat)), v2, (.int .i64 0)] rfl (.int .u64 (q : Nat)) rfl) ?_
  simp only [Act.put, List.setIfInBounds_toArray, List.set_cons_succ, List.set_cons_zero]
  refine wl rfl v2 _ (run_extZ (.tmp 8) 1 rfl #[(.int .u64 (q : Nat)), v2, (.int .i64 0)] rfl v2 rfl) ?_
  simp only [Act.put, List.setIfInBounds_toArray, List.set_cons_succ, List.set_cons_zero]
  refine wl rfl (.int .i64 0) _ (run_extZ (.tmp 8) 2 rfl #[(.int .u64 (q : Nat)), v2, (.int .i64 0)] rfl (.int .i64 0) rfl) ?_
  simp only [Act.put, List.setIfInBounds_toArray, List.set_cons_succ, List.set_cons_zero]
  refine wl rfl (.int .u64 (q : Nat)) _ (run_asZ (.tmp 14) rfl (.int .u64 (q : Nat)) rfl) ?_
  simp only [Act.put, List.setIfInBounds_toArray, List.set_cons_succ, List.set_cons_zero]
  refine wl rfl v2 _ (run_asZ (.tmp 15) rfl v2 rfl) ?_
  simp only [Act.put, List.setIfInBounds_toArray, List.set_cons_succ, List.set_cons_zero]
  refine wl rfl (.int .i64 0) _ (run_asZ (.tmp 16) rfl (.int .i64 0) rfl) ?_
  simp only [Act.put, List.setIfInBounds_toArray, List.set_cons_succ, List.set_cons_zero]
  refine wpList_nil ?_
  go_upto_region 2 with fail
  refine wp_region_lit ?_
  refine wl rfl (.int .i64 0) _ (run_mvZ (.tmp 7) rfl (.int .i64 0) rfl) ?_
  simp only [Act.put, List.setIfInBounds_toArray, List.set_cons_succ, List.set_cons_zero]
  refine wl rfl (.bool true) _ (run_eqZ (.tmp 17) (.const (.int .i64 0)) rfl 0 0 rfl rfl true rfl) ?_
  simp only [Act.put, List.setIfInBounds_toArray, List.set_cons_succ, List.set_cons_zero]
  refine wpList_callW eN42 [.tmp 18] _ rfl rfl [(.bool true)] rfl ?_
  refine (must_yes w2).mono ?_
  rintro e w3 ⟨rfl, rfl⟩
  refine ⟨_, rfl, ?_⟩
  simp only [Act.put, List.setIfInBounds_toArray, List.set_cons_succ, List.set_cons_zero]
  refine wpList_nil ?_
  go_wp2
  rw [HPQ.out]
  exact ⟨HT2.out.1, Or.inr ⟨_, _, HT2.out.2.2, rfl, HT2.out.2.1⟩⟩
theorem upTo_any (g m : Nat) (l : List Nat) (w : World) (hr : RdAt w g l) :
    Calls Try.prog 40 #[ptr g, .int .i64 (m : Nat)] w fun e w' => TellsN w g (upTo m l) e w' := by
  have HR : Hid (RdAt w g l) := hr
  clear hr
  obtain ⟨PQ, HPQ⟩ : ∃ PQ : Ending → World → Prop, Hid (PQ = fun e w' => TellsN w g (upTo m l) e w') := ⟨_, rfl⟩
  rw [← HPQ.out]
  go_enter Try.func40, Try.ntmps40
  go_upto_region 1 with fail
  refine wp_region_lit ?_
  refine wl rfl (ptr g) _ (run_mvZ (.tmp 0) rfl (ptr g) rfl) ?_
  simp only [Act.put, List.setIfInBounds_toArray, List.set_cons_succ, List.set_cons_zero]
  refine wpList_callP eN39 [.tmp 6, .const ((.int .i64 1))] _ rfl rfl [(ptr g), (.int .i64 1)] rfl ?_
  refine (number_any g 1 l w HR.out (by decide) (by decide)).mono ?_
  rintro e w1 ⟨hc, ⟨hno, rfl⟩ | ⟨x, l1, hso, rfl, r1⟩⟩
  · refine Or.inr ⟨_, rfl, ?_⟩
    refine ⟨rfl, ?_⟩
    rw [HPQ.out]
    exact ⟨hc, Or.inl ⟨by unfold upTo; rw [hno]; rfl, rfl⟩⟩
  refine Or.inl ⟨_, rfl, ?_⟩
  obtain ⟨od, hod⟩ : ∃ od, od = decide ((x : Int) ≤ (m : Int)) := ⟨_, rfl⟩
  have HT : Hid (Ch (· = g) w w1 ∧ RdAt w1 g l1 ∧ num 1 l = some (x, l1) ∧ decide ((x : Int) ≤ (m : Int)) = od) := ⟨hc, r1, hso, hod.symm⟩
  clear hc r1 hso hod
  simp only [Act.put, List.setIfInBounds_toArray, List.set_cons_succ, List.set_cons_zero]
  refine wl rfl (.int .i64 (x : Nat)) _ (run_asZ (.tmp 7) rfl (.int .i64 (x : Nat)) rfl) ?_
  simp only [Act.put, List.setIfInBounds_toArray, List.set_cons_succ, List.set_cons_zero]
  refine wpList_nil ?_
  go_upto_region 2 with fail
  refine wp_region_lit ?_
  refine wl rfl (.int .i64 (x : Nat)) _ (run_mvZ (.tmp 5) rfl (.int .i64 (x : Nat)) rfl) ?_
  simp only [Act.put, List.setIfInBounds_toArray, List.set_cons_succ, List.set_cons_zero]
  refine wl rfl (.int .i64 (m : Nat)) _ (run_mvZ (.tmp 1) rfl (.int .i64 (m : Nat)) rfl) ?_
  simp only [Act.put, List.setIfInBounds_toArray, List.set_cons_succ, List.set_cons_zero]
  refine wl rfl (.bool od) _ (run_leqZ (.tmp 8) (.tmp 9) rfl (x : Nat) (m : Nat) rfl rfl od HT.out.2.2.2) ?_
  simp only [Act.put, List.setIfInBounds_toArray, List.set_cons_succ, List.set_cons_zero]
  refine wpList_callP eN42 [.tmp 10] _ rfl rfl [(.bool od)] rfl ?_
  refine (must_any od w1).mono ?_
  rintro e w2 (⟨hd, rfl, rfl⟩ | ⟨hd, rfl, rfl⟩)
  · refine Or.inr ⟨_, rfl, ?_⟩
    refine ⟨rfl, ?_⟩
    rw [HPQ.out]
    have hlt : ¬ x ≤ m := (by have := HT.out.2.2.2; rw [hd] at this; simp at this; omega)
    exact ⟨HT.out.1, Or.inl ⟨by unfold upTo; rw [HT.out.2.2.1, Option.bind_some, if_neg hlt], rfl⟩⟩
  refine Or.inl ⟨_, rfl, ?_⟩
  have hle : x ≤ m := (by have := HT.out.2.2.2; rw [hd] at this; simp at this; omega)
  simp only [Act.put, List.setIfInBounds_toArray, List.set_cons_succ, List.set_cons_zero]
  refine wpList_nil ?_
  go_wp2
  rw [HPQ.out]
  exact ⟨HT.out.1, Or.inr ⟨x, l1, by unfold upTo; rw [HT.out.2.2.1, Option.bind_some, if_pos hle], rfl, HT.out.2.1⟩⟩
/-- a place as cells -/
def pcells (p : Pc) : List Value := [.int .i64 p.dev, .int .i64 p.pl, .int .i64 p.len, .bool p.bad]
theorem pcells_one (p : Pc) : ∀ v ∈ pcells p, v.oneCell' = true := by
  intro v hv
  simp [pcells] at hv
  rcases hv with rfl | rfl | rfl | rfl <;> rfl
theorem zero43 : (Try.prog.info? 43).map (·.zero) = some (some (.agg (pcells ⟨0, 0, 0, false⟩).toArray)) := by kernel_rfl
theorem place_any (g : Nat) (l : List Nat) (w : World) (hr : RdAt w g l) :
    Calls Try.prog 41 #[ptr g] w fun e w' => Ch (· = g) w w' ∧ ((rdP l = none ∧ e = .panicked GU) ∨ (∃ p l', rdP l = some (p, l') ∧ e = .returned (.agg (pcells p).toArray) ∧ RdAt w' g l')) := by
  have hg : g < w.heap.size := (by obtain ⟨v, h, _⟩ := hr; exact h.lt)
  have HR : Hid (RdAt w g l ∧ g < w.heap.size) := ⟨hr, hg⟩
  clear hr
  obtain ⟨PQ, HPQ⟩ : ∃ PQ : Ending → World → Prop, Hid (PQ = fun e w' => Ch (· = g) w w' ∧ ((rdP l = none ∧ e = .panicked GU) ∨ (∃ p l', rdP l = some (p, l') ∧ e = .returned (.agg (pcells p).toArray) ∧ RdAt w' g l'))) := ⟨_, rfl⟩
  rw [← HPQ.out]
  go_enter Try.func41, Try.ntmps41
  go_upto_region 0 with fail
  refine wp_region_lit ?_
  refine wl rfl (ptr w.heap.size) _ (run_allocA (pcells ⟨0, 0, 0, false⟩) zero43 rfl) ?_
  obtain ⟨q, hq⟩ : ∃ q, q = w.heap.size := ⟨_, rfl⟩
  obtain ⟨w0, hw0⟩ : ∃ w0, w0 = w.alloc (.cells (pcells ⟨0, 0, 0, false⟩).toArray 43) := ⟨_, rfl⟩
  have H0 : Hid (Ch (· = g) w w0 ∧ RdAt w0 g l ∧ Row w0 q 43 (pcells ⟨0, 0, 0, false⟩) ∧ q ≠ g ∧ w.heap.size ≤ q) := (by
    have hb := below_alloc w (.cells (pcells ⟨0, 0, 0, false⟩).toArray 43)
    rw [hq, hw0]
    have := HR.out.2
    exact ⟨Ch.of_below hb, HR.out.1.later (hb.mono HR.out.2), Row.new _ _ _, by omega, Nat.le_refl _⟩)
  rw [← hq, ← hw0]
  clear hq hw0 HR
  simp only [Act.put, List.setIfInBounds_toArray, List.set_cons_succ, List.set_cons_zero]
  refine wpList_nil ?_
  go_upto_region 1 with fail
  refine wp_region_lit ?_
  refine wl rfl (ptr g) _ (run_mvZ (.tmp 0) rfl (ptr g) rfl) ?_
  simp only [Act.put, List.setIfInBounds_toArray, List.set_cons_succ, List.set_cons_zero]
  refine wpList_callP eN39 [.tmp 6, .const ((.int .i64 1))] _ rfl rfl [(ptr g), (.int .i64 1)] rfl ?_
  refine (number_any g 1 l w0 H0.out.2.1 (by decide) (by decide)).mono ?_
  rintro e w1 ⟨hc, ⟨hno, rfl⟩ | ⟨x1, l1, hso, rfl, r1⟩⟩
  · refine Or.inr ⟨_, rfl, ?_⟩
    refine ⟨rfl, ?_⟩
    rw [HPQ.out]
    exact ⟨H0.out.1.trans hc, Or.inl ⟨by unfold rdP;  rw [hno]; rfl, rfl⟩⟩
  refine Or.inl ⟨_, rfl, ?_⟩
  have H1 : Hid (Ch (· = g) w w1 ∧ RdAt w1 g l1 ∧ Row w1 q 43 (pcells ⟨0, 0, 0, false⟩) ∧ q ≠ g ∧ w.heap.size ≤ q ∧ num 1 l = some (x1, l1)) := ⟨H0.out.1.trans hc, r1, hc.row H0.out.2.2.2.1 H0.out.2.2.1, H0.out.2.2.2.1, H0.out.2.2.2.2, hso⟩
  clear hc r1 hso H0
  simp only [Act.put, List.setIfInBounds_toArray, List.set_cons_succ, List.set_cons_zero]
  refine wl rfl (.int .i64 (x1 : Nat)) _ (run_asZ (.tmp 7) rfl (.int .i64 (x1 : Nat)) rfl) ?_
  simp only [Act.put, List.setIfInBounds_toArray, List.set_cons_succ, List.set_cons_zero]
  refine wpList_nil ?_
  go_upto_region 2 with fail
  refine wp_region_lit ?_
  refine wl rfl (ptr g) _ (run_mvZ (.tmp 0) rfl (ptr g) rfl) ?_
  simp only [Act.put, List.setIfInBounds_toArray, List.set_cons_succ, List.set_cons_zero]
  refine wpList_callP eN39 [.tmp 8, .const ((.int .i64 2))] _ rfl rfl [(ptr g), (.int .i64 2)] rfl ?_
  refine (number_any g 2 l1 w1 H1.out.2.1 (by decide) (by decide)).mono ?_
  rintro e w2 ⟨hc, ⟨hno, rfl⟩ | ⟨x2, l2, hso, rfl, r1⟩⟩
  · refine Or.inr ⟨_, rfl, ?_⟩
    refine ⟨rfl, ?_⟩
    rw [HPQ.out]
    exact ⟨H1.out.1.trans hc, Or.inl ⟨by unfold rdP; rw [H1.out.2.2.2.2.2, Option.bind_some]; rw [hno]; rfl, rfl⟩⟩
  refine Or.inl ⟨_, rfl, ?_⟩
  have H2 : Hid (Ch (· = g) w w2 ∧ RdAt w2 g l2 ∧ Row w2 q 43 (pcells ⟨0, 0, 0, false⟩) ∧ q ≠ g ∧ w.heap.size ≤ q ∧ num 1 l = some (x1, l1) ∧ num 2 l1 = some (x2, l2)) := ⟨H1.out.1.trans hc, r1, hc.row H1.out.2.2.2.1 H1.out.2.2.1, H1.out.2.2.2.1, H1.out.2.2.2.2.1, H1.out.2.2.2.2.2, hso⟩
  clear hc r1 hso H1
  simp only [Act.put, List.setIfInBounds_toArray, List.set_cons_succ, List.set_cons_zero]
  refine wl rfl (.int .i64 (x2 : Nat)) _ (run_asZ (.tmp 9) rfl (.int .i64 (x2 : Nat)) rfl) ?_
  simp only [Act.put, List.setIfInBounds_toArray, List.set_cons_succ, List.set_cons_zero]
  refine wpList_nil ?_
  go_upto_region 3 with fail
  refine wp_region_lit ?_
  refine wl rfl (ptr g) _ (run_mvZ (.tmp 0) rfl (ptr g) rfl) ?_
  simp only [Act.put, List.setIfInBounds_toArray, List.set_cons_succ, List.set_cons_zero]
  refine wpList_callP eN39 [.tmp 10, .const ((.int .i64 1))] _ rfl rfl [(ptr g), (.int .i64 1)] rfl ?_
  refine (number_any g 1 l2 w2 H2.out.2.1 (by decide) (by decide)).mono ?_
  rintro e w3 ⟨hc, ⟨hno, rfl⟩ | ⟨x3, l3, hso, rfl, r1⟩⟩
  · refine Or.inr ⟨_, rfl, ?_⟩
    refine ⟨rfl, ?_⟩
    rw [HPQ.out]
    exact ⟨H2.out.1.trans hc, Or.inl ⟨by unfold rdP; rw [H2.out.2.2.2.2.2.1, Option.bind_some]; rw [H2.out.2.2.2.2.2.2, Option.bind_some]; rw [hno]; rfl, rfl⟩⟩
  refine Or.inl ⟨_, rfl, ?_⟩
  have H3 : Hid (Ch (· = g) w w3 ∧ RdAt w3 g l3 ∧ Row w3 q 43 (pcells ⟨0, 0, 0, false⟩) ∧ q ≠ g ∧ w.heap.size ≤ q ∧ num 1 l = some (x1, l1) ∧ num 2 l1 = some (x2, l2) ∧ num 1 l2 = some (x3, l3)) := ⟨H2.out.1.trans hc, r1, hc.row H2.out.2.2.2.1 H2.out.2.2.1, H2.out.2.2.2.1, H2.out.2.2.2.2.1, H2.out.2.2.2.2.2.1, H2.out.2.2.2.2.2.2, hso⟩
  clear hc r1 hso H2
  simp only [Act.put, List.setIfInBounds_toArray, List.set_cons_succ, List.set_cons_zero]
  refine wl rfl (.int .i64 (x3 : Nat)) _ (run_asZ (.tmp 11) rfl (.int .i64 (x3 : Nat)) rfl) ?_
  simp only [Act.put, List.setIfInBounds_toArray, List.set_cons_succ, List.set_cons_zero]
  refine wpList_nil ?_
  go_upto_region 4 with fail
  refine wp_region_lit ?_
  refine wl rfl (.int .i64 (x1 : Nat)) _ (run_mvZ (.tmp 3) rfl (.int .i64 (x1 : Nat)) rfl) ?_
  simp only [Act.put, List.setIfInBounds_toArray, List.set_cons_succ, List.set_cons_zero]
  refine wl rfl (.int .i64 (x2 : Nat)) _ (run_mvZ (.tmp 4) rfl (.int .i64 (x2 : Nat)) rfl) ?_
  simp only [Act.put, List.setIfInBounds_toArray, List.set_cons_succ, List.set_cons_zero]
  refine wl rfl (.int .i64 (x3 : Nat)) _ (run_mvZ (.tmp 5) rfl (.int .i64 (x3 : Nat)) rfl) ?_
  simp only [Act.put, List.setIfInBounds_toArray, List.set_cons_succ, List.set_cons_zero]
  refine wl rfl (ptr g) _ (run_mvZ (.tmp 0) rfl (ptr g) rfl) ?_
  simp only [Act.put, List.setIfInBounds_toArray, List.set_cons_succ, List.set_cons_zero]
  refine wpList_callP eN40 [.tmp 15, .const ((.int .i64 1))] _ rfl rfl [(ptr g), (.int .i64 1)] rfl ?_
  refine (upTo_any g 1 l3 w3 H3.out.2.1 ).mono ?_
  rintro e w4 ⟨hc, ⟨hno, rfl⟩ | ⟨x4, l4, hso, rfl, r1⟩⟩
  · refine Or.inr ⟨_, rfl, ?_⟩
    refine ⟨rfl, ?_⟩
    rw [HPQ.out]
    exact ⟨H3.out.1.trans hc, Or.inl ⟨by unfold rdP; rw [H3.out.2.2.2.2.2.1, Option.bind_some]; rw [H3.out.2.2.2.2.2.2.1, Option.bind_some]; rw [H3.out.2.2.2.2.2.2.2, Option.bind_some]; rw [hno]; rfl, rfl⟩⟩
  refine Or.inl ⟨_, rfl, ?_⟩
  have H4 : Hid (Ch (· = g) w w4 ∧ RdAt w4 g l4 ∧ Row w4 q 43 (pcells ⟨0, 0, 0, false⟩) ∧ q ≠ g ∧ w.heap.size ≤ q ∧ num 1 l = some (x1, l1) ∧ num 2 l1 = some (x2, l2) ∧ num 1 l2 = some (x3, l3) ∧ upTo 1 l3 = some (x4, l4)) := ⟨H3.out.1.trans hc, r1, hc.row H3.out.2.2.2.1 H3.out.2.2.1, H3.out.2.2.2.1, H3.out.2.2.2.2.1, H3.out.2.2.2.2.2.1, H3.out.2.2.2.2.2.2.1, H3.out.2.2.2.2.2.2.2, hso⟩
  clear hc r1 hso H3
  simp only [Act.put, List.setIfInBounds_toArray, List.set_cons_succ, List.set_cons_zero]
  refine wl rfl (.bool (decide (x4 = 1))) _ (run_eqZ (.tmp 16) (.const (.int .i64 1)) rfl (x4 : Nat) 1 rfl rfl _ (by simp; omega)) ?_
  simp only [Act.put, List.setIfInBounds_toArray, List.set_cons_succ, List.set_cons_zero]
  refine wl rfl (.agg (pcells ⟨x1, x2, x3, decide (x4 = 1)⟩).toArray) _ (run_build43 (.tmp 12) (.tmp 13) (.tmp 14) (.tmp 17) rfl _ _ _ _ rfl rfl rfl rfl) ?_
  simp only [Act.put, List.setIfInBounds_toArray, List.set_cons_succ, List.set_cons_zero]
  have hst := run_storeVar ag43 w4 q 0 43 (pcells ⟨0, 0, 0, false⟩) (pcells ⟨x1, x2, x3, decide (x4 = 1)⟩) rfl H4.out.2.2.1 (by simp [pcells]) (pcells_one _)
  refine wlS rfl rfl _ (run_stV (.tmp 2) (.tmp 18) rfl q 0 rfl _ rfl hst) ?_
  clear hst
  obtain ⟨w5, hw5⟩ : ∃ w5, w5 = w4.setRow q (splice (pcells ⟨0, 0, 0, false⟩) 0 (pcells ⟨x1, x2, x3, decide (x4 = 1)⟩)).toArray := ⟨_, rfl⟩
  have H5 : Hid (Ch (· = g) w w5 ∧ RdAt w5 g l4 ∧ Row w5 q 43 (pcells ⟨x1, x2, x3, decide (x4 = 1)⟩) ∧ rdP l = some (⟨x1, x2, x3, decide (x4 = 1)⟩, l4)) := (by
    have h := H4.out
    have hc5 : Ch (· = q) w4 w5 := hw5 ▸ (Ch.refl (· = q) w4).setRow (g := q) (Or.inl rfl) _
    refine ⟨h.1.trans' hc5 (fun i hi e => absurd e (by have := h.2.2.2.2.1; omega)), h.2.1.later (hc5.below h.2.1.lt (fun i hi e => by have := h.2.2.2.2.1; have := hg; omega)), ?_, ?_⟩
    · rw [hw5]; exact h.2.2.1.setRow _
    · unfold rdP
      rw [h.2.2.2.2.2.1, Option.bind_some, h.2.2.2.2.2.2.1, Option.bind_some, h.2.2.2.2.2.2.2.1, Option.bind_some, h.2.2.2.2.2.2.2.2, Option.bind_some])
  rw [← hw5]
  clear hw5 H4
  refine wpList_nil ?_
  go_wp2
  refine bodyPost_ret (results_cell ag43 rfl _ _ q 43 rfl _ rfl H5.out.2.2.1) rfl ?_
  rw [HPQ.out]
  exact ⟨H5.out.1, Or.inr ⟨_, _, H5.out.2.2.2, rfl, H5.out.2.1⟩⟩

end Go.Proofs.Ytncjmolhofnpbaa

/- The walk of the statements' examples. -/
import Derived.Test.YtdddfjkecmnggaaME
namespace Go.Proofs.Ytdddfjkecmnggaa
open Go.RowKit Go.Maps

/-- a slice literal of one number -/
theorem run_oneInt (w : World) (x : Int) : (Instr.buildSlice 22 1 #[(0, .int .i64 x)]).run Try.prog w = .ok (.slice (some ⟨w.heap.size, 0, none⟩) 1 1) (w.alloc (.cells #[.int .i64 x] 3)) := by kernel_rfl
theorem intsIn_one (w : World) (b t : Nat) (x : Int) (h : Row w b t [.int .i64 x]) : IntsIn w (.slice (some ⟨b, 0, none⟩) 1 1) [x] := by
  refine ⟨_, 1, rfl, by simp, by simp, Or.inr ⟨b, 0, rfl, fun j hj => ?_⟩⟩
  have hj0 : j = 0 := by simp at hj; omega
  subst hj0
  exact h.at 0 _ rfl
theorem keepIn_nil (w : World) (c : Nat → Colour) (t : Nat) : KeepIn w c t (.slice none 0 0) [] := ⟨none, 0, rfl, by simp, by simp, Or.inl rfl⟩
section
variable {w : World} {ops : Array Oper} {rest : List Oper} {o : Oper} {a : Act} {Q : Exit → Act → World → Prop}
theorem wpList_oneInt (x : Operand) (hgd : o.guard = none) (ho : o.op = .buildSlice 22 1 #[(0, x)]) (n : Int) (hx : a.eval x = .int .i64 n)
    (h : ∀ w', Row w' w.heap.size 3 [.int .i64 n] → w'.heap.size = w.heap.size + 1 → Below w.heap.size w w' → wpList Try.prog ops Q rest (a.put o.dst (.slice (some ⟨w.heap.size, 0, none⟩) 1 1)) w') : wpList Try.prog ops Q (o :: rest) a w :=
  wpList_value hgd _ _ (by simp [execOp, ho, hx, run_oneInt]) (h (w.alloc (.cells #[.int .i64 n] 3)) (Row.new w 3 [.int .i64 n]) (by simp) ((Below.refl _ _).alloc (Nat.le_refl _) _))
theorem run_build24 (x y : Value) (hx : x.cells = #[x]) (hy : y.cells = #[y]) : (Instr.build 24 #[(0, x), (1, y)]).run Try.prog w = .ok (.agg #[x, y]) w := by
  have hz : (zeroValue 24).run Try.prog w = .ok (.agg #[.slice none 0 0, .slice none 0 0]) w := by kernel_rfl
  have hf : Instr.fill (fun i => #[(0, 1), (1, 1)][i]?) #[.slice none 0 0, .slice none 0 0] [(0, x), (1, y)] = some #[x, y] := by
    have e0 : (#[.slice none 0 0, .slice none 0 0] : Array Value) = [.slice none 0 0, .slice none 0 0].toArray := rfl
    rw [fill_step _ _ 0 x _ 0 1 [x] rfl (by rw [hx]) rfl (by simp), fill_step _ _ 1 y _ 1 1 [y] rfl (by rw [hy]) rfl (by simp [splice])]
    simp [splice, Instr.fill]
  simp [Instr.build, hz, run_underlying Try.underlying24, Value.cells]
  simp at hf
  rw [hf]
  rfl
theorem wpList_build24 (x y : Operand) (hgd : o.guard = none) (ho : o.op = .build 24 #[(0, x), (1, y)]) (u v : Value) (hu : u.cells = #[u]) (hv : v.cells = #[v]) (hx : a.eval x = u) (hy : a.eval y = v)
    (h : wpList Try.prog ops Q rest (a.put o.dst (.agg #[u, v])) w) : wpList Try.prog ops Q (o :: rest) a w :=
  wpList_value hgd _ w (by simp [execOp, ho, hx, hy, run_build24 u v hu hv]) h
end
theorem en9 : EntersF 9 := Go.Proofs.enters_of Try.func9 (by kernel_rfl) rfl

/-- the plants of the examples -/
def e0 : Pl := newPl [4] [2]
def e1 : Pl := (e0.write 0 1 (ones 1)).2
def e2 : Pl := e1.boot []
def e3 : Pl := (e2.append 1 (ones 2)).2.2
def e4 : Pl := e3.fuseTo 0
def e5 : Pl := (e4.flush 1).2
theorem e0_ok : shapeOk [4] [2] = true := by decide
theorem ex1 : (e0.write 0 1 (ones 1)).1 = 0 ∧ e0.steps = 0 := by decide +kernel
theorem ex2 : e1.rd 0 1 = ones 1 ∧ e1.on = true ∧ e1.n = 2 ∧ 1 < e1.len 0 ∧ e1.steps = 1 := by decide +kernel
theorem ex3 : e2.rd 0 1 = ones 0 ∧ e2.on = true ∧ e2.n = 2 ∧ 1 < e2.len 0 ∧ e2.steps = 1 := by decide +kernel
theorem ex4 : (e2.append 1 (ones 2)).1 = 0 ∧ (e2.append 1 (ones 2)).2.1 = 0 := by decide +kernel
theorem ex5 : (e4.flush 1).1 = 2 ∧ e4.steps = 2 := by decide +kernel
theorem ex6 : e5.on = false ∧ e5.steps = 2 := by decide +kernel

/-- the call's own plant: what was there before is not its -/
def St (w : World) (B : Nat) (W : World) (c : Nat → Colour) (g : Nat) (m : Pl) : Prop := Live W c 0 g m ∧ (∀ b, b < B → (c b).1 ≠ 0) ∧ Below B w W ∧ B ≤ W.heap.size
theorem St.next {w W W' : World} {B : Nat} {c : Nat → Colour} {g : Nat} {m m' : Pl} (h : St w B W c g m) (hn : Next W c 0 g m' W') : ∃ c', St w B W' c' g m' ∧ (∀ b, b < W.heap.size → c' b = c b) ∧ Ch (fun b => (c b).1 = 0) W W' := by
  obtain ⟨c', hcc, _, hl, hch⟩ := hn
  obtain ⟨_, hf, hb, hs⟩ := h
  exact ⟨c', ⟨hl, fun b hb' => by rw [hcc b (by omega)]; exact hf b hb', hb.trans (hch.below hs fun b hb' e => hf b hb' e), Nat.le_trans hs hch.size⟩, hcc, hch⟩
theorem St.below {w W W' : World} {B : Nat} {c : Nat → Colour} {g : Nat} {m : Pl} (h : St w B W c g m) (hb : Below W.heap.size W W') : St w B W' c g m :=
  ⟨h.1.below hb, h.2.1, h.2.2.1.trans (hb.mono h.2.2.2), Nat.le_trans h.2.2.2 hb.size⟩
/-- bytes in a block that is not the plant's -/
def Out (W : World) (c : Nat → Colour) (b : Nat) (s : List Nat) : Prop := Row W b 5 (bcells s) ∧ (c b).1 ≠ 0
theorem Out.next {W W' : World} {c c' : Nat → Colour} {b : Nat} {s : List Nat} (h : Out W c b s) (hcc : ∀ b, b < W.heap.size → c' b = c b) (hch : Ch (fun b => (c b).1 = 0) W W') : Out W' c' b s :=
  ⟨hch.row h.2 h.1, by rw [hcc b h.1.lt]; exact h.2⟩
theorem Out.below {W W' : World} {c : Nat → Colour} {b : Nat} {s : List Nat} (h : Out W c b s) (hb : Below W.heap.size W W') : Out W' c b s := ⟨h.1.later hb h.1.lt, h.2⟩
theorem Out.slice {W : World} {c : Nat → Colour} {b : Nat} {s : List Nat} (h : Out W c b s) (hs : Sec s) : SliceIn W (.slice (some ⟨b, 0, none⟩) 64 64) s := by
  have := h.1.slice hs.2 (by rw [hs.1]; decide)
  rw [hs.1] at this
  exact this
/-- what a call has made is not the plant's -/
theorem St.out {w W W' : World} {B : Nat} {c : Nat → Colour} {g b : Nat} {m : Pl} {s : List Nat} (h : St w B W c g m) (hb : W.heap.size ≤ b) (hr : Row W' b 5 (bcells s)) : Out W' c b s := ⟨hr, h.1.2.2 b hb⟩

set_option maxHeartbeats 1000000 in
set_option maxRecDepth 100000 in
theorem shown_any (w : World) : Calls Try.prog 8 #[] w fun e w' => e = .returned (.bool true) ∧ Below w.heap.size w w' := by
  obtain ⟨B, hB⟩ : ∃ B, B = w.heap.size := ⟨_, rfl⟩
  rw [← hB]
  have HB : Hid (B = w.heap.size) := hB
  clear hB
  go_enter Try.func8, Try.ntmps8
  go_upto_region 1 with fail
  refine wp_region_lit ?_
  refine wpList_oneInt _ rfl rfl 4 rfl ?_
  intro w1 r1 s1 b1
  simp only [Act.put, List.setIfInBounds_toArray, List.set_cons_succ, List.set_cons_zero]
  refine wpList_oneInt _ rfl rfl 2 rfl ?_
  intro w2 r2 s2 b2
  simp only [Act.put, List.setIfInBounds_toArray, List.set_cons_succ, List.set_cons_zero]
  refine wpList_build24 (.tmp 14) (.tmp 15) rfl rfl (.slice (some ⟨w.heap.size, 0, none⟩) 1 1) (.slice (some ⟨w1.heap.size, 0, none⟩) 1 1) rfl rfl rfl rfl ?_
  simp only [Act.put, List.setIfInBounds_toArray, List.set_cons_succ, List.set_cons_zero]
  have i1 : IntsIn w2 (.slice (some ⟨w.heap.size, 0, none⟩) 1 1) [4] := intsIn_one w2 _ 3 4 (r1.later b2 (by omega))
  have i2 : IntsIn w2 (.slice (some ⟨w1.heap.size, 0, none⟩) 1 1) [2] := intsIn_one w2 _ 3 2 r2
  refine wpList_callF en9 [.tmp 16] _ rfl rfl [.agg #[.slice (some ⟨w.heap.size, 0, none⟩) 1 1, .slice (some ⟨w1.heap.size, 0, none⟩) 1 1]] rfl ?_
  refine (Live.new w2 (fun _ => (1, 0)) 0 _ _ [4] [2] i1 i2 e0_ok).mono ?_
  rintro e w3 ⟨g, c3, rfl, hg, hc3, _, hl3, b3⟩
  refine ⟨_, rfl, ?_⟩
  simp only [Act.put, List.setIfInBounds_toArray, List.set_cons_succ, List.set_cons_zero]
  have HW3 : Hid (St w B w3 c3 g e0) := by
    have h12 : Below B w w2 := by rw [HB.out]; exact b1.trans (b2.mono (by omega))
    have hs2 : B ≤ w2.heap.size := by rw [HB.out]; omega
    refine ⟨hl3, fun b hb => ?_, h12.trans (b3.mono hs2), Nat.le_trans hs2 b3.size⟩
    rw [hc3 b (by omega)]
    simp
  clear r1 s1 b1 r2 s2 b2 i1 i2 hl3 hc3 b3 hg
  have F1 : Hid (∀ W, Calls Try.prog 32 #[.int .u8 1] W fun e w' => e = .returned (.slice (some ⟨W.heap.size, 0, none⟩) 64 64) ∧ Row w' W.heap.size 5 (bcells (ones 1)) ∧ Below W.heap.size W w') := fun W => full_any W 1
  have F2 : Hid (∀ W, Calls Try.prog 32 #[.int .u8 2] W fun e w' => e = .returned (.slice (some ⟨W.heap.size, 0, none⟩) 64 64) ∧ Row w' W.heap.size 5 (bcells (ones 2)) ∧ Below W.heap.size W w') := fun W => full_any W 2
  have F0 : Hid (∀ W, Calls Try.prog 32 #[.int .u8 0] W fun e w' => e = .returned (.slice (some ⟨W.heap.size, 0, none⟩) 64 64) ∧ Row w' W.heap.size 5 (bcells (ones 0)) ∧ Below W.heap.size W w') := fun W => full_any W 0
  have CW : Hid (∀ W c v, Live W c 0 g e0 → SliceIn W v (ones 1) → Calls Try.prog 16 #[ptr g, .int .i64 0, .int .i64 1, v] W fun e w' => e = .returned (.int .i64 0) ∧ Next W c 0 g e1 w') := fun W c v hl hv => by
    have := hl.write (by rw [ex1.2]; decide) 0 1 v _ hv
    rw [ex1.1] at this
    exact this
  have CR1 : Hid (∀ W c, Live W c 0 g e1 → Calls Try.prog 20 #[ptr g, .int .i64 0, .int .i64 1] W fun e w' => ∃ b, e = .returned (.tuple #[.slice (some ⟨b, 0, none⟩) 64 64, .int .i64 0]) ∧ W.heap.size ≤ b ∧ Row w' b 5 (bcells (ones 1)) ∧ Below W.heap.size W w') := fun W c hl => by
    have := hl.read (by rw [ex2.2.2.2.2]; decide) ex2.2.1 0 1 (by rw [ex2.2.2.1]; decide) ex2.2.2.2.1
    rw [ex2.1] at this
    exact this
  have CB : Hid (∀ W c, Live W c 0 g e1 → Calls Try.prog 25 #[ptr g, .slice none 0 0] W fun e w' => e = .returned noResult ∧ Next W c 0 g e2 w') := fun W c hl => hl.boot (by rw [ex2.2.2.2.2]; decide) _ [] (keepIn_nil W c 0)
  have CR2 : Hid (∀ W c, Live W c 0 g e2 → Calls Try.prog 20 #[ptr g, .int .i64 0, .int .i64 1] W fun e w' => ∃ b, e = .returned (.tuple #[.slice (some ⟨b, 0, none⟩) 64 64, .int .i64 0]) ∧ W.heap.size ≤ b ∧ Row w' b 5 (bcells (ones 0)) ∧ Below W.heap.size W w') := fun W c hl => by
    have := hl.read (by rw [ex3.2.2.2.2]; decide) ex3.2.1 0 1 (by rw [ex3.2.2.1]; decide) ex3.2.2.2.1
    rw [ex3.1] at this
    exact this
  have CA : Hid (∀ W c v, Live W c 0 g e2 → SliceIn W v (ones 2) → Calls Try.prog 18 #[ptr g, .int .i64 1, v] W fun e w' => e = .returned (.tuple #[.int .i64 0, .int .i64 0]) ∧ Next W c 0 g e3 w') := fun W c v hl hv => by
    have := hl.append (by rw [ex3.2.2.2.2]; decide) 1 v _ hv
    rw [ex4.1, ex4.2] at this
    exact this
  have CF : Hid (∀ W c, Live W c 0 g e3 → Calls Try.prog 23 #[ptr g, .int .i64 0] W fun e w' => e = .returned noResult ∧ Next W c 0 g e4 w') := fun W c hl => hl.fuse 0 (by decide) (by decide)
  have CL : Hid (∀ W c, Live W c 0 g e4 → Calls Try.prog 21 #[ptr g, .int .i64 1] W fun e w' => e = .returned (.int .i64 2) ∧ Next W c 0 g e5 w') := fun W c hl => by
    have := hl.flush (by rw [ex5.2]; decide) 1
    rw [ex5.1] at this
    exact this
  have CO : Hid (∀ W c, Live W c 0 g e5 → Calls Try.prog 35 #[ptr g] W fun e w' => e = .returned (.bool false) ∧ W = w') := fun W c hl => by
    have := hl.isOn
    rw [ex6.1] at this
    exact this.mono fun _ _ h => ⟨h.1, h.2.symm⟩
  have CS : Hid (∀ W c, Live W c 0 g e5 → Calls Try.prog 34 #[ptr g] W fun e w' => e = .returned (.int .i64 2) ∧ W = w') := fun W c hl => by
    have := hl.steps
    rw [ex6.2] at this
    exact this.mono fun _ _ h => ⟨h.1, h.2.symm⟩
  have h1 := ones_sec 1 (by decide)
  have h2 := ones_sec 2 (by decide)
  have h0 := ones_sec 0 (by decide)
  have HSEC : Hid (Sec (ones 1) ∧ Sec (ones 2) ∧ Sec (ones 0)) := ⟨h1, h2, h0⟩
  clear h0 h1 h2
  go_upto_region 5 with (first | (go_at_call 32; refine (F1.out w3).mono ?_; rintro e w4 ⟨rfl, r4, b4⟩; have H4 : Hid (St w B w4 c3 g e0 ∧ Out w4 c3 w3.heap.size (ones 1)) := ⟨HW3.out.below b4, HW3.out.out (Nat.le_refl _) r4⟩; clear r4 b4) | (go_at_call 16; refine (CW.out w4 c3 _ H4.out.1.1 (H4.out.2.slice HSEC.out.1)).mono ?_; rintro e w5 ⟨rfl, n5⟩))
  obtain ⟨c5, H5⟩ : ∃ c5, Hid (St w B w5 c5 g e1) := by
    obtain ⟨c5, h5, _⟩ := H4.out.1.next n5
    exact ⟨c5, h5⟩
  clear n5 H4 HW3
  go_upto_region 6 with (go_at_call 20; refine (CR1.out w5 c5 H5.out.1).mono ?_; rintro e w6 ⟨ba, rfl, hba, r6, b6⟩)
  have H6 : Hid (St w B w6 c5 g e1 ∧ Out w6 c5 ba (ones 1)) := ⟨H5.out.below b6, H5.out.out hba r6⟩
  clear r6 b6 H5 hba
  go_upto_region 7 with (go_at_call 25; refine (CB.out w6 c5 H6.out.1.1).mono ?_; rintro e w7 ⟨rfl, n7⟩)
  obtain ⟨c7, H7⟩ : ∃ c7, Hid (St w B w7 c7 g e2 ∧ Out w7 c7 ba (ones 1)) := by
    obtain ⟨c7, h7, hcc, hch⟩ := H6.out.1.next n7
    exact ⟨c7, h7, H6.out.2.next hcc hch⟩
  clear n7 H6
  go_upto_region 8 with (go_at_call 20; refine (CR2.out w7 c7 H7.out.1.1).mono ?_; rintro e w8 ⟨bb, rfl, hbb, r8, b8⟩)
  have H8 : Hid (St w B w8 c7 g e2 ∧ Out w8 c7 ba (ones 1) ∧ Out w8 c7 bb (ones 0)) := ⟨H7.out.1.below b8, H7.out.2.below b8, H7.out.1.out hbb r8⟩
  clear r8 b8 H7 hbb
  go_upto_region 9 with (first | (go_at_call 32; refine (F2.out w8).mono ?_; rintro e w9 ⟨rfl, r9, b9⟩; have H9 : Hid (St w B w9 c7 g e2 ∧ Out w9 c7 ba (ones 1) ∧ Out w9 c7 bb (ones 0) ∧ Out w9 c7 w8.heap.size (ones 2)) := ⟨H8.out.1.below b9, H8.out.2.1.below b9, H8.out.2.2.below b9, H8.out.1.out (Nat.le_refl _) r9⟩; clear r9 b9) | (go_at_call 18; refine (CA.out w9 c7 _ H9.out.1.1 (H9.out.2.2.2.slice HSEC.out.2.1)).mono ?_; rintro e w10 ⟨rfl, n10⟩))
  obtain ⟨c10, H10⟩ : ∃ c10, Hid (St w B w10 c10 g e3 ∧ Out w10 c10 ba (ones 1) ∧ Out w10 c10 bb (ones 0)) := by
    obtain ⟨c7', h7, hcc, hch⟩ := H9.out.1.next n10
    exact ⟨c7', h7, H9.out.2.1.next hcc hch, H9.out.2.2.1.next hcc hch⟩
  clear n10 H8 H9
  go_upto_region 10 with (go_at_call 23; refine (CF.out w10 c10 H10.out.1.1).mono ?_; rintro e w11 ⟨rfl, n11⟩)
  obtain ⟨c11, H11⟩ : ∃ c11, Hid (St w B w11 c11 g e4 ∧ Out w11 c11 ba (ones 1) ∧ Out w11 c11 bb (ones 0)) := by
    obtain ⟨c7', h7, hcc, hch⟩ := H10.out.1.next n11
    exact ⟨c7', h7, H10.out.2.1.next hcc hch, H10.out.2.2.next hcc hch⟩
  clear n11 H10
  go_upto_region 11 with (go_at_call 21; refine (CL.out w11 c11 H11.out.1.1).mono ?_; rintro e w12 ⟨rfl, n12⟩)
  obtain ⟨c12, H12⟩ : ∃ c12, Hid (St w B w12 c12 g e5 ∧ Out w12 c12 ba (ones 1) ∧ Out w12 c12 bb (ones 0)) := by
    obtain ⟨c7', h7, hcc, hch⟩ := H11.out.1.next n12
    exact ⟨c7', h7, H11.out.2.1.next hcc hch, H11.out.2.2.next hcc hch⟩
  clear n12 H11
  have SM1 : Hid (∀ W c b, Out W c ba (ones 1) → Out W c b (ones 1) → Calls Try.prog 33 #[.slice (some ⟨ba, 0, none⟩) 64 64, .slice (some ⟨b, 0, none⟩) 64 64] W fun e w' => e = .returned (.bool true) ∧ W = w') := fun W c b ha hb =>
    (same_any W _ _ _ _ (ha.slice HSEC.out.1) (hb.slice HSEC.out.1)).mono fun e w' h => ⟨by rw [h.1]; simp, h.2.symm⟩
  have SM0 : Hid (∀ W c b, Out W c bb (ones 0) → Out W c b (ones 0) → Calls Try.prog 33 #[.slice (some ⟨bb, 0, none⟩) 64 64, .slice (some ⟨b, 0, none⟩) 64 64] W fun e w' => e = .returned (.bool true) ∧ W = w') := fun W c b ha hb =>
    (same_any W _ _ _ _ (ha.slice HSEC.out.2.2) (hb.slice HSEC.out.2.2)).mono fun e w' h => ⟨by rw [h.1]; simp, h.2.symm⟩
  go_upto_region 12 with (first | (go_at_call 32; refine (F1.out w12).mono ?_; rintro e w13 ⟨rfl, r13, b13⟩; have H13 : Hid (St w B w13 c12 g e5 ∧ Out w13 c12 ba (ones 1) ∧ Out w13 c12 bb (ones 0) ∧ Out w13 c12 w12.heap.size (ones 1)) := ⟨H12.out.1.below b13, H12.out.2.1.below b13, H12.out.2.2.below b13, H12.out.1.out (Nat.le_refl _) r13⟩; clear r13 b13) | (go_at_call 33; refine (SM1.out w13 c12 _ H13.out.2.1 H13.out.2.2.2).mono ?_; rintro e wx ⟨rfl, rfl⟩))
  go_upto_region 13 with (first | (go_at_call 32; refine (F0.out w13).mono ?_; rintro e w14 ⟨rfl, r14, b14⟩; have H14 : Hid (St w B w14 c12 g e5 ∧ Out w14 c12 bb (ones 0) ∧ Out w14 c12 w13.heap.size (ones 0)) := ⟨H13.out.1.below b14, H13.out.2.2.1.below b14, H13.out.1.out (Nat.le_refl _) r14⟩; clear r14 b14) | (go_at_call 33; refine (SM0.out w14 c12 _ H14.out.2.1 H14.out.2.2).mono ?_; rintro e wx ⟨rfl, rfl⟩))
  go_wp2_with (first | (go_at_call 35; refine (CO.out w14 c12 H14.out.1.1).mono ?_; rintro e wx ⟨rfl, rfl⟩) | (go_at_call 34; refine (CS.out w14 c12 H14.out.1.1).mono ?_; rintro e wx ⟨rfl, rfl⟩))
  go_ret
  exact ⟨rfl, H14.out.1.2.2.1⟩
end Go.Proofs.Ytdddfjkecmnggaa

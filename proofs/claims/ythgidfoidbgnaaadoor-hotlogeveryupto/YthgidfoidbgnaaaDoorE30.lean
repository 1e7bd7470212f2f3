/- Layer 14: sectors written for good. -/
import Derived.Test.YthgidfoidbgnaaaDoorE29
namespace Go.Proofs.YthgidfoidbgnaaaDoor
open Go.RowKit Go.Maps


/-- nothing has turned but the plant's blocks, and what is new -/
structure Sp (w w' : World) (c c' : Nat → Colour) : Prop where
 cc : ∀ b, b < w.heap.size → c' b = c b
 ch : Ch (fun b => (c b).1 = 2) w w'
theorem Sp.refl (w : World) (c : Nat → Colour) : Sp w w c c := ⟨fun _ _ => rfl, Ch.refl _ _⟩
theorem Sp.bel {w w' : World} (c : Nat → Colour) (h : Below w.heap.size w w') : Sp w w' c c := ⟨fun _ _ => rfl, Ch.of_below h⟩
theorem Sp.trans {w w1 w2 : World} {c c1 c2 : Nat → Colour} (h : Sp w w1 c c1) (k : Sp w1 w2 c1 c2) : Sp w w2 c c2 :=
 ⟨fun b hb => (k.cc b (Nat.lt_of_lt_of_le hb h.ch.size)).trans (h.cc b hb), h.ch.trans' k.ch fun b hb hs => by rw [h.cc b hb] at hs; exact hs⟩
theorem Next.sp {w w' : World} {c : Nat → Colour} {g : Nat} {m : Pl} (h : Next w c 2 g m w') : ∃ c', Sp w w' c c' ∧ Live w' c' 2 g m := by
 obtain ⟨c', h1, _, h3, h4⟩ := h
 exact ⟨c', ⟨h1, h4⟩, h3⟩
theorem Sp.row {w w' : World} {c c' : Nat → Colour} (h : Sp w w' c c') {g T : Nat} {cs : List Value} (hr : Row w g T cs) (hc : (c g).1 ≠ 2) : Row w' g T cs ∧ (c' g).1 ≠ 2 := ⟨h.ch.row hc hr, by rw [h.cc g hr.lt]; exact hc⟩
/-- the three blocks of a hot disk are none of the plant's -/
def HotC (c : Nat → Colour) (gh gf gm : Nat) : Prop := (c gh).1 ≠ 2 ∧ (c gf).1 ≠ 2 ∧ (c gm).1 ≠ 2
theorem HotM.sp {w w' : World} {gh gp gf gm d n : Nat} {fr : List Nat} {f : Int → Option Int} {c c' : Nat → Colour} (h : HotM w gh gp gf gm d n fr f) (s : Sp w w' c c') (hc : HotC c gh gf gm) : HotM w' gh gp gf gm d n fr f ∧ HotC c' gh gf gm :=
 ⟨h.ch s.ch hc, by rw [HotC, s.cc gh (h.lt (Or.inl rfl)), s.cc gf (h.lt (Or.inr (Or.inl rfl))), s.cc gm (h.lt (Or.inr (Or.inr rfl)))]; exact hc⟩
/-- sectors in memory, one behind the other -/
structure ImgIn (W : World) (gi : Nat) (F : List (List Nat)) : Prop where
 row : Row W gi 73 (bcells F.flatten)
 sec : ∀ s ∈ F, Sec s
theorem flat_at {F : List (List Nat)} (h : ∀ s ∈ F, s.length = 64) : ∀ (i j : Nat), i < F.length → j < 64 → F.flatten.getD (i * 64 + j) 0 = (F.getD i []).getD j 0 := by
 induction F with
 | nil => intro i j hi; simp at hi
 | cons x r ih =>
  intro i j hi hj
  have hx : x.length = 64 := h x (by simp)
  cases i with
  | zero =>
   rw [Nat.zero_mul, Nat.zero_add, List.flatten_cons, List.getD_eq_getElem?_getD, List.getElem?_append_left (by omega)]
   rfl
  | succ i =>
   rw [List.flatten_cons, List.getD_eq_getElem?_getD, List.getElem?_append_right (by omega), ← List.getD_eq_getElem?_getD, show (i + 1) * 64 + j - x.length = i * 64 + j by omega, ih (fun s hs => h s (by simp [hs])) i j (by simpa using hi) hj]
   rfl
theorem getD_memS {F : List (List Nat)} {i : Nat} (h : i < F.length) : F.getD i [] ∈ F := by
 rw [List.getD_eq_getElem?_getD, List.getElem?_eq_getElem h]
 exact List.getElem_mem h
theorem ImgIn.cell {W : World} {gi : Nat} {F : List (List Nat)} (h : ImgIn W gi F) (i : Nat) (hi : i < F.length) (j : Nat) (hj : j < 64) : W.cell? ⟨gi, i * 64 + j, none⟩ = some (.int .u8 ((F.getD i []).getD j 0 : Nat)) := by
 have hl := flat64 (fun s hs => (h.sec s hs).1)
 refine h.row.at _ _ ?_
 rw [bcells_at _ _ (by omega), flat_at (fun s hs => (h.sec s hs).1) i j hi hj]
theorem ImgIn.slice {W : World} {gi : Nat} {F : List (List Nat)} (h : ImgIn W gi F) (i : Nat) (hi : i < F.length) (cut : Nat) (hc : cut ≤ 64) : SliceIn W (.slice (some ⟨gi, i * 64 + 0, none⟩) cut 64) ((F.getD i []).take cut) := by
 have hs := h.sec _ (getD_memS hi)
 have hl : ((F.getD i []).take cut).length = cut := by rw [List.length_take, hs.1]; omega
 refine ⟨some ⟨gi, i * 64 + 0, none⟩, 64, by rw [hl], ⟨by omega, by omega⟩, Or.inr ⟨gi, i * 64 + 0, rfl, fun j hj => ?_, fun j => Fr.Frame.getD_lt (fun c hc => hs.2 c (List.mem_of_mem_take hc)) j⟩⟩
 have hj2 : j < cut := by omega
 rw [Nat.add_zero, h.cell i hi j (by omega)]
 simp [List.getD_eq_getElem?_getD, hj2]
theorem ImgIn.sec64 {W : World} {gi : Nat} {F : List (List Nat)} (h : ImgIn W gi F) (i : Nat) (hi : i < F.length) : SliceIn W (.slice (some ⟨gi, i * 64 + 0, none⟩) (64 - 0) (64 - 0)) (F.getD i []) := by
 have := h.slice i hi 64 (Nat.le_refl _)
 rwa [List.take_of_length_le (by rw [(h.sec _ (getD_memS hi)).1]; exact Nat.le_refl _)] at this
theorem ImgIn.later {W W' : World} {gi : Nat} {F : List (List Nat)} (h : ImgIn W gi F) (hb : Below W.heap.size W W') : ImgIn W' gi F := ⟨h.row.later hb h.row.lt, h.sec⟩
theorem Pl.write_steps (m : Pl) (d p : Int) (s : List Nat) : (m.write d p s).2.steps ≤ m.steps + 1 := by
 have := m.step_le
 unfold Pl.write
 split
 ·show m.steps ≤ _; omega
 ·split
  ·show m.steps ≤ _; omega
  ·split
   ·show m.steps ≤ _; omega
   ·split
    ·exact this
    ·show m.step.steps ≤ _; exact this
theorem drop_getD {F : List (List Nat)} {i : Nat} (h : i < F.length) : F.drop i = F.getD i [] :: F.drop (i + 1) := by
 rw [List.drop_eq_getElem_cons h, List.getD_eq_getElem?_getD, List.getElem?_eq_getElem h]
 rfl
theorem lay_yes {m : Pl} {d : Int} {a i : Nat} {F : List (List Nat)} (h : i < F.length) (hw : (m.write d ((a + i : Nat) : Int) (F.getD i [])).1 = 0) : m.lay d (a + i) (F.drop i) = (m.write d ((a + i : Nat) : Int) (F.getD i [])).2.lay d (a + (i + 1)) (F.drop (i + 1)) := by
 rw [drop_getD h]
 show (if _ then _ else _) = _
 rw [if_pos hw]
 rfl
theorem lay_no {m : Pl} {d : Int} {a i : Nat} {F : List (List Nat)} (h : i < F.length) (hw : ¬ (m.write d ((a + i : Nat) : Int) (F.getD i [])).1 = 0) : m.lay d (a + i) (F.drop i) = m.write d ((a + i : Nat) : Int) (F.getD i []) := by
 rw [drop_getD h]
 show (if _ then _ else _) = _
 rw [if_neg hw]
set_option maxHeartbeats 4000000 in
set_option maxRecDepth 100000 in
theorem write_any' {w : World} {gh gp gf gm d n : Nat} {fr : List Nat} {f : Int → Option Int} {c : Nat → Colour} {m : Pl} (h : HotM w gh gp gf gm d n fr f) (hp : Live w c 2 gp m) (hc : HotC c gh gf gm) {gi : Nat} {F : List (List Nat)} (hi : ImgIn w gi F) (hgi : (c gi).1 ≠ 2) (hst : m.steps + F.length < 1099511627775) (A : Nat) (hA : A ≤ 1000000) (hF : F.length ≤ 1000) : Calls Tryd.prog 42 #[ptr gh, .int .i64 (A : Nat), whole gi F.length] w fun e w' => ∃ c', e = .returned (.int .i64 (m.lay (d : Nat) A F).1) ∧ Sp w w' c c' ∧ Live w' c' 2 gp (m.lay (d : Nat) A F).2 := by
 have HM : Hid (HotM w gh gp gf gm d n fr f ∧ HotC c gh gf gm ∧ Live w c 2 gp m ∧ ImgIn w gi F ∧ (c gi).1 ≠ 2) := ⟨h, hc, hp, hi, hgi⟩
 clear h hp hc hi hgi
 obtain ⟨PQ, HPQ⟩ := exPQ fun (e : Ending) (w' : World) => ∃ c', e = .returned (.int .i64 (m.lay (d : Nat) A F).1) ∧ Sp w w' c c' ∧ Live w' c' 2 gp (m.lay (d : Nat) A F).2
 rw [← HPQ.out]
 go_enter Tryd.func42, Tryd.ntmps42
 go_upto_region 0 with fail
 refine wp_region_lit ?_
 refine wl rfl (.int .i64 0) _ (run_asZ (.const (.int .i64 0)) rfl (.int .i64 0) rfl) ?_
 simp only [Act.put, aS, aC, aZ]
 refine wpList_nil ?_
 go_upto_region 1 with fail
 refine wp_region_lit ?_
 refine wl rfl (whole gi F.length) _ (run_mvZ (.tmp 2) rfl (whole gi F.length) rfl) ?_
 refine wl rfl (.int .i64 (F.length : Nat)) _ (run_lenZ sl96 (.tmp 9) rfl (some ⟨gi, 0, none⟩) F.length F.length rfl) ?_
 refine wl rfl (.int .i64 0) _ (run_mvZ (.const (.int .i64 0)) rfl (.int .i64 0) rfl) ?_
 simp only [Act.put, aS, aC, aZ]
 refine wpList_nil ?_
 go_wp2_with fail
 go_loopw [11] (fun vi W => ∃ i : Nat, vi = .int .i64 (i : Nat) ∧ i ≤ F.length ∧ Hid (∃ mi ci, (HotM W gh gp gf gm d n fr f ∧ HotC ci gh gf gm ∧ Live W ci 2 gp mi ∧ ImgIn W gi F ∧ (ci gi).1 ≠ 2) ∧ Sp w W c ci ∧ m.lay (d : Nat) A F = mi.lay (d : Nat) (A + i) (F.drop i) ∧ mi.steps ≤ m.steps + i)) (fun vi _ => F.length - (intOf vi).toNat)
 case atStart => exact ⟨0, rfl, Nat.zero_le _, ⟨m, c, HM.out, Sp.refl w c, rfl, Nat.le_refl _⟩⟩
 case round =>
  obtain ⟨i, rfl, hi, HI0⟩ := hrel
  obtain ⟨mi, ci, hI⟩ := HI0.out
  have HI : Hid ((HotM wr gh gp gf gm d n fr f ∧ HotC ci gh gf gm ∧ Live wr ci 2 gp mi ∧ ImgIn wr gi F ∧ (ci gi).1 ≠ 2) ∧ Sp w wr c ci ∧ m.lay (d : Nat) A F = mi.lay (d : Nat) (A + i) (F.drop i) ∧ mi.steps ≤ m.steps + i) := hI
  clear hI HI0
  by_cases hlt : i < F.length
  ·go_upto_region 2 with fail
   refine wp_region_lit ?_
   refine wl rfl (.bool true) _ (run_lssZ (.tmp 11) (.tmp 10) rfl (i : Nat) (F.length : Nat) rfl rfl true (decide_eq_true (by omega))) ?_
   simp only [Act.put, aS, aC, aZ]
   refine wpList_nil ?_
   go_upto_region 3 with fail
   refine wp_region_lit ?_
   refine wl rfl (.int .i64 (i : Nat)) _ (run_mvZ (.tmp 11) rfl (.int .i64 (i : Nat)) rfl) ?_
   refine wl rfl (.int .i64 (i : Nat)) _ (run_asZ (.tmp 13) rfl (.int .i64 (i : Nat)) rfl) ?_
   simp only [Act.put, aS, aC, aZ]
   refine wpList_nil ?_
   obtain ⟨er, her⟩ : ∃ er, er = (mi.write (d : Nat) ((A + i : Nat) : Int) (F.getD i [])).1 := ⟨_, rfl⟩
   obtain ⟨m2, hm2⟩ : ∃ m2, m2 = (mi.write (d : Nat) ((A + i : Nat) : Int) (F.getD i [])).2 := ⟨_, rfl⟩
   have HW : Hid (er = (mi.write (d : Nat) ((A + i : Nat) : Int) (F.getD i [])).1 ∧ m2 = (mi.write (d : Nat) ((A + i : Nat) : Int) (F.getD i [])).2) := ⟨her, hm2⟩
   clear her hm2
   go_upto_region 4 with fail
   refine wp_region_held (S := fun X => HotM X gh gp gf gm d n fr f) (by kernel_rfl) ?_
   show wpAnyH _ _ _ _ _ 17 (Array.replicate 17 false) _ _
   obtain ⟨X, hX⟩ : ∃ X : World, X = { wr with drawn := wr.drawn + 1 } := ⟨_, rfl⟩
   rw [← hX]
   have HBX : Hid (Below wr.heap.size wr X) := hX ▸ ⟨rfl, rfl, rfl, Nat.le_refl _, fun _ _ => rfl⟩
   have HS_ : HotM X gh gp gf gm d n fr f := HI.out.1.1.later HBX.out
   have HLX : Hid (HotM X gh gp gf gm d n fr f ∧ HotC ci gh gf gm ∧ Live X ci 2 gp mi ∧ ImgIn X gi F ∧ (ci gi).1 ≠ 2) := ⟨HS_, HI.out.1.2.1, HI.out.1.2.2.1.below HBX.out, HI.out.1.2.2.2.1.later HBX.out, HI.out.1.2.2.2.2⟩
   have HST : Hid (mi.steps ≤ m.steps + i) := HI.out.2.2.2
   clear hX
   refine tH 0 14 rfl rfl (gRun rfl (ptr gh) fun _ h => run_mvZ (.tmp 0) rfl (ptr gh) rfl) HS_ ?_
   refine tH 1 15 rfl rfl (gRun rfl (ptr gh) fun _ h => run_nil (.tmp 14) rfl ⟨gh, 0, none⟩ rfl) HS_ ?_
   refine tH 2 16 rfl rfl (gRun rfl (.pointer (some ⟨gh, 0 + 0, none⟩)) fun _ h => run_fieldOp' f90_0 (.tmp 15) rfl gh (0) rfl) HS_ ?_
   refine tH 3 17 rfl rfl (gRun rfl (ptr gp) fun _ h => run_load1 o34 (.tmp 16) rfl gh (0 + 0) rfl (ptr gp) (h.row.at 0 _ rfl)) HS_ ?_
   simp only [Act.put, aS, aC, aZ]
   refine tH 4 18 rfl rfl (gRun rfl (ptr gh) fun _ h => run_mvZ (.tmp 0) rfl (ptr gh) rfl) HS_ ?_
   refine tH 5 19 rfl rfl (gRun rfl (ptr gh) fun _ h => run_nil (.tmp 18) rfl ⟨gh, 0, none⟩ rfl) HS_ ?_
   refine tH 6 20 rfl rfl (gRun rfl (.pointer (some ⟨gh, 0 + 1, none⟩)) fun _ h => run_fieldOp' f90_1 (.tmp 19) rfl gh (0) rfl) HS_ ?_
   refine tH 7 21 rfl rfl (gRun rfl (.int .i64 (d : Nat)) fun _ h => run_load1 o3 (.tmp 20) rfl gh (0 + 1) rfl (.int .i64 (d : Nat)) (h.row.at 1 _ rfl)) HS_ ?_
   simp only [Act.put, aS, aC, aZ]
   refine tH 8 22 rfl rfl (gRun rfl (.int .i64 (A : Nat)) fun _ h => run_mvZ (.tmp 1) rfl (.int .i64 (A : Nat)) rfl) HS_ ?_
   refine tH 9 23 rfl rfl (gRun rfl (.int .i64 (i : Nat)) fun _ h => run_mvZ (.tmp 7) rfl (.int .i64 (i : Nat)) rfl) HS_ ?_
   refine tH 10 24 rfl rfl (gRun rfl (.int .i64 ((A + i : Nat) : Int)) fun _ h => run_addZ (.tmp 22) (.tmp 23) rfl (A : Nat) (i : Nat) _ rfl rfl (by omega) (by omega) (by omega)) HS_ ?_
   refine tH 11 25 rfl rfl (gRun rfl (whole gi F.length) fun _ h => run_mvZ (.tmp 2) rfl (whole gi F.length) rfl) HS_ ?_
   simp only [Act.put, aS, aC, aZ]
   refine tH 12 26 rfl rfl (gRun rfl (.int .i64 (i : Nat)) fun _ h => run_mvZ (.tmp 7) rfl (.int .i64 (i : Nat)) rfl) HS_ ?_
   refine tH 13 27 rfl rfl (gRun rfl (.pointer (some ⟨gi, i * 64, none⟩)) fun _ h => run_idx (.tmp 25) (.tmp 26) rfl _ _ _ rfl rfl (ix96 gi F.length i hlt)) HS_ ?_
   refine tH 14 28 rfl rfl (gRun rfl (.slice (some ⟨gi, i * 64 + 0, none⟩) (64 - 0) (64 - 0)) fun _ h => run_slA arr73 (.tmp 27) none none rfl gi (i * 64) 0 64 rfl ⟨Or.inl ⟨rfl, rfl⟩, Or.inl ⟨rfl, rfl⟩, by omega, by omega, by omega⟩) HS_ ?_
   simp only [Act.put, aS, aC, aZ]
   refine oneH (i := 15) (by kernel_rfl) ?_
   refine opCallG (some 29) rfl rfl rfl 60 _ (run_call eN60 [.tmp 17, .tmp 21, .tmp 24, .tmp 28] _ rfl [(ptr gp), (.int .i64 (d : Nat)), (.int .i64 ((A + i : Nat) : Int)), (.slice (some ⟨gi, i * 64 + 0, none⟩) (64 - 0) (64 - 0))] rfl) ?_
   refine (HLX.out.2.2.1.write (by have := HST.out; omega) (d : Nat) ((A + i : Nat) : Int) _ (F.getD i []) (HLX.out.2.2.2.1.sec64 i hlt)).mono ?_
   rintro e W2 ⟨he_, hn_⟩
   rw [← HW.out.1] at he_
   rw [← HW.out.2] at hn_
   subst he_
   obtain ⟨c2, s2_, l2_⟩ := hn_.sp
   have HJ : Hid ((HotM W2 gh gp gf gm d n fr f ∧ HotC c2 gh gf gm ∧ Live W2 c2 2 gp m2 ∧ ImgIn W2 gi F ∧ (c2 gi).1 ≠ 2) ∧ Sp wr W2 ci c2) := ⟨⟨(HLX.out.1.sp s2_ HLX.out.2.1).1, (HLX.out.1.sp s2_ HLX.out.2.1).2, l2_, ⟨(s2_.row HLX.out.2.2.2.1.row HLX.out.2.2.2.2).1, HLX.out.2.2.2.1.sec⟩, (s2_.row HLX.out.2.2.2.1.row HLX.out.2.2.2.2).2⟩, (Sp.bel ci HBX.out).trans s2_⟩
   clear s2_ l2_ hn_
   replace HS_ : HotM W2 gh gp gf gm d n fr f := HJ.out.1.1
   refine ⟨_, rfl, ?_⟩
   refine ⟨HS_, ?_⟩
   simp only [Act.put, aS, aC, aZ]
   refine tH 16 8 rfl rfl (gRun rfl (.int .i64 er) fun _ h => run_asZ (.tmp 29) rfl (.int .i64 er) rfl) HS_ ?_
   simp only [Act.put, aS, aC, aZ]
   refine wpAnyH_done (by kernel_rfl) ?_ _
   by_cases hz : er = 0
   ·go_upto_region 5 with fail
    refine wp_region_lit ?_
    refine wl rfl (.int .i64 er) _ (run_mvZ (.tmp 8) rfl (.int .i64 er) rfl) ?_
    refine wl rfl (.bool false) _ (run_neZ (.tmp 30) (.const (.int .i64 0)) rfl er 0 rfl rfl false (by rw [decide_eq_true hz]; rfl)) ?_
    simp only [Act.put, aS, aC, aZ]
    refine wpList_nil ?_
    have HZ : Hid (er = 0) := hz
    clear hz
    go_wp2_with fail
    refine ⟨⟨i + 1, by go_num, by omega, ⟨m2, c2, HJ.out.1, HI.out.2.1.trans HJ.out.2, ?_, ?_⟩⟩, ?_⟩
    ·rw [HI.out.2.2.1, lay_yes hlt (by rw [← HW.out.1]; exact HZ.out), ← HW.out.2]
    ·have := Pl.write_steps mi (d : Nat) ((A + i : Nat) : Int) (F.getD i [])
     rw [← HW.out.2] at this
     have := HST.out
     omega
    ·simp [intOf]; omega
   ·go_upto_region 5 with fail
    refine wp_region_lit ?_
    refine wl rfl (.int .i64 er) _ (run_mvZ (.tmp 8) rfl (.int .i64 er) rfl) ?_
    refine wl rfl (.bool true) _ (run_neZ (.tmp 30) (.const (.int .i64 0)) rfl er 0 rfl rfl true (by rw [decide_eq_false hz]; rfl)) ?_
    simp only [Act.put, aS, aC, aZ]
    refine wpList_nil ?_
    have HZ : Hid (¬ er = 0) := hz
    clear hz
    go_upto_region 6 with fail
    refine wp_region_lit ?_
    refine wl rfl (.int .i64 er) _ (run_mvZ (.tmp 8) rfl (.int .i64 er) rfl) ?_
    refine wl rfl (.int .i64 er) _ (run_asZ (.tmp 32) rfl (.int .i64 er) rfl) ?_
    simp only [Act.put, aS, aC, aZ]
    refine wpList_nil ?_
    go_wp2_with fail
    rw [HPQ.out]
    refine ⟨c2, ?_, HI.out.2.1.trans HJ.out.2, ?_⟩
    ·rw [HI.out.2.2.1, lay_no hlt (by rw [← HW.out.1]; exact HZ.out), ← HW.out.1]
     rfl
    ·rw [HI.out.2.2.1, lay_no hlt (by rw [← HW.out.1]; exact HZ.out), ← HW.out.2]
     exact HJ.out.1.2.2.1
  ·go_upto_region 2 with fail
   refine wp_region_lit ?_
   refine wl rfl (.bool false) _ (run_lssZ (.tmp 11) (.tmp 10) rfl (i : Nat) (F.length : Nat) rfl rfl false (decide_eq_false (by omega))) ?_
   simp only [Act.put, aS, aC, aZ]
   refine wpList_nil ?_
   obtain ⟨er, her⟩ : ∃ er, er = (mi.flush (d : Nat)).1 := ⟨_, rfl⟩
   have HW : Hid (er = (mi.flush (d : Nat)).1) := her
   clear her
   go_upto_region 8 with fail
   refine wp_region_held (S := fun X => HotM X gh gp gf gm d n fr f) (by kernel_rfl) ?_
   show wpAnyH _ _ _ _ _ 10 (Array.replicate 10 false) _ _
   obtain ⟨X, hX⟩ : ∃ X : World, X = { wr with drawn := wr.drawn + 1 } := ⟨_, rfl⟩
   rw [← hX]
   have HBX : Hid (Below wr.heap.size wr X) := hX ▸ ⟨rfl, rfl, rfl, Nat.le_refl _, fun _ _ => rfl⟩
   have HS_ : HotM X gh gp gf gm d n fr f := HI.out.1.1.later HBX.out
   have HLX : Hid (Live X ci 2 gp mi) := HI.out.1.2.2.1.below HBX.out
   have HST : Hid (mi.steps ≤ m.steps + i) := HI.out.2.2.2
   clear hX
   refine tH 0 34 rfl rfl (gRun rfl (ptr gh) fun _ h => run_mvZ (.tmp 0) rfl (ptr gh) rfl) HS_ ?_
   refine tH 1 35 rfl rfl (gRun rfl (ptr gh) fun _ h => run_nil (.tmp 34) rfl ⟨gh, 0, none⟩ rfl) HS_ ?_
   refine tH 2 36 rfl rfl (gRun rfl (.pointer (some ⟨gh, 0 + 0, none⟩)) fun _ h => run_fieldOp' f90_0 (.tmp 35) rfl gh (0) rfl) HS_ ?_
   refine tH 3 37 rfl rfl (gRun rfl (ptr gp) fun _ h => run_load1 o34 (.tmp 36) rfl gh (0 + 0) rfl (ptr gp) (h.row.at 0 _ rfl)) HS_ ?_
   simp only [Act.put, aS, aC, aZ]
   refine tH 4 38 rfl rfl (gRun rfl (ptr gh) fun _ h => run_mvZ (.tmp 0) rfl (ptr gh) rfl) HS_ ?_
   refine tH 5 39 rfl rfl (gRun rfl (ptr gh) fun _ h => run_nil (.tmp 38) rfl ⟨gh, 0, none⟩ rfl) HS_ ?_
   refine tH 6 40 rfl rfl (gRun rfl (.pointer (some ⟨gh, 0 + 1, none⟩)) fun _ h => run_fieldOp' f90_1 (.tmp 39) rfl gh (0) rfl) HS_ ?_
   refine tH 7 41 rfl rfl (gRun rfl (.int .i64 (d : Nat)) fun _ h => run_load1 o3 (.tmp 40) rfl gh (0 + 1) rfl (.int .i64 (d : Nat)) (h.row.at 1 _ rfl)) HS_ ?_
   simp only [Act.put, aS, aC, aZ]
   refine oneH (i := 8) (by kernel_rfl) ?_
   refine opCallG (some 42) rfl rfl rfl 61 _ (run_call eN61 [.tmp 37, .tmp 41] _ rfl [(ptr gp), (.int .i64 (d : Nat))] rfl) ?_
   refine (HLX.out.flush (by have := HST.out; omega) (d : Nat)).mono ?_
   rintro e W2 ⟨he_, hn_⟩
   rw [← HW.out] at he_
   subst he_
   obtain ⟨c2, s2_, l2_⟩ := hn_.sp
   have HJ : Hid (Live W2 c2 2 gp (mi.flush (d : Nat)).2 ∧ Sp wr W2 ci c2) := ⟨l2_, (Sp.bel ci HBX.out).trans s2_⟩
   replace HS_ : HotM W2 gh gp gf gm d n fr f := (HS_.sp s2_ HI.out.1.2.1).1
   clear s2_ l2_ hn_
   refine ⟨_, rfl, ?_⟩
   refine ⟨HS_, ?_⟩
   simp only [Act.put, aS, aC, aZ]
   refine tH 9 6 rfl rfl (gRun rfl (.int .i64 er) fun _ h => run_asZ (.tmp 42) rfl (.int .i64 er) rfl) HS_ ?_
   simp only [Act.put, aS, aC, aZ]
   refine wpAnyH_done (by kernel_rfl) ?_ _
   go_wp2_with fail
   rw [HPQ.out]
   have ei : F.drop i = [] := List.drop_of_length_le (by omega)
   refine ⟨c2, ?_, HI.out.2.1.trans HJ.out.2, ?_⟩
   ·rw [HI.out.2.2.1, ei, HW.out]
    rfl
   ·rw [HI.out.2.2.1, ei]
    exact HJ.out.1

end Go.Proofs.YthgidfoidbgnaaaDoor

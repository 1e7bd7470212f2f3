/- The walk of Plant.Clone. -/
import Derived.Test.YteacjeihliajpaaClone
namespace Go.Proofs.Yteacjeihliajpaa
open Go.RowKit Go.Maps

def CloneIn (W : World) (c : Nat → Colour) (t B q N : Nat) (m : Pl) (k : Nat) : Prop :=
  ∃ (L : List Value) (gs : Nat → Nat), Row W B 69 [.slice (some ⟨q, 0, none⟩) N N, .bool m.on, .int .i64 m.fuse, .int .i64 (m.steps : Nat), .int .i64 m.clock] ∧ c B = (t, 0) ∧ Row W q 70 L ∧ c q = (t, 0) ∧ L.length = N ∧ (∀ i, i < k → L[i]? = some (ptr (gs i))) ∧
    ∀ i, i < k → DevIn W c (t, i + 1) (gs i) (m.tape i) (m.size i) (m.fl i) (m.wt i)
theorem clone_step {W W5 : World} {c : Nat → Colour} {t B q N k gd : Nat} {m : Pl} {L : List Value} {gs : Nat → Nat} (hr : Row W B 69 [.slice (some ⟨q, 0, none⟩) N N, .bool m.on, .int .i64 m.fuse, .int .i64 (m.steps : Nat), .int .i64 m.clock]) (hcB : c B = (t, 0)) (hq : Row W q 70 L) (hcq : c q = (t, 0)) (hL : L.length = N) (hc : ∀ i, i < k → L[i]? = some (ptr (gs i)))
    (hd : ∀ i, i < k → DevIn W c (t, i + 1) (gs i) (m.tape i) (m.size i) (m.fl i) (m.wt i)) (hk : k < N)
    (hd5 : DevIn W5 (paint c W.heap.size (t, k + 1)) (t, k + 1) gd (m.tape k) (m.size k) (m.fl k) (m.wt k)) (hb : Below W.heap.size W W5) (hne : B ≠ q) :
    CloneIn (W5.setRow q (L.set k (ptr gd)).toArray) (paint c W.heap.size (t, k + 1)) t B q N m (k + 1) := by
  have hq5 : Row W5 q 70 L := hq.later hb hq.lt
  have hr5 := hr.later hb hr.lt
  refine ⟨L.set k (ptr gd), fun i => if i = k then gd else gs i, hr5.setRow_other hne _, by rw [paint_old _ _ _ _ hr.lt]; exact hcB, hq5.setRow _, by rw [paint_old _ _ _ _ hq.lt]; exact hcq, by simpa using hL, fun i hi => ?_, fun i hi => ?_⟩
  · by_cases e : i = k
    · subst e
      rw [List.getElem?_set_self (by omega)]
      simp
    · rw [List.getElem?_set_ne (Ne.symm e)]
      simp only [if_neg e]
      exact hc i (by omega)
  · by_cases e : i = k
    · subst e
      simp only [if_pos]
      refine hd5.kept fun b hlt hkk => ⟨Go.setRow_other W5 q b _ ?_, hkk⟩
      rintro rfl
      rw [paint_old _ _ _ _ hq.lt, hcq] at hkk
      simp at hkk
    · simp only [if_neg e]
      refine (hd i (by omega)).kept fun b hlt hkk => ⟨?_, by rw [paint_old _ _ _ _ hlt]; exact hkk⟩
      rw [Go.setRow_other W5 q b _ (by rintro rfl; rw [hcq] at hkk; simp at hkk)]
      exact hb.block b hlt
theorem clone_done {W : World} {c : Nat → Colour} {t B q N : Nat} {m : Pl} (h : CloneIn W c t B q N m N) (hN : N = m.n) (hne : q ≠ B) : ∃ gs, PlantAt W c t B q N gs m := by
  obtain ⟨L, gs, hr, hcB, hq, hcq, hL, hc, hd⟩ := h
  subst hN
  exact ⟨gs, ⟨hr, hcB, hcq, hne, hq.lt, Nat.le_refl _, fun i hi => hq.at i _ (hc i hi), hd⟩⟩
theorem wpList_len67 {w : World} {ops : Array Oper} {rest : List Oper} {o : Oper} {a : Act} {Q : Exit → Act → World → Prop} (x : Operand) (hgd : o.guard = none) (ho : o.op = .call { callee := .builtin .len, args := #[x], argTypes := #[67] }) (p : Option Addr) (n cap : Nat) (hx : a.eval x = .slice p n cap)
    (h : wpList Try.prog ops Q rest (a.put o.dst (.int .i64 (n : Nat))) w) : wpList Try.prog ops Q (o :: rest) a w :=
  wpList_value hgd _ w (by
    have hl := run_len_slice (P := Try.prog) (w := w) 67 o.type p n cap (by kernel_rfl)
    simp only [execOp, ho, resolve, invoke, builtin, Sem.run_bind, Sem.run_pure, Result.andThen_ok, List.map_toArray, List.map_cons, List.map_nil, hx, hl]
    rfl) h
theorem zero69 : (Try.prog.info? 69).map (·.zero) = some (some (.agg ([.slice none 0 0, .bool false, .int .i64 0, .int .i64 0, .int .i64 0] : List Value).toArray)) := by kernel_rfl
theorem en40 : EntersF 40 := Go.Proofs.enters_of Try.func40 (by kernel_rfl) rfl
theorem run_indexOp {w : World} {a : Act} {o : Oper} {t e n : Nat} (ht : Try.prog.underlying t = some (.slice e)) (hs : (Try.prog.info? e).map (·.size) = some n) (x ix : Operand) (ho : o.op = .indexAddr t x ix) (b off len cap j : Nat) (hx : a.eval x = .slice (some ⟨b, off, none⟩) len cap)
    (hix : a.eval ix = .int .i64 (j : Nat)) (hj : j < len) : (execOp a.eval o).run Try.prog w = .ok (.value (.pointer (some ⟨b, off + j * n, none⟩))) w := by
  obtain ⟨i, hi, hsz⟩ := Option.map_eq_some_iff.1 hs
  simp [execOp, ho, hx, hix, Instr.indexAt, asIntOf, run_underlying ht, sizeOf, typeInfo, hi, hsz, hj, add_none]

set_option maxHeartbeats 1000000 in
set_option maxRecDepth 100000 in
theorem clone_any {w : World} {c : Nat → Colour} {t g db cap : Nat} {gs : Nat → Nat} {m : Pl} (h : PlantAt w c t g db cap gs m) (hwf : m.WF) (hst : m.steps < 1099511627775) (t' : Nat) :
    Calls Try.prog 12 #[ptr g] w fun e w' => ∃ g' c' db' cap' gs', e = .returned (ptr g') ∧ w.heap.size ≤ g' ∧ (∀ b, b < w.heap.size → c' b = c b) ∧ PlantAt w' c' t' g' db' cap' gs' m ∧ Below w.heap.size w w' := by
  obtain ⟨B, hB⟩ : ∃ B, B = w.heap.size := ⟨_, rfl⟩
  obtain ⟨N, hN⟩ : ∃ N, N = m.n := ⟨_, rfl⟩
  rw [← hB]
  have HB : Hid (B = w.heap.size) := hB
  have HN : Hid (N = m.n) := hN
  have hN12 : N ≤ 12 := by rw [hN]; exact hwf.few
  have HP : Hid (PlantAt w c t g db cap gs m) := h
  have HWF : Hid (m.WF) := hwf
  have HST : Hid (m.steps < 1099511627775) := hst
  have HR : Hid (Row w g 69 [.slice (some ⟨db, 0, none⟩) N cap, .bool m.on, .int .i64 m.fuse, .int .i64 (m.steps : Nat), .int .i64 m.clock]) := by rw [hN]; exact h.row
  have hgB : g < B := by have := h.row.lt; omega
  clear h hwf hst hB hN
  go_enter Try.func12, Try.ntmps12
  go_upto_region 1 with fail
  refine wp_region_lit ?_
  refine wpList_move (.tmp 0) rfl rfl (ptr g) rfl ?_
  simp only [Act.put, List.setIfInBounds_toArray, List.set_cons_succ, List.set_cons_zero]
  refine wpList_nilCheck (.tmp 6) rfl rfl _ rfl ?_
  simp only [Act.put, List.setIfInBounds_toArray, List.set_cons_succ, List.set_cons_zero]
  refine wpList_load agg69 (.tmp 7) rfl rfl g 0 rfl [.slice (some ⟨db, 0, none⟩) N cap, .bool m.on, .int .i64 m.fuse, .int .i64 (m.steps : Nat), .int .i64 m.clock] rfl (fun j u hu => by rw [Nat.zero_add]; exact HR.out.at j u hu) ?_
  simp only [Act.put, List.setIfInBounds_toArray, List.set_cons_succ, List.set_cons_zero]
  refine wpList_alloc_store agg69 _ zero69 rfl rfl rfl rfl rfl (.tmp 8) rfl [.slice (some ⟨db, 0, none⟩) N cap, .bool m.on, .int .i64 m.fuse, .int .i64 (m.steps : Nat), .int .i64 m.clock] rfl rfl ?one (fun _ => rfl) (fun _ => rfl) ?_
  case one =>
    intro u hu
    simp only [List.mem_cons, List.not_mem_nil, or_false] at hu
    rcases hu with rfl | rfl | rfl | rfl | rfl <;> rfl
  intro w1 r1 s1 b1
  rw [← HB.out] at r1 s1 b1 ⊢
  refine wpList_nil ?_
  simp only [Act.put, List.setIfInBounds_toArray, List.set_cons_succ, List.set_cons_zero]
  obtain ⟨i0, hi0, hz0, hz1, hz2⟩ := info_parts info70
  have hmk0 := run_make (P := Try.prog) w1 67 70 i0 _ und67 hi0 hz0 .i64 .i64 (N : Int) (N : Int) (by omega) (Int.le_refl _) (by rw [hz2]; omega) (by omega)
  simp only [Int.toNat_natCast, s1, hz1] at hmk0
  obtain ⟨L0, hL0⟩ : ∃ L0, L0 = (madeCells (Value.pointer none).cells (N * 1)).toList := ⟨_, rfl⟩
  obtain ⟨w2, hw2⟩ : ∃ w2, w2 = w1.alloc (.cells (madeCells (Value.pointer none).cells (N * 1)) 70) := ⟨_, rfl⟩
  have hmk : (Instr.makeSlice 67 (.int .i64 (N : Int)) (.int .i64 (N : Int))).run Try.prog w1 = .ok (.slice (some ⟨B + 1, 0, none⟩) N N) w2 := by rw [hw2]; exact hmk0
  have hl0 : L0.length = N := by rw [hL0]; simp [size_madeCells]
  have r2q : Row w2 (B + 1) 70 L0 := by
    have := Row.new' w1 70 (madeCells (Value.pointer none).cells (N * 1))
    rw [s1, ← hL0, ← hw2] at this
    exact this
  have b2 : Below (B + 1) w1 w2 := by rw [hw2]; exact (Below.refl _ w1).alloc (by omega) _
  have s2 : w2.heap.size = B + 2 := by rw [hw2]; simp [s1]
  have r2B := r1.later b2 (by omega)
  have HR1g : Hid (Row w1 g 69 [.slice (some ⟨db, 0, none⟩) N cap, .bool m.on, .int .i64 m.fuse, .int .i64 (m.steps : Nat), .int .i64 m.clock]) := HR.out.later b1 hgB
  have HR2g : Hid (Row w2 g 69 [.slice (some ⟨db, 0, none⟩) N cap, .bool m.on, .int .i64 m.fuse, .int .i64 (m.steps : Nat), .int .i64 m.clock]) := HR1g.out.later b2 (by omega)
  obtain ⟨w3, hw3⟩ : ∃ w3, w3 = w2.setRow B ([.slice (some ⟨B + 1, 0, none⟩) N N, .bool m.on, .int .i64 m.fuse, .int .i64 (m.steps : Nat), .int .i64 m.clock] : List Value).toArray := ⟨_, rfl⟩
  have r3B : Row w3 B 69 [.slice (some ⟨B + 1, 0, none⟩) N N, .bool m.on, .int .i64 m.fuse, .int .i64 (m.steps : Nat), .int .i64 m.clock] := by rw [hw3]; exact r2B.setRow _
  have r3q : Row w3 (B + 1) 70 L0 := by rw [hw3]; exact r2q.setRow_other (by omega) _
  have b3 : Below B w w3 := by
    rw [hw3]
    exact (b1.trans (b2.mono (by omega))).trans ⟨rfl, rfl, rfl, by simp [World.setRow], fun k hk => Go.setRow_other w2 B k _ (by omega)⟩
  have HI : Hid (CloneIn w3 (paint c B (t', 0)) t' B (B + 1) N m 0) := ⟨L0, fun _ => 0, r3B, paint_new _ _ _ _ (by omega), r3q, paint_new _ _ _ _ (by omega), hl0, fun i hi => (by omega), fun i hi => (by omega)⟩
  have HB3 : Hid (Below B w w3) := b3
  have HR3g : Hid (Row w3 g 69 [.slice (some ⟨db, 0, none⟩) N cap, .bool m.on, .int .i64 m.fuse, .int .i64 (m.steps : Nat), .int .i64 m.clock]) := HR.out.later b3 hgB
  have hs3 : w3.heap.size = B + 2 := by rw [hw3]; simpa [World.setRow] using s2
  have HS3 : Hid (w3.heap.size = B + 2) := hs3
  have c1 := HR1g.out.at 0 _ rfl
  have c3 := HR3g.out.at 0 _ rfl
  have hst3 : w2.setRow B (([.slice (some ⟨db, 0, none⟩) N cap, .bool m.on, .int .i64 m.fuse, .int .i64 (m.steps : Nat), .int .i64 m.clock] : List Value).set (0 + 0) (.slice (some ⟨B + 1, 0, none⟩) N N)).toArray = w3 := by rw [hw3]; rfl
  clear r1 s1 b1 hi0 hz0 hz1 hz2 hmk0 hL0 hw2 hl0 r2q b2 s2 hs3 r3B r3q b3 hw3
  go_upto_region 2 with fail
  refine wp_region_lit ?_
  refine wpList_move (.tmp 0) rfl rfl (ptr g) rfl ?_
  simp only [Act.put, List.setIfInBounds_toArray, List.set_cons_succ, List.set_cons_zero]
  refine wpList_nilCheck (.tmp 9) rfl rfl _ rfl ?_
  simp only [Act.put, List.setIfInBounds_toArray, List.set_cons_succ, List.set_cons_zero]
  refine wpList_field f69_0 (.tmp 10) rfl rfl g 0 rfl ?_
  simp only [Act.put, List.setIfInBounds_toArray, List.set_cons_succ, List.set_cons_zero]
  refine wpList_load1 one67 (.tmp 11) rfl rfl g (0 + 0) rfl _ c1 ?_
  simp only [Act.put, List.setIfInBounds_toArray, List.set_cons_succ, List.set_cons_zero]
  refine wpList_len67 (.tmp 12) rfl rfl _ N cap rfl ?_
  simp only [Act.put, List.setIfInBounds_toArray, List.set_cons_succ, List.set_cons_zero]
  refine wpList_value rfl (.slice (some ⟨B + 1, 0, none⟩) N N) w2 (by simp [execOp, Act.eval, hmk]) ?_
  simp only [Act.put, List.setIfInBounds_toArray, List.set_cons_succ, List.set_cons_zero]
  refine wpList_field f69_0 (.tmp 3) rfl rfl B 0 rfl ?_
  simp only [Act.put, List.setIfInBounds_toArray, List.set_cons_succ, List.set_cons_zero]
  refine wpList_store1 size67 (.tmp 15) (.tmp 14) rfl rfl rfl B (0 + 0) 69 rfl (.slice (some ⟨B + 1, 0, none⟩) N N) _ rfl rfl rfl r2B (by simp) ?_
  refine wpList_nil ?_
  rw [hst3]
  clear hst3 r2B hmk c1 HR1g HR2g
  go_wp2
  go_loopw [21] (fun ix W => ∃ n : Nat, n ≤ N ∧ ix = .int .i64 n ∧ ∃ c', (∀ b, b < B → c' b = c b) ∧ CloneIn W c' t' B (B + 1) N m n ∧ Below B w W) (fun ix _ => N - (intOf ix).toNat)
  case atStart => exact ⟨0, Nat.zero_le _, rfl, _, fun b hb => paint_old _ _ _ _ hb, HI.out, HB3.out⟩
  case round =>
    obtain ⟨n, hn, rfl, c', hcc, hin, hbw⟩ := hrel
    clear c3 HI
    by_cases hlt : n < N
    · have hcell := HP.out.cell n (by rw [← HN.out]; exact hlt)
      have cn : wr.cell? ⟨db, n, none⟩ = some (ptr (gs n)) := cell_later (by rw [← HB.out]; exact hbw) hcell
      obtain ⟨L, gl, hr, hcB, hq, hcq, hL, hc, hd⟩ := hin
      have HIN : Hid (Row wr B 69 [.slice (some ⟨B + 1, 0, none⟩) N N, .bool m.on, .int .i64 m.fuse, .int .i64 (m.steps : Nat), .int .i64 m.clock] ∧ c' B = (t', 0) ∧ Row wr (B + 1) 70 L ∧ c' (B + 1) = (t', 0) ∧ L.length = N ∧ (∀ i, i < n → L[i]? = some (ptr (gl i))) ∧ ∀ i, i < n → DevIn wr c' (t', i + 1) (gl i) (m.tape i) (m.size i) (m.fl i) (m.wt i)) := ⟨hr, hcB, hq, hcq, hL, hc, hd⟩
      have HBL : Hid (Below B w wr ∧ (∀ b, b < B → c' b = c b)) := ⟨hbw, hcc⟩
      have HDV : Hid (DevIn wr c' (t, n + 1) (gs n) (m.tape n) (m.size n) (m.fl n) (m.wt n)) := (HP.out.dev n (by rw [← HN.out]; exact hlt)).kept fun b hb hk => ⟨hbw.block b (by have := HB.out; omega), (hcc b (by have := HB.out; omega)).trans hk⟩
      clear hcell hr hcB hq hcq hL hc hd hbw hcc
      go_upto_region 6 with fail
      have HSS : Hid ((wr.drewN 1).cell? ⟨B, 0 + 0, none⟩ = some (.slice (some ⟨B + 1, 0, none⟩) N N)) := HIN.out.1.at 0 _ rfl
      refine wp_region_any (by kernel_rfl) (wpAny_of_held (S := fun W => W.cell? ⟨B, 0 + 0, none⟩ = some (.slice (some ⟨B + 1, 0, none⟩) N N)) _ _ _ _ ?_)
      show wpAnyH _ _ _ _ _ 7 (Array.replicate 7 false) _ (wr.drewN 1)
      refine takeH (i := 0) (some 26) rfl rfl (by kernel_rfl) (by kernel_rfl) (by kernel_rfl) (fun _ _ _ h => h) (yField f69_0 rfl (.tmp 3) rfl B 0 rfl).yieldsIf HSS.out ?_
      simp only [Act.put, List.setIfInBounds_toArray, List.set_cons_succ, List.set_cons_zero]
      refine takeH (i := 1) (some 27) rfl rfl (by kernel_rfl) (by kernel_rfl) (by kernel_rfl) (fun _ _ _ h => h) (yLoad1H one67 rfl (.tmp 26) rfl B (0 + 0) rfl _ (fun W hW => hW)) HSS.out ?_
      simp only [Act.put, List.setIfInBounds_toArray, List.set_cons_succ, List.set_cons_zero]
      refine takeH (i := 2) (some 28) rfl rfl (by kernel_rfl) (by kernel_rfl) (by kernel_rfl) (fun _ _ _ h => h) (yMove rfl (.tmp 4) rfl (.int .i64 (n : Int)) rfl).yieldsIf HSS.out ?_
      simp only [Act.put, List.setIfInBounds_toArray, List.set_cons_succ, List.set_cons_zero]
      refine takeH (i := 3) (some 29) rfl rfl (by kernel_rfl) (by kernel_rfl) (by kernel_rfl) (fun _ _ _ h => h) (yMove rfl (.tmp 5) rfl (ptr (gs n)) rfl).yieldsIf HSS.out ?_
      simp only [Act.put, List.setIfInBounds_toArray, List.set_cons_succ, List.set_cons_zero]
      refine oneH (i := 4) (by kernel_rfl) ?_
      have hwl : (m.wt n).length < 1099511627776 := by
        have h1 := HWF.out.count
        have h2 : (m.wt n).length ≤ m.wts.length := List.length_filter_le _ _
        have := HST.out
        omega
      have hcall := devClone_any (w := wr.drewN 1) HDV.out hwl (t', n + 1)
      refine opCallA (some 30) rfl rfl rfl 40 _ (run_call en40 [.tmp 29] _ rfl [ptr (gs n)] rfl) (hcall.mono ?_)
      rintro e w5 ⟨gd, rfl, hgd, hd5, hb5⟩
      have hb5' : Below wr.heap.size wr w5 := (Below.drewN (Below.refl wr.heap.size wr) 1).trans hb5
      obtain ⟨hr, hcB, hq, hcq, hL, hc, hd⟩ := HIN.out
      have r5 := hr.later hb5' hr.lt
      have q5 := hq.later hb5' hq.lt
      refine ⟨_, rfl, r5.at 0 _ rfl, ?_⟩
      simp only [Act.put, List.setIfInBounds_toArray, List.set_cons_succ, List.set_cons_zero]
      refine oneH (i := 5) (by kernel_rfl) ?_
      refine opValue (some 31) rfl rfl rfl _ _ (run_indexOp und67 size70 (.tmp 27) (.tmp 28) rfl (B + 1) 0 N N n rfl rfl hlt) ⟨r5.at 0 _ rfl, ?_⟩
      simp only [Act.put, List.setIfInBounds_toArray, List.set_cons_succ, List.set_cons_zero]
      refine oneH (i := 6) (by kernel_rfl) ?_
      have hN6 := clone_step (m := m) hr hcB hq hcq hL hc hd hlt hd5 hb5' (by omega)
      have hrun6 := fun (aa : Act) (oo : Oper) (ho : oo.op = .store 70 (.tmp 31) (.tmp 30)) (hx : aa.eval (.tmp 31) = .pointer (some ⟨B + 1, 0 + n * 1, none⟩)) (hy : aa.eval (.tmp 30) = ptr gd) => run_storeOp1 (a := aa) (o := oo) size70 (.tmp 31) (.tmp 30) ho (B + 1) (0 + n * 1) 70 hx (ptr gd) _ hy rfl rfl q5 (by omega)
      obtain ⟨w6, hw6⟩ : ∃ w6, w6 = w5.setRow (B + 1) (L.set n (ptr gd)).toArray := ⟨_, rfl⟩
      have e6 : w5.setRow (B + 1) (L.set (0 + n * 1) (ptr gd)).toArray = w6 := by rw [hw6, show 0 + n * 1 = n by omega]
      simp only [e6] at hrun6
      rw [← hw6] at hN6
      have r6 : Row w6 B 69 [.slice (some ⟨B + 1, 0, none⟩) N N, .bool m.on, .int .i64 m.fuse, .int .i64 (m.steps : Nat), .int .i64 m.clock] := by rw [hw6]; exact r5.setRow_other (by omega) _
      refine opSkip rfl rfl rfl w6 (hrun6 _ _ rfl rfl rfl) ⟨r6.at 0 _ rfl, ?_⟩
      refine wpAnyH_done (by kernel_rfl) ?_ _
      have HN6 : Hid (CloneIn w6 (paint c' wr.heap.size (t', n + 1)) t' B (B + 1) N m (n + 1)) := hN6
      have HB6 : Hid (Below B w w6) := by
        have hsz : B ≤ wr.heap.size := by have := hr.lt; omega
        rw [hw6]
        exact (HBL.out.1.trans (hb5'.mono hsz)).trans ⟨rfl, rfl, rfl, by simp [World.setRow], fun k hk => Go.setRow_other w5 (B + 1) k _ (by omega)⟩
      have HC6 : Hid (∀ b, b < B → paint c' wr.heap.size (t', n + 1) b = c b) := fun b hb => by
        rw [paint_old _ _ _ _ (by have := hr.lt; omega)]
        exact HBL.out.2 b hb
      clear hN6 hrun6 hw6 e6 r6 q5 r5 hr hcB hq hcq hL hc hd hb5' hb5 hd5 hcall hwl HSS
      go_wp2
      exact ⟨⟨n + 1, by omega, by go_num, _, HC6.out, HN6.out, HB6.out⟩, by simp [intOf]; omega⟩
    · have e : n = N := by omega
      subst e
      have HIN : Hid (CloneIn wr c' t' B (B + 1) n m n) := hin
      have HBL : Hid (Below B w wr ∧ (∀ b, b < B → c' b = c b)) := ⟨hbw, hcc⟩
      clear hin hbw hcc
      go_wp2
      go_ret
      obtain ⟨gs', hP'⟩ := clone_done HIN.out HN.out (by omega)
      exact ⟨B, c', B + 1, n, gs', rfl, Nat.le_refl _, HBL.out.2, hP', HBL.out.1⟩
/-- a plant's double -/
theorem Live.clone {w : World} {c : Nat → Colour} {t g : Nat} {m : Pl} (h : Live w c t g m) (hst : m.steps < 1099511627775) (t' : Nat) :
    Calls Try.prog 12 #[ptr g] w fun e w' => ∃ g' c', e = .returned (ptr g') ∧ w.heap.size ≤ g' ∧ (∀ b, b < w.heap.size → c' b = c b) ∧ (∀ b, w.heap.size ≤ b → (c' b).1 = t' ∨ (c' b).1 = t' + 1) ∧ Live w' c' t' g' m ∧ Below w.heap.size w w' := by
  obtain ⟨⟨db, cap, gs, hP⟩, hwf, _⟩ := h
  refine (clone_any hP hwf hst t').mono fun e w' ⟨g', c', db', cap', gs', he, hg, hcc, hP', hb⟩ => ?_
  obtain ⟨c2, h1, h2, h3, _⟩ := Live.post (w := w) (c := c) (t := t') (g := g') ⟨c', hcc, hP', Ch.of_below hb⟩ hwf
  exact ⟨g', c2, he, hg, h1, h2, h3, hb⟩
end Go.Proofs.Yteacjeihliajpaa

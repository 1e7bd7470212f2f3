/- Layer 8: at every step of a script the power may go off. -/
import Derived.Test.YtgcecejamcnkiaaDoorZ43
namespace Go.Proofs.YtgcecejamcnkiaaDoor
open Go.RowKit Go.Maps

theorem LawD.bel {w W W' : World} {c : Nat → Colour} {gd gw g : Nat} {m : Pl} {ds : List Nat} {i n S E : Nat} {D : List (List (List Nat))} {nv : Value} {dims K Kd : Nat} (h : LawD w W c gd gw g m ds i n S E D nv dims K Kd) (hb : Below W.heap.size W W') : LawD w W' c gd gw g m ds i n S E D nv dims K Kd := ⟨h.desk.below hb, h.cc, h.below.trans (hb.mono h.below.size), h.gd, h.gw, h.le, h.dim⟩
theorem LawD.mono {w W : World} {c : Nat → Colour} {gd gw g : Nat} {m : Pl} {ds : List Nat} {i n S E : Nat} {D : List (List (List Nat))} {nv : Value} {dims K Kd K' Kd' : Nat} (h : LawD w W c gd gw g m ds i n S E D nv dims K Kd) (hk : K ≤ K') (hd : Kd ≤ Kd') : LawD w W c gd gw g m ds i n S E D nv dims K' Kd' := ⟨h.desk, h.cc, h.below, h.gd, h.gw, by have := h.le; omega, by have := h.dim; omega⟩
theorem run_cut22 {w : World} {a : Act} {o : Oper} (x : Operand) (ho : o.op = .slice 22 x none (some (.const (.int .i64 12))) none) (p : Option Addr) (n cap : Nat) (hn : 12 ≤ cap) (hx : a.eval x = .slice p n cap) : (execOp a.eval o).run Tryd.prog w = .ok (.value (.slice p 12 cap)) w := by
  have hy : a.eval (.const (.int .i64 12)) = .int .i64 12 := rfl
  obtain ⟨i5, hi5, hsz⟩ := Option.map_eq_some_iff.1 s33
  have hsize : (sizeOf 33).run Tryd.prog w = .ok 4 w := by simp [sizeOf, typeInfo, hi5, hsz]
  have he : Tryd.prog.elem 22 = 33 := by kernel_rfl
  have hr : (Instr.slice 22 (.slice p n cap) none (some (.int .i64 12)) none).run Tryd.prog w = .ok (sliced p 0 12 cap 4) w := by
    rw [run_slice_h _ _ _ _ _ sl22 _ _ (by omega) (by omega), he, hsize]
    rfl
  have hs : sliced p 0 12 cap 4 = .slice p 12 cap := by
    unfold sliced
    cases p <;> simp [Addr.add]
  rw [hs] at hr
  simp [execOp, ho, hx, hy, run_sliceAt_slice _ _ _ _ _ _ sl22, hr]
theorem zero33 : (Tryd.prog.info? 33).map (·.zero) = some (some (.agg (opCells 0 0 (.slice none 0 0) (.slice none 0 0)).toArray)) := by kernel_rfl
theorem IntsIn.isSl {W : World} {v : Value} {l : List Int} (h : IntsIn W v l) : ∃ p n c, v = .slice p n c := by obtain ⟨p, cap, h, _⟩ := h; exact ⟨p, _, cap, h⟩
set_option maxHeartbeats 32000000 in
set_option maxRecDepth 100000 in
theorem walEvery_any (w : World) (ht : Fr.TabIn w) (v : Value) (os : List OpD) (ho : OpsIn w v os) (kv : Value) (ks : List Int) (hk : IntsIn w kv ks) : Calls Tryd.prog 4 #[v, kv] w fun e w' => e = .returned (.bool true) ∧ Below w.heap.size w w' := by
  obtain ⟨p, cap, rfl, hcap, hlen, hcells, hops⟩ := ho
  obtain ⟨kp, kn, kc, rfl⟩ := hk.isSl
  obtain ⟨ln, hln⟩ : ∃ ln, ln = os.length := ⟨_, rfl⟩
  have HT : Hid (Fr.TabIn w ∧ IntsIn w (.slice kp kn kc) ks) := ⟨ht, hk⟩
  have HOS : Hid (ln = os.length ∧ (∀ o ∈ os, OpIn w o) ∧ (os = [] ∨ ∃ b off, p = some ⟨b, off, none⟩ ∧ ∀ i, i < os.length → ∀ j, j < 4 → w.cell? ⟨b, off + (i * 4 + j), none⟩ = (os.getD i default).cells[j]?)) := ⟨hln, hops, hcells⟩
  rw [← hln] at hlen hcap ⊢
  obtain ⟨PQ, hPQ⟩ : ∃ PQ : Ending → World → Prop, PQ = fun (e : Ending) (w' : World) => e = .returned (.bool true) ∧ Below w.heap.size w w' := ⟨_, rfl⟩
  have HPQ : Hid (PQ = fun (e : Ending) (w' : World) => e = .returned (.bool true) ∧ Below w.heap.size w w') := hPQ
  rw [← hPQ]
  have HSH : Hid (Calls Tryd.prog 9 #[] w fun e w' => e = .returned (.bool true) ∧ Below w.heap.size w w') := shown_any w ht
  have HKX : Hid (∀ W c gd gw, Below w.heap.size w W → (∀ b, b < w.heap.size → Fr3 c 2 gd gw b) → KeepX W (Fr3 c 2 gd gw) (.slice kp kn kc) ks) := fun W c gd gw hb hP => hk.keepX hb.size fun b hlt => ⟨hb.block b hlt, hP b hlt⟩
  have HOP : Hid (∀ k, k < ln → ∃ o : OpD, OpIn w o ∧ ∃ b off, p = some ⟨b, off, none⟩ ∧ ∀ W, Below w.heap.size w W → ∀ j v, o.cells[j]? = some v → W.cell? ⟨b, off + k * 4 + j, none⟩ = some v) := fun k hlt => by
    have hkl : k < os.length := by rw [← hln]; exact hlt
    refine ⟨os.getD k default, hops _ (getD_mem hkl), ?_⟩
    rcases hcells with e | ⟨b, off, h1, h2⟩
    · rw [e] at hkl; exact absurd hkl (Nat.not_lt_zero _)
    · refine ⟨b, off, h1, fun W hW j v hj => ?_⟩
      have hj4 : j < 4 := (List.getElem?_eq_some_iff.1 hj).1
      have h3 := h2 k hkl j hj4
      rw [hj] at h3
      rw [Nat.add_assoc, ← h3]
      exact World.cell?_of_block (hW.block b (block_lt_of_cell h3))
  clear hPQ ht hln hops hcells hk
  go_enter Tryd.func4, Tryd.ntmps4
  go_upto_region 4 with (go_at_call 9; refine HSH.out.mono ?_; rintro e w1 ⟨rfl, b1⟩; have R1 : Hid (Below w.heap.size w w1) := b1; clear b1 HSH)
  rcases Nat.lt_or_ge 12 ln with hgt | hgt
  · have tg : decide ((12 : Int) < (ln : Int)) = true := decide_eq_true (by omega)
    have tg' : decide ((ln : Int) > 12) = true := decide_eq_true (by omega)
    go_upto_region 5 with (refine wl_sl sl22 (.tmp 17) rfl rfl p ln cap rfl ?_)
    refine wp_region_lit ?_
    refine wl_mv (.tmp 0) rfl rfl (.slice p ln cap) rfl ?_
    simp only [Act.put, List.setIfInBounds_toArray, List.set_cons_succ, List.set_cons_zero]
    refine wl rfl (.slice p 12 cap) _ (run_cut22 (.tmp 20) rfl p ln cap (by omega) rfl) ?_
    simp only [Act.put, List.setIfInBounds_toArray, List.set_cons_succ, List.set_cons_zero]
    refine wl_as (.tmp 21) rfl rfl (.slice p 12 cap) rfl ?_
    simp only [Act.put, List.setIfInBounds_toArray, List.set_cons_zero]
    refine wpList_nil ?_
    go_upto_region 6 with fail
    go_wp2_with fail
    go_loopw [6] (fun vf W => ∃ f : Nat, vf = .int .i64 (f : Nat) ∧ f ≤ 400 ∧ Below w.heap.size w W) (fun vf _ => 400 - (intOf vf).toNat)
    case atStart => exact ⟨0, rfl, Nat.zero_le _, R1.out⟩
    case round =>
      obtain ⟨f, rfl, hf, hI⟩ := hrel
      have HI : Hid (Below w.heap.size w wr) := hI
      clear hI R1
      by_cases hlt : f < 400
      · have t1 : decide ((f : Int) < 400) = true := decide_eq_true (by omega)
        go_upto_region 9 with fail
        refine wp_region_lit ?_
        refine wpList_callF eN11 [.const (.int .i64 1), .const (.int .i64 40)] _ rfl rfl [.int .i64 1, .int .i64 40] rfl ?_
        refine (law_made w wr HI.out 1 40 ⟨by decide, by decide⟩ ⟨by decide, by decide⟩).mono ?_
        rintro e w3 ⟨g, c3, rfl, q1, q2, q3⟩
        refine ⟨_, rfl, ?_⟩
        have R3 : Hid ((∀ b, b < w.heap.size → c3 b = (0, 0)) ∧ Live w3 c3 2 g (newPl (List.replicate 1 ((40 : Nat) : Int)) []) ∧ Below w.heap.size w w3) := ⟨q1, q2, q3⟩
        clear q1 q2 q3 HI
        simp only [Act.put, List.setIfInBounds_toArray, List.set_cons_succ, List.set_cons_zero]
        refine wl_as (.tmp 26) rfl rfl (ptr g) rfl ?_
        simp only [Act.put, List.setIfInBounds_toArray, List.set_cons_succ, List.set_cons_zero]
        refine wpList_nil ?_
        go_upto_region 12 with fail
        refine wp_region_lit ?_
        refine wl_mv (.tmp 7) rfl rfl (ptr g) rfl ?_
        simp only [Act.put, List.setIfInBounds_toArray, List.set_cons_succ, List.set_cons_zero]
        refine wpList_callF eN12 [.tmp 29, .const (.int .i64 0), .const (.int .i64 40)] _ rfl rfl [ptr g, .int .i64 0, .int .i64 40] rfl ?_
        refine (law_begun (n := 40) R3.out.2.2 ⟨by decide, by decide⟩ ⟨by decide, by decide⟩ R3.out.2.1 R3.out.1 HT.out.1).mono ?_
        rintro e w4 ⟨gd, c4, gw4, m4, S4, E4, rfl, q1, _⟩
        refine ⟨_, rfl, ?_⟩
        have R4 : Hid (LawD w w4 c4 gd gw4 g m4 [40] 0 40 S4 E4 [] (.slice none 0 0) 0 6000 0) := q1
        clear q1 R3
        simp only [Act.put, List.setIfInBounds_toArray, List.set_cons_succ, List.set_cons_zero]
        refine wl_as (.tmp 30) rfl rfl (ptr gd) rfl ?_
        simp only [Act.put, List.setIfInBounds_toArray, List.set_cons_succ, List.set_cons_zero]
        refine wpList_nil ?_
        go_upto_region 15 with fail
        refine wp_region_lit ?_
        refine wl_mv (.tmp 7) rfl rfl (ptr g) rfl ?_
        simp only [Act.put, List.setIfInBounds_toArray, List.set_cons_succ, List.set_cons_zero]
        refine wl_mv (.tmp 6) rfl rfl (.int .i64 (f : Nat)) rfl ?_
        simp only [Act.put, List.setIfInBounds_toArray, List.set_cons_succ, List.set_cons_zero]
        refine wpList_callF eN14 [.tmp 33, .tmp 34] _ rfl rfl [(ptr g), (.int .i64 (f : Nat))] rfl ?_
        refine (R4.out.fuse (f : Nat) (by omega) (by omega)).mono ?_
        rintro e w5 ⟨rfl, c5, q1⟩
        refine ⟨_, rfl, ?_⟩
        have R5 : Hid (LawD w w5 c5 gd gw4 g (m4.fuseTo (f : Nat)) [40] 0 40 S4 E4 [] (.slice none 0 0) 0 6000 0) := q1
        clear q1 R4
        simp only [Act.put, List.setIfInBounds_toArray, List.set_cons_succ, List.set_cons_zero]
        refine wpList_nil ?_
        go_upto_region 16 with fail
        go_wp2_with fail
        rename World => W5
        go_loopw [9] (fun vi W => ∃ (k : Nat) (c : Nat → Colour) (gw : Nat) (m : Pl) (S E : Nat) (D : List (List (List Nat))) (nv : Value) (dims : Nat), vi = .int .i64 (k : Nat) ∧ k ≤ 12 ∧ LawD w W c gd gw g m [40] 0 40 S E D nv dims (6000 + 20000 * k) (10 * k)) (fun vi _ => 12 - (intOf vi).toNat)
        case atStart => exact ⟨0, c5, gw4, _, S4, E4, [], _, 0, rfl, Nat.zero_le _, R5.out⟩
        case round =>
          obtain ⟨k, c, gw, m, S, E, D, nv, dims, rfl, hk, hI⟩ := hrel
          have HD : Hid (LawD w wr c gd gw g m [40] 0 40 S E D nv dims (6000 + 20000 * k) (10 * k)) := hI
          clear hI R5
          by_cases hlk : k < 12
          · have t2 : decide ((k : Int) < ((12 : Nat) : Int)) = true := decide_eq_true (by omega)
            have t2' : decide ((k : Int) < 12) = true := decide_eq_true (by omega)
            obtain ⟨o, hoin, b, off, hp, hcl⟩ := HOP.out k (by omega)
            have HC : Hid (p = some ⟨b, off, none⟩ ∧ (∀ j v, o.cells[j]? = some v → wr.cell? ⟨b, off + k * 4 + j, none⟩ = some v) ∧ OpIn w o) := ⟨hp, hcl wr HD.out.below, hoin⟩
            obtain ⟨q, hq⟩ : ∃ q, q = whichOf o.k 12 := ⟨_, rfl⟩
            have HWH : Hid (∀ W, Calls Tryd.prog 10 #[.int .i64 o.k, .int .i64 12] W fun e w' => e = .returned (.int .i64 (q : Nat)) ∧ W = w') := fun W => by rw [hq]; exact which_any W o.k 12 (by decide) hoin.k.1 hoin.k.2
            have hq12 : q < 12 := by rw [hq]; exact whichOf_lt _ 12 (by decide)
            clear hoin hp hcl hq
            go_upto_region 19 with (refine wl_sl sl22 (.tmp 37) rfl rfl p 12 cap rfl ?_)
            refine wp_region_lit ?_
            refine wl_mv (.tmp 0) rfl rfl (.slice p 12 cap) rfl ?_
            simp only [Act.put, List.setIfInBounds_toArray, List.set_cons_succ, List.set_cons_zero]
            refine wl_mv (.tmp 9) rfl rfl (.int .i64 (k : Nat)) rfl ?_
            simp only [Act.put, List.setIfInBounds_toArray, List.set_cons_succ, List.set_cons_zero]
            refine wl_ix (.tmp 42) (.tmp 43) rfl rfl (.slice p 12 cap) (.pointer (some ⟨b, off + k * 4, none⟩)) (.int .i64 (k : Nat)) rfl rfl (fun w' => by rw [HC.out.1]; exact idx22 b off 12 cap k hlk w') ?_
            simp only [Act.put, List.setIfInBounds_toArray, List.set_cons_succ, List.set_cons_zero]
            refine wl_ldA agg33 (.tmp 44) rfl rfl b (off + k * 4) rfl o.cells rfl HC.out.2.1 ?_
            simp only [Act.put, List.setIfInBounds_toArray, List.set_cons_succ, List.set_cons_zero]
            refine wpList_alloc_store agg33 _ zero33 rfl rfl rfl rfl rfl (.tmp 45) rfl o.cells rfl rfl (opCells_one HC.out.2.2.tx.isSl HC.out.2.2.keep.isSl) (fun _ => rfl) (fun _ => rfl) ?_
            intro w6 r6 s6 b6
            obtain ⟨go, hgo⟩ : ∃ go, go = wr.heap.size := ⟨_, rfl⟩
            rw [← hgo] at r6 s6 ⊢
            have R6 : Hid (Row w6 go 33 o.cells ∧ Below wr.heap.size wr w6 ∧ wr.heap.size ≤ go) := ⟨r6, b6, by omega⟩
            clear r6 s6 b6 hgo
            simp only [Act.put, List.setIfInBounds_toArray, List.set_cons_succ, List.set_cons_zero]
            refine wpList_nil ?_
            go_upto_region 20 with fail
            refine wp_region_lit ?_
            refine wl_mv (.tmp 1) rfl rfl (.slice kp kn kc) rfl ?_
            simp only [Act.put, List.setIfInBounds_toArray, List.set_cons_succ, List.set_cons_zero]
            refine wl_fld f33_3 (.tmp 10) rfl rfl go 0 rfl ?_
            simp only [Act.put, List.setIfInBounds_toArray, List.set_cons_succ, List.set_cons_zero]
            refine wl_put s31 (.tmp 47) (.tmp 46) rfl rfl rfl go (0 + 3) 33 o.cells rfl (.slice kp kn kc) rfl ⟨rfl, rfl⟩ R6.out.1 (show 0 + 3 < 4 by decide) ?_
            refine wpList_nil ?_
            obtain ⟨w7, hw7⟩ : ∃ w7, w7 = w6.setCell ⟨go, 0 + 3, none⟩ (.slice kp kn kc) := ⟨_, rfl⟩
            rw [← hw7]
            have R7 : Hid (Row w7 go 33 (opCells o.k o.N o.txv (.slice kp kn kc)) ∧ LawD w w7 c gd gw g m [40] 0 40 S E D nv dims (6000 + 20000 * k) (10 * k)) := by
              have h6 := row_cell' (i := 0 + 3) R6.out.1 (.slice kp kn kc)
              have hch : Ch (· = go) w6 w7 := by rw [hw7]; exact (Ch.refl (· = go) w6).setCell (Or.inl rfl) _ _
              refine ⟨by rw [hw7]; simpa [OpD.cells, opCells] using h6, HD.out.bel (R6.out.2.1.trans (hch.below R6.out.2.1.size fun b hb e => by have := R6.out.2.2; omega))⟩
            have RO : Hid (OpR w7 (Fr3 c 2 gd gw) o.k o.N o.txv (.slice kp kn kc) o.L ks) := by
              have h1 := HC.out.2.2.at R7.out.2.below R7.out.2.fr3
              exact ⟨h1.k, h1.n, h1.tx, HKX.out w7 c gd gw R7.out.2.below R7.out.2.fr3, h1.size⟩
            have kg0 := R7.out.1.at 0 _ rfl
            clear hw7 R6 HD HC
            rcases (show q = 9 ∨ q = 10 ∨ (q ≠ 9 ∧ q ≠ 10) by omega) with hq | hq | hq
            · subst hq
              have R8 : Hid (LawD w w7 c gd gw g m [40] 0 40 S E D nv dims (6000 + 20000 * (k + 1)) (10 * (k + 1))) := R7.out.2.mono (by omega) (by omega)
              go_wp2_with (go_at_call 10; refine (HWH.out w7).mono ?_; rintro e wx ⟨rfl, hwx⟩; subst hwx)
              refine ⟨⟨k + 1, c, gw, m, S, E, D, nv, dims, by go_num, by omega, R8.out⟩, ?_⟩
              simp [intOf]; omega
            · subst hq
              have R8 : Hid (LawD w w7 c gd gw g m [40] 0 40 S E D nv dims (6000 + 20000 * (k + 1)) (10 * (k + 1))) := R7.out.2.mono (by omega) (by omega)
              go_wp2_with (go_at_call 10; refine (HWH.out w7).mono ?_; rintro e wx ⟨rfl, hwx⟩; subst hwx)
              refine ⟨⟨k + 1, c, gw, m, S, E, D, nv, dims, by go_num, by omega, R8.out⟩, ?_⟩
              simp [intOf]; omega
            · have ta9 : ((q : Int) == 9) = false := by simp; omega
              have tb9 : decide ((q : Int) = 9) = false := decide_eq_false (by omega)
              have ta10 : ((q : Int) == 10) = false := by simp; omega
              have tb10 : decide ((q : Int) = 10) = false := decide_eq_false (by omega)
              go_upto_region 22 with (go_at_call 10; refine (HWH.out w7).mono ?_; rintro e wx ⟨rfl, hwx⟩; subst hwx)
              refine wp_region_lit ?_
              refine wl_mv (.tmp 8) rfl rfl (ptr gd) rfl ?_
              simp only [Act.put, List.setIfInBounds_toArray, List.set_cons_succ, List.set_cons_zero]
              refine wl_ldA agg33 (.tmp 10) rfl rfl go 0 rfl (opCells o.k o.N o.txv (.slice kp kn kc)) rfl (fun j v hj => by rw [Nat.zero_add]; exact R7.out.1.at j v hj) ?_
              simp only [Act.put, List.setIfInBounds_toArray, List.set_cons_succ, List.set_cons_zero]
              refine wpList_callF eN13 [.tmp 58, .tmp 59] _ rfl rfl [(ptr gd), (.agg (opCells o.k o.N o.txv (.slice kp kn kc)).toArray)] rfl ?_
              refine (R7.out.2.does (by omega) (by omega) RO.out).mono ?_
              rintro e w8 ⟨rfl, c8, gw8, m8, S8, E8, D8, nv8, d8, q1, _⟩
              refine ⟨_, rfl, ?_⟩
              have R8 : Hid (LawD w w8 c8 gd gw8 g m8 [40] 0 40 S8 E8 D8 nv8 d8 (6000 + 20000 * (k + 1)) (10 * (k + 1))) := q1.mono (by omega) (by omega)
              clear q1 R7 RO
              simp only [Act.put, List.setIfInBounds_toArray, List.set_cons_succ, List.set_cons_zero]
              refine wl_as (.tmp 60) rfl rfl (.bool true) rfl ?_
              simp only [Act.put, List.setIfInBounds_toArray, List.set_cons_succ, List.set_cons_zero]
              refine wpList_nil ?_
              clear kg0
              go_wp2_with fail
              refine ⟨⟨k + 1, c8, gw8, m8, S8, E8, D8, nv8, d8, by go_num, by omega, R8.out⟩, ?_⟩
              simp [intOf]; omega
          · obtain rfl : k = 12 := by omega
            have t2 : decide (((12 : Nat) : Int) < ((12 : Nat) : Int)) = false := decide_eq_false (by omega)
            have kd6 := HD.out.desk.dk.row.at 6 _ rfl
            go_upto_region 26 with (refine wl_sl sl22 (.tmp 37) rfl rfl p 12 cap rfl ?_)
            clear kd6
            obtain ⟨us, hB⟩ := HD.out.rest
            have RB : Hid (LawB w wr c gd g m [40] 0 40 D (ptr gw) nv us (costs D) dims (6000 + 20000 * 12) (10 * 12) ∧ KeepX wr (Fr2 c 2 gd) (.slice kp kn kc) ks) := ⟨hB, (HKX.out wr c gd gw HD.out.below HD.out.fr3).next (Nat.le_refl _) fun b hb hp => ⟨rfl, hp.1, hp.2.1⟩⟩
            clear hB HD
            refine wp_region_lit ?_
            refine wl_mv (.tmp 7) rfl rfl (ptr g) rfl ?_
            simp only [Act.put, List.setIfInBounds_toArray, List.set_cons_succ, List.set_cons_zero]
            refine wl_mv (.tmp 1) rfl rfl (.slice kp kn kc) rfl ?_
            simp only [Act.put, List.setIfInBounds_toArray, List.set_cons_succ, List.set_cons_zero]
            refine wpList_callF eN15 [.tmp 67, .tmp 68] _ rfl rfl [(ptr g), (.slice kp kn kc)] rfl ?_
            refine (RB.out.1.boot (by omega) _ ks RB.out.2).mono ?_
            rintro e w7 ⟨rfl, c7, q1, q2, q3⟩
            refine ⟨_, rfl, ?_⟩
            have R7 : Hid (LawB w w7 c7 gd g (m.boot ks) [40] 0 40 D (ptr gw) nv us (costs D) dims (6000 + 20000 * 12) (10 * 12) ∧ KeepX w7 (Fr2 c7 2 gd) (.slice kp kn kc) ks) := ⟨q1, RB.out.2.next q3.size fun b hb hp => ⟨q3.block b hb hp.1, by rw [q2 b hb]; exact hp.1, hp.2⟩⟩
            clear q1 q2 q3 RB
            simp only [Act.put, List.setIfInBounds_toArray, List.set_cons_succ, List.set_cons_zero]
            refine wpList_nil ?_
            go_upto_region 27 with fail
            refine wp_region_lit ?_
            refine wl_mv (.tmp 8) rfl rfl (ptr gd) rfl ?_
            simp only [Act.put, List.setIfInBounds_toArray, List.set_cons_succ, List.set_cons_zero]
            refine wl_mv (.tmp 1) rfl rfl (.slice kp kn kc) rfl ?_
            simp only [Act.put, List.setIfInBounds_toArray, List.set_cons_succ, List.set_cons_zero]
            refine wl_mv (.tmp 8) rfl rfl (ptr gd) rfl ?_
            simp only [Act.put, List.setIfInBounds_toArray, List.set_cons_succ, List.set_cons_zero]
            refine wl_nil (.tmp 72) rfl rfl ⟨gd, 0, none⟩ rfl ?_
            simp only [Act.put, List.setIfInBounds_toArray, List.set_cons_succ, List.set_cons_zero]
            refine wl_fld f40_3 (.tmp 73) rfl rfl gd 0 rfl ?_
            simp only [Act.put, List.setIfInBounds_toArray, List.set_cons_succ, List.set_cons_zero]
            refine wl_ld o38 (.tmp 74) rfl rfl gd (0 + 3) rfl nv (R7.out.1.dk.row.at 3 _ rfl) ?_
            simp only [Act.put, List.setIfInBounds_toArray, List.set_cons_succ, List.set_cons_zero]
            refine wl rfl _ _ (run_lit41_1 (.tmp 75) rfl nv R7.out.1.sl rfl) ?_
            simp only [Act.put, List.setIfInBounds_toArray, List.set_cons_succ, List.set_cons_zero]
            refine wpList_callF eN16 [.tmp 70, .tmp 71, .tmp 76] _ rfl rfl [ptr gd, .slice kp kn kc, .slice (some ⟨w7.heap.size, 0, none⟩) 1 1] rfl ?_
            refine (R7.out.1.opens (by omega) (by omega) _ ks R7.out.2).mono ?_
            rintro e w8 ⟨rfl, c8, gw8, m8, S8, E8, nv8, d8, q1, _⟩
            refine ⟨_, rfl, ?_⟩
            have R8 : Hid (Below w.heap.size w w8) := q1.below
            clear q1 R7
            simp only [Act.put, List.setIfInBounds_toArray, List.set_cons_succ, List.set_cons_zero]
            refine wl_as (.tmp 77) rfl rfl (.bool true) rfl ?_
            simp only [Act.put, List.setIfInBounds_toArray, List.set_cons_succ, List.set_cons_zero]
            refine wpList_nil ?_
            by_cases hd0 : dims = 0
            · subst hd0
              go_wp2_with fail
              rw [HPQ.out]
              exact ⟨rfl, R8.out⟩
            · have ta : ((dims : Int) == 0) = false := by simp; omega
              have tb : decide ((dims : Int) = 0) = false := decide_eq_false (by omega)
              go_wp2_with fail
              refine ⟨⟨f + 1, by go_num, by omega, R8.out⟩, ?_⟩
              simp [intOf]; omega
      · obtain rfl : f = 400 := by omega
        have t1 : decide (((400 : Nat) : Int) < 400) = false := decide_eq_false (by omega)
        go_wp2_with fail
        rw [HPQ.out]
        exact ⟨rfl, HI.out⟩
  · have tg : decide ((12 : Int) < (ln : Int)) = false := decide_eq_false (by omega)
    have tg' : decide ((ln : Int) > 12) = false := decide_eq_false (by omega)
    go_upto_region 6 with (refine wl_sl sl22 (.tmp 17) rfl rfl p ln cap rfl ?_)
    go_wp2_with fail
    go_loopw [6] (fun vf W => ∃ f : Nat, vf = .int .i64 (f : Nat) ∧ f ≤ 400 ∧ Below w.heap.size w W) (fun vf _ => 400 - (intOf vf).toNat)
    case atStart => exact ⟨0, rfl, Nat.zero_le _, R1.out⟩
    case round =>
      obtain ⟨f, rfl, hf, hI⟩ := hrel
      have HI : Hid (Below w.heap.size w wr) := hI
      clear hI R1
      by_cases hlt : f < 400
      · have t1 : decide ((f : Int) < 400) = true := decide_eq_true (by omega)
        go_upto_region 9 with fail
        refine wp_region_lit ?_
        refine wpList_callF eN11 [.const (.int .i64 1), .const (.int .i64 40)] _ rfl rfl [.int .i64 1, .int .i64 40] rfl ?_
        refine (law_made w wr HI.out 1 40 ⟨by decide, by decide⟩ ⟨by decide, by decide⟩).mono ?_
        rintro e w3 ⟨g, c3, rfl, q1, q2, q3⟩
        refine ⟨_, rfl, ?_⟩
        have R3 : Hid ((∀ b, b < w.heap.size → c3 b = (0, 0)) ∧ Live w3 c3 2 g (newPl (List.replicate 1 ((40 : Nat) : Int)) []) ∧ Below w.heap.size w w3) := ⟨q1, q2, q3⟩
        clear q1 q2 q3 HI
        simp only [Act.put, List.setIfInBounds_toArray, List.set_cons_succ, List.set_cons_zero]
        refine wl_as (.tmp 26) rfl rfl (ptr g) rfl ?_
        simp only [Act.put, List.setIfInBounds_toArray, List.set_cons_succ, List.set_cons_zero]
        refine wpList_nil ?_
        go_upto_region 12 with fail
        refine wp_region_lit ?_
        refine wl_mv (.tmp 7) rfl rfl (ptr g) rfl ?_
        simp only [Act.put, List.setIfInBounds_toArray, List.set_cons_succ, List.set_cons_zero]
        refine wpList_callF eN12 [.tmp 29, .const (.int .i64 0), .const (.int .i64 40)] _ rfl rfl [ptr g, .int .i64 0, .int .i64 40] rfl ?_
        refine (law_begun (n := 40) R3.out.2.2 ⟨by decide, by decide⟩ ⟨by decide, by decide⟩ R3.out.2.1 R3.out.1 HT.out.1).mono ?_
        rintro e w4 ⟨gd, c4, gw4, m4, S4, E4, rfl, q1, _⟩
        refine ⟨_, rfl, ?_⟩
        have R4 : Hid (LawD w w4 c4 gd gw4 g m4 [40] 0 40 S4 E4 [] (.slice none 0 0) 0 6000 0) := q1
        clear q1 R3
        simp only [Act.put, List.setIfInBounds_toArray, List.set_cons_succ, List.set_cons_zero]
        refine wl_as (.tmp 30) rfl rfl (ptr gd) rfl ?_
        simp only [Act.put, List.setIfInBounds_toArray, List.set_cons_succ, List.set_cons_zero]
        refine wpList_nil ?_
        go_upto_region 15 with fail
        refine wp_region_lit ?_
        refine wl_mv (.tmp 7) rfl rfl (ptr g) rfl ?_
        simp only [Act.put, List.setIfInBounds_toArray, List.set_cons_succ, List.set_cons_zero]
        refine wl_mv (.tmp 6) rfl rfl (.int .i64 (f : Nat)) rfl ?_
        simp only [Act.put, List.setIfInBounds_toArray, List.set_cons_succ, List.set_cons_zero]
        refine wpList_callF eN14 [.tmp 33, .tmp 34] _ rfl rfl [(ptr g), (.int .i64 (f : Nat))] rfl ?_
        refine (R4.out.fuse (f : Nat) (by omega) (by omega)).mono ?_
        rintro e w5 ⟨rfl, c5, q1⟩
        refine ⟨_, rfl, ?_⟩
        have R5 : Hid (LawD w w5 c5 gd gw4 g (m4.fuseTo (f : Nat)) [40] 0 40 S4 E4 [] (.slice none 0 0) 0 6000 0) := q1
        clear q1 R4
        simp only [Act.put, List.setIfInBounds_toArray, List.set_cons_succ, List.set_cons_zero]
        refine wpList_nil ?_
        go_upto_region 16 with fail
        go_wp2_with fail
        rename World => W5
        go_loopw [9] (fun vi W => ∃ (k : Nat) (c : Nat → Colour) (gw : Nat) (m : Pl) (S E : Nat) (D : List (List (List Nat))) (nv : Value) (dims : Nat), vi = .int .i64 (k : Nat) ∧ k ≤ ln ∧ LawD w W c gd gw g m [40] 0 40 S E D nv dims (6000 + 20000 * k) (10 * k)) (fun vi _ => ln - (intOf vi).toNat)
        case atStart => exact ⟨0, c5, gw4, _, S4, E4, [], _, 0, rfl, Nat.zero_le _, R5.out⟩
        case round =>
          obtain ⟨k, c, gw, m, S, E, D, nv, dims, rfl, hk, hI⟩ := hrel
          have HD : Hid (LawD w wr c gd gw g m [40] 0 40 S E D nv dims (6000 + 20000 * k) (10 * k)) := hI
          clear hI R5
          by_cases hlk : k < ln
          · have t2 : decide ((k : Int) < ((ln : Nat) : Int)) = true := decide_eq_true (by omega)
            have t2' : decide ((k : Int) < (ln : Int)) = true := decide_eq_true (by omega)
            obtain ⟨o, hoin, b, off, hp, hcl⟩ := HOP.out k (by omega)
            have HC : Hid (p = some ⟨b, off, none⟩ ∧ (∀ j v, o.cells[j]? = some v → wr.cell? ⟨b, off + k * 4 + j, none⟩ = some v) ∧ OpIn w o) := ⟨hp, hcl wr HD.out.below, hoin⟩
            obtain ⟨q, hq⟩ : ∃ q, q = whichOf o.k 12 := ⟨_, rfl⟩
            have HWH : Hid (∀ W, Calls Tryd.prog 10 #[.int .i64 o.k, .int .i64 12] W fun e w' => e = .returned (.int .i64 (q : Nat)) ∧ W = w') := fun W => by rw [hq]; exact which_any W o.k 12 (by decide) hoin.k.1 hoin.k.2
            have hq12 : q < 12 := by rw [hq]; exact whichOf_lt _ 12 (by decide)
            clear hoin hp hcl hq
            go_upto_region 19 with (refine wl_sl sl22 (.tmp 37) rfl rfl p ln cap rfl ?_)
            refine wp_region_lit ?_
            refine wl_mv (.tmp 0) rfl rfl (.slice p ln cap) rfl ?_
            simp only [Act.put, List.setIfInBounds_toArray, List.set_cons_succ, List.set_cons_zero]
            refine wl_mv (.tmp 9) rfl rfl (.int .i64 (k : Nat)) rfl ?_
            simp only [Act.put, List.setIfInBounds_toArray, List.set_cons_succ, List.set_cons_zero]
            refine wl_ix (.tmp 42) (.tmp 43) rfl rfl (.slice p ln cap) (.pointer (some ⟨b, off + k * 4, none⟩)) (.int .i64 (k : Nat)) rfl rfl (fun w' => by rw [HC.out.1]; exact idx22 b off ln cap k hlk w') ?_
            simp only [Act.put, List.setIfInBounds_toArray, List.set_cons_succ, List.set_cons_zero]
            refine wl_ldA agg33 (.tmp 44) rfl rfl b (off + k * 4) rfl o.cells rfl HC.out.2.1 ?_
            simp only [Act.put, List.setIfInBounds_toArray, List.set_cons_succ, List.set_cons_zero]
            refine wpList_alloc_store agg33 _ zero33 rfl rfl rfl rfl rfl (.tmp 45) rfl o.cells rfl rfl (opCells_one HC.out.2.2.tx.isSl HC.out.2.2.keep.isSl) (fun _ => rfl) (fun _ => rfl) ?_
            intro w6 r6 s6 b6
            obtain ⟨go, hgo⟩ : ∃ go, go = wr.heap.size := ⟨_, rfl⟩
            rw [← hgo] at r6 s6 ⊢
            have R6 : Hid (Row w6 go 33 o.cells ∧ Below wr.heap.size wr w6 ∧ wr.heap.size ≤ go) := ⟨r6, b6, by omega⟩
            clear r6 s6 b6 hgo
            simp only [Act.put, List.setIfInBounds_toArray, List.set_cons_succ, List.set_cons_zero]
            refine wpList_nil ?_
            go_upto_region 20 with fail
            refine wp_region_lit ?_
            refine wl_mv (.tmp 1) rfl rfl (.slice kp kn kc) rfl ?_
            simp only [Act.put, List.setIfInBounds_toArray, List.set_cons_succ, List.set_cons_zero]
            refine wl_fld f33_3 (.tmp 10) rfl rfl go 0 rfl ?_
            simp only [Act.put, List.setIfInBounds_toArray, List.set_cons_succ, List.set_cons_zero]
            refine wl_put s31 (.tmp 47) (.tmp 46) rfl rfl rfl go (0 + 3) 33 o.cells rfl (.slice kp kn kc) rfl ⟨rfl, rfl⟩ R6.out.1 (show 0 + 3 < 4 by decide) ?_
            refine wpList_nil ?_
            obtain ⟨w7, hw7⟩ : ∃ w7, w7 = w6.setCell ⟨go, 0 + 3, none⟩ (.slice kp kn kc) := ⟨_, rfl⟩
            rw [← hw7]
            have R7 : Hid (Row w7 go 33 (opCells o.k o.N o.txv (.slice kp kn kc)) ∧ LawD w w7 c gd gw g m [40] 0 40 S E D nv dims (6000 + 20000 * k) (10 * k)) := by
              have h6 := row_cell' (i := 0 + 3) R6.out.1 (.slice kp kn kc)
              have hch : Ch (· = go) w6 w7 := by rw [hw7]; exact (Ch.refl (· = go) w6).setCell (Or.inl rfl) _ _
              refine ⟨by rw [hw7]; simpa [OpD.cells, opCells] using h6, HD.out.bel (R6.out.2.1.trans (hch.below R6.out.2.1.size fun b hb e => by have := R6.out.2.2; omega))⟩
            have RO : Hid (OpR w7 (Fr3 c 2 gd gw) o.k o.N o.txv (.slice kp kn kc) o.L ks) := by
              have h1 := HC.out.2.2.at R7.out.2.below R7.out.2.fr3
              exact ⟨h1.k, h1.n, h1.tx, HKX.out w7 c gd gw R7.out.2.below R7.out.2.fr3, h1.size⟩
            have kg0 := R7.out.1.at 0 _ rfl
            clear hw7 R6 HD HC
            rcases (show q = 9 ∨ q = 10 ∨ (q ≠ 9 ∧ q ≠ 10) by omega) with hq | hq | hq
            · subst hq
              have R8 : Hid (LawD w w7 c gd gw g m [40] 0 40 S E D nv dims (6000 + 20000 * (k + 1)) (10 * (k + 1))) := R7.out.2.mono (by omega) (by omega)
              go_wp2_with (go_at_call 10; refine (HWH.out w7).mono ?_; rintro e wx ⟨rfl, hwx⟩; subst hwx)
              refine ⟨⟨k + 1, c, gw, m, S, E, D, nv, dims, by go_num, by omega, R8.out⟩, ?_⟩
              simp [intOf]; omega
            · subst hq
              have R8 : Hid (LawD w w7 c gd gw g m [40] 0 40 S E D nv dims (6000 + 20000 * (k + 1)) (10 * (k + 1))) := R7.out.2.mono (by omega) (by omega)
              go_wp2_with (go_at_call 10; refine (HWH.out w7).mono ?_; rintro e wx ⟨rfl, hwx⟩; subst hwx)
              refine ⟨⟨k + 1, c, gw, m, S, E, D, nv, dims, by go_num, by omega, R8.out⟩, ?_⟩
              simp [intOf]; omega
            · have ta9 : ((q : Int) == 9) = false := by simp; omega
              have tb9 : decide ((q : Int) = 9) = false := decide_eq_false (by omega)
              have ta10 : ((q : Int) == 10) = false := by simp; omega
              have tb10 : decide ((q : Int) = 10) = false := decide_eq_false (by omega)
              go_upto_region 22 with (go_at_call 10; refine (HWH.out w7).mono ?_; rintro e wx ⟨rfl, hwx⟩; subst hwx)
              refine wp_region_lit ?_
              refine wl_mv (.tmp 8) rfl rfl (ptr gd) rfl ?_
              simp only [Act.put, List.setIfInBounds_toArray, List.set_cons_succ, List.set_cons_zero]
              refine wl_ldA agg33 (.tmp 10) rfl rfl go 0 rfl (opCells o.k o.N o.txv (.slice kp kn kc)) rfl (fun j v hj => by rw [Nat.zero_add]; exact R7.out.1.at j v hj) ?_
              simp only [Act.put, List.setIfInBounds_toArray, List.set_cons_succ, List.set_cons_zero]
              refine wpList_callF eN13 [.tmp 58, .tmp 59] _ rfl rfl [(ptr gd), (.agg (opCells o.k o.N o.txv (.slice kp kn kc)).toArray)] rfl ?_
              refine (R7.out.2.does (by omega) (by omega) RO.out).mono ?_
              rintro e w8 ⟨rfl, c8, gw8, m8, S8, E8, D8, nv8, d8, q1, _⟩
              refine ⟨_, rfl, ?_⟩
              have R8 : Hid (LawD w w8 c8 gd gw8 g m8 [40] 0 40 S8 E8 D8 nv8 d8 (6000 + 20000 * (k + 1)) (10 * (k + 1))) := q1.mono (by omega) (by omega)
              clear q1 R7 RO
              simp only [Act.put, List.setIfInBounds_toArray, List.set_cons_succ, List.set_cons_zero]
              refine wl_as (.tmp 60) rfl rfl (.bool true) rfl ?_
              simp only [Act.put, List.setIfInBounds_toArray, List.set_cons_succ, List.set_cons_zero]
              refine wpList_nil ?_
              clear kg0
              go_wp2_with fail
              refine ⟨⟨k + 1, c8, gw8, m8, S8, E8, D8, nv8, d8, by go_num, by omega, R8.out⟩, ?_⟩
              simp [intOf]; omega
          · obtain rfl : ln = k := by omega
            have t2 : decide (((ln : Nat) : Int) < ((ln : Nat) : Int)) = false := decide_eq_false (by omega)
            have kd6 := HD.out.desk.dk.row.at 6 _ rfl
            go_upto_region 26 with (refine wl_sl sl22 (.tmp 37) rfl rfl p ln cap rfl ?_)
            clear kd6
            obtain ⟨us, hB⟩ := HD.out.rest
            have RB : Hid (LawB w wr c gd g m [40] 0 40 D (ptr gw) nv us (costs D) dims (6000 + 20000 * ln) (10 * ln) ∧ KeepX wr (Fr2 c 2 gd) (.slice kp kn kc) ks) := ⟨hB, (HKX.out wr c gd gw HD.out.below HD.out.fr3).next (Nat.le_refl _) fun b hb hp => ⟨rfl, hp.1, hp.2.1⟩⟩
            clear hB HD
            refine wp_region_lit ?_
            refine wl_mv (.tmp 7) rfl rfl (ptr g) rfl ?_
            simp only [Act.put, List.setIfInBounds_toArray, List.set_cons_succ, List.set_cons_zero]
            refine wl_mv (.tmp 1) rfl rfl (.slice kp kn kc) rfl ?_
            simp only [Act.put, List.setIfInBounds_toArray, List.set_cons_succ, List.set_cons_zero]
            refine wpList_callF eN15 [.tmp 67, .tmp 68] _ rfl rfl [(ptr g), (.slice kp kn kc)] rfl ?_
            refine (RB.out.1.boot (by omega) _ ks RB.out.2).mono ?_
            rintro e w7 ⟨rfl, c7, q1, q2, q3⟩
            refine ⟨_, rfl, ?_⟩
            have R7 : Hid (LawB w w7 c7 gd g (m.boot ks) [40] 0 40 D (ptr gw) nv us (costs D) dims (6000 + 20000 * ln) (10 * ln) ∧ KeepX w7 (Fr2 c7 2 gd) (.slice kp kn kc) ks) := ⟨q1, RB.out.2.next q3.size fun b hb hp => ⟨q3.block b hb hp.1, by rw [q2 b hb]; exact hp.1, hp.2⟩⟩
            clear q1 q2 q3 RB
            simp only [Act.put, List.setIfInBounds_toArray, List.set_cons_succ, List.set_cons_zero]
            refine wpList_nil ?_
            go_upto_region 27 with fail
            refine wp_region_lit ?_
            refine wl_mv (.tmp 8) rfl rfl (ptr gd) rfl ?_
            simp only [Act.put, List.setIfInBounds_toArray, List.set_cons_succ, List.set_cons_zero]
            refine wl_mv (.tmp 1) rfl rfl (.slice kp kn kc) rfl ?_
            simp only [Act.put, List.setIfInBounds_toArray, List.set_cons_succ, List.set_cons_zero]
            refine wl_mv (.tmp 8) rfl rfl (ptr gd) rfl ?_
            simp only [Act.put, List.setIfInBounds_toArray, List.set_cons_succ, List.set_cons_zero]
            refine wl_nil (.tmp 72) rfl rfl ⟨gd, 0, none⟩ rfl ?_
            simp only [Act.put, List.setIfInBounds_toArray, List.set_cons_succ, List.set_cons_zero]
            refine wl_fld f40_3 (.tmp 73) rfl rfl gd 0 rfl ?_
            simp only [Act.put, List.setIfInBounds_toArray, List.set_cons_succ, List.set_cons_zero]
            refine wl_ld o38 (.tmp 74) rfl rfl gd (0 + 3) rfl nv (R7.out.1.dk.row.at 3 _ rfl) ?_
            simp only [Act.put, List.setIfInBounds_toArray, List.set_cons_succ, List.set_cons_zero]
            refine wl rfl _ _ (run_lit41_1 (.tmp 75) rfl nv R7.out.1.sl rfl) ?_
            simp only [Act.put, List.setIfInBounds_toArray, List.set_cons_succ, List.set_cons_zero]
            refine wpList_callF eN16 [.tmp 70, .tmp 71, .tmp 76] _ rfl rfl [ptr gd, .slice kp kn kc, .slice (some ⟨w7.heap.size, 0, none⟩) 1 1] rfl ?_
            refine (R7.out.1.opens (by omega) (by omega) _ ks R7.out.2).mono ?_
            rintro e w8 ⟨rfl, c8, gw8, m8, S8, E8, nv8, d8, q1, _⟩
            refine ⟨_, rfl, ?_⟩
            have R8 : Hid (Below w.heap.size w w8) := q1.below
            clear q1 R7
            simp only [Act.put, List.setIfInBounds_toArray, List.set_cons_succ, List.set_cons_zero]
            refine wl_as (.tmp 77) rfl rfl (.bool true) rfl ?_
            simp only [Act.put, List.setIfInBounds_toArray, List.set_cons_succ, List.set_cons_zero]
            refine wpList_nil ?_
            by_cases hd0 : dims = 0
            · subst hd0
              go_wp2_with fail
              rw [HPQ.out]
              exact ⟨rfl, R8.out⟩
            · have ta : ((dims : Int) == 0) = false := by simp; omega
              have tb : decide ((dims : Int) = 0) = false := decide_eq_false (by omega)
              go_wp2_with fail
              refine ⟨⟨f + 1, by go_num, by omega, R8.out⟩, ?_⟩
              simp [intOf]; omega
      · obtain rfl : f = 400 := by omega
        have t1 : decide (((400 : Nat) : Int) < 400) = false := decide_eq_false (by omega)
        go_wp2_with fail
        rw [HPQ.out]
        exact ⟨rfl, HI.out⟩
end Go.Proofs.YtgcecejamcnkiaaDoor
namespace Go.Proofs.YtgcecejamcnkiaaDoor
open Go.ChangeShapes Go.WideShapes Go.ChangeAt Go.RowKit Go.Deep
set_option maxRecDepth 100000 in
/-- A SLICE OF NUMBERS THAT CAME IN -/
theorem open_nums {H : Type} {enc : TypeId × Value → H} {W : World} {v : Value} {d : DataW H} {p : List MemPlace} {base : Nat}
    (hv : Value.okWide Tryd.prog W .any base 31 v) (h : DataW.Trod enc Tryd.prog W 0 (fun _ => true) true 31 v d p) : ∃ l : List Int, (l.length < 4611686018427387904 → IntsIn W v l) ∧ (l = [] ∨ ∃ elems spare, d = .slice elems spare ∧ elems.length = l.length) ∧ ∀ z ∈ l, -9223372036854775808 ≤ z ∧ z ≤ 9223372036854775807 := by
  obtain ⟨a0, len0, cap0, rfl⟩ := okWide_slice Tryd.underlying31 hv
  obtain ⟨fuel, hf⟩ := h
  rcases open_ints Tryd.underlying31 Tryd.underlying3 cells3 hf with ⟨hcs, _⟩ | ⟨x, l, c, zs, hcs, _, hl, hm, hz, hx, hcell, hwz⟩
  · simp [Value.cells] at hcs
    obtain ⟨rfl, rfl, rfl⟩ := hcs
    exact ⟨[], fun _ => ⟨none, 0, rfl, by decide, by decide, Or.inl rfl⟩, Or.inl rfl, fun z hz => by cases hz⟩
  · simp [Value.cells] at hcs
    obtain ⟨rfl, rfl, rfl⟩ := hcs
    have hz' : zs.length = cap0 := by simpa using hz
    have hlen : (zs.take len0).length = len0 := by simp; omega
    have hbd : ∀ z ∈ zs.take len0, -9223372036854775808 ≤ z ∧ z ≤ 9223372036854775807 := fun z hz => by
      have := hwz z (List.mem_of_mem_take hz)
      simpa [Lit.wf, IntKind.min, IntKind.max, IntKind.signed, IntKind.bits] using this
    by_cases h0 : len0 = 0
    · subst h0
      exact ⟨[], fun _ => ⟨some x, cap0, rfl, by simp, by decide, Or.inl rfl⟩, Or.inl rfl, fun z hz => by cases hz⟩
    · obtain ⟨b, off, rfl, hc⟩ := ints_at hcell (by omega)
      refine ⟨zs.take len0, fun h62 => ⟨some ⟨b, off, none⟩, cap0, by rw [hlen], by omega, h62, Or.inr ⟨b, off, rfl, fun j hj => ?_⟩⟩, Or.inr ⟨_, _, congrArg Prod.fst hx, by simp [lits]⟩, hbd⟩
      rw [hlen] at hj
      have h1 := hc j (by omega)
      rw [h1]
      have hj' : j < zs.length := by omega
      simp [hj, hj']
theorem open_len {H : Type} {d : DataW H} {l : List Int} (hd : l = [] ∨ ∃ elems spare, d = .slice elems spare ∧ elems.length = l.length) (hb : Rows.uptoBulk d ≤ 1048576) : l.length < 4611686018427387904 := by
  rcases hd with rfl | ⟨elems, spare, e, he⟩
  · simp
  · rw [e] at hb
    simp only [Rows.uptoBulk] at hb
    have := bulk_length elems
    omega
end Go.Proofs.YtgcecejamcnkiaaDoor

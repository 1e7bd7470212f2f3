/- The walk of Plant.Rot. The walk of Plant.Shape. The plant's own Rot where it refuses; Rot, Tick and Clone of a live plant. -/
import Derived.Test.YthgidfoidbgnaaaDoorE06
namespace Go.Proofs.YthgidfoidbgnaaaDoor
open Go.RowKit Go.Maps

end Go.Proofs.YthgidfoidbgnaaaDoor

namespace Go.Proofs.YthgidfoidbgnaaaDoor
open Go.RowKit Go.Maps

theorem run_oneInt (w : World) (x : Int) : (Instr.buildSlice 31 1 #[(0, .int .i64 x)]).run Tryd.prog w = .ok (.slice (some ⟨w.heap.size, 0, none⟩) 1 1) (w.alloc (.cells #[.int .i64 x] 3)) := by kernel_rfl
def sized (b : Bool) (sh : List (Bool × Nat)) : List Value := (sh.filter fun x => x.1 == b).map fun x => Value.int .i64 (x.2 : Nat)
theorem sized_snoc (b : Bool) (sh : List (Bool × Nat)) (x : Bool × Nat) : sized b (sh ++ [x]) = if x.1 = b then sized b sh ++ [Value.int .i64 (x.2 : Nat)] else sized b sh := by
 unfold sized
 rw [List.filter_append, List.map_append]
 by_cases h : x.1 = b
 ·simp [h]
 ·simp [h]
def ShapeIn (W : World) (sb C : Nat) (sh : List (Bool × Nat)) : Prop :=
 ∃ vd vt, Row W sb 84 [vd, vt] ∧ W.ownsRow C 3 1 vd (sized false sh).length (sized false sh) ∧ W.ownsRow C 3 1 vt (sized true sh).length (sized true sh) ∧ ∀ b, vd.ownBlock = some b → vt.ownBlock ≠ some b
theorem info3 : (Tryd.prog.info? 3).map (fun i => (i.zero, i.size, i.bytes)) = some (some (.int .i64 0), 1, 8) := by kernel_rfl
theorem und22 : Tryd.prog.underlying 31 = some (.slice 3) := Tryd.underlying31
theorem size22 : (Tryd.prog.info? 31).map (·.size) = some 1 := by kernel_rfl
theorem one22 : OneT 31 := fun w g o v h => by simp [loadVar, isAgg, run_underlying Tryd.underlying31, h]
theorem f24_0 : FieldAt 84 0 0 := fun w g off => by kernel_rfl
theorem f24_1 : FieldAt 84 1 1 := fun w g off => by kernel_rfl
theorem f76_1 : FieldAt 106 1 1 := fun w g off => by kernel_rfl
theorem zero24 : (Tryd.prog.info? 84).map (·.zero) = some (some (.agg ([.slice none 0 0, .slice none 0 0] : List Value).toArray)) := by kernel_rfl
theorem slice_of_own {w : World} {base e size n : Nat} {v : Value} {xs : List Value} (h : w.ownsRow base e size v n xs) : v.cells = #[v] ∧ v.oneCell' = true := by
 obtain ⟨_, h⟩ := h
 rcases h with ⟨rfl, _⟩ | ⟨_, _, _, rfl, _⟩
 ·exact ⟨rfl, rfl⟩
 ·exact ⟨rfl, rfl⟩
theorem own_kept {w w' : World} {base e size n : Nat} {v : Value} {xs : List Value} (h : w.ownsRow base e size v n xs) (hb : ∀ b, v.ownBlock = some b → w'.heap[b]? = w.heap[b]?) : w'.ownsRow base e size v n xs := by
 obtain ⟨hl, h⟩ := h
 refine ⟨hl, ?_⟩
 rcases h with ⟨rfl, h⟩ | ⟨g, cap, cur, rfl, h0, hg, h⟩
 ·exact Or.inl ⟨rfl, h⟩
 ·exact Or.inr ⟨g, cap, cur, rfl, h0, (hb g rfl).trans hg, h⟩
/-- one slice has grown, the other has not -/
theorem two_rows {W W6 W7 : World} {sb C n m m' : Nat} {vo va v7 : Value} {xo xa xa' : List Value} (hsb : sb < C) (ho : W.ownsRow C 3 1 vo n xo) (ha : W.ownsRow C 3 1 va m xa) (hdis : ∀ b, vo.ownBlock = some b → va.ownBlock ≠ some b)
  (h6 : Below W.heap.size W W6) (o7 : W7.ownsRow C 3 1 v7 m' xa') (g7 : W6.grownBy W7 va.ownBlock) (l7 : v7.ownBlock = va.ownBlock ∨ v7.ownBlock = some W6.heap.size) (ys : Array Value) :
  (W7.setRow sb ys).ownsRow C 3 1 vo n xo ∧ (W7.setRow sb ys).ownsRow C 3 1 v7 m' xa' ∧ (∀ b, vo.ownBlock = some b → v7.ownBlock ≠ some b) ∧ ∀ cs, Row W sb 84 cs → Row W7 sb 84 cs := by
 refine ⟨own_kept ho fun b hb => ?_, own_kept o7 fun b hb => ?_, fun b hb e => ?_, fun cs hr => ?_⟩
 ·have hlt := (ho.lt b hb).2
  have hc := (ho.lt b hb).1
  rw [Go.setRow_other W7 sb b _ (by omega), g7.block b (Nat.lt_of_lt_of_le hlt h6.size) (fun e => hdis b hb e.symm), h6.block b hlt]
 ·have hc := (o7.lt b hb).1
  exact Go.setRow_other W7 sb b _ (by omega)
 ·have hlt := (ho.lt b hb).2
  rcases l7 with l | l
  ·exact hdis b hb (l ▸ e)
  ·rw [l] at e
   cases e
   have := h6.size
   omega
 ·show W7.heap[sb]? = _
  rw [g7.block sb (Nat.lt_of_lt_of_le hr.lt h6.size) (fun e => by have := (ha.lt sb e.symm).1; omega), h6.block sb hr.lt]
  exact hr
theorem run_fieldOp' {w : World} {a : Act} {o : Oper} {T i k : Nat} (hf : FieldAt T i k) (x : Operand) (ho : o.op = .fieldAddr T x i) (g off : Nat) (hx : a.eval x = .pointer (some ⟨g, off, none⟩)) : (execOp a.eval o).run Tryd.prog w = .ok (.value (.pointer (some ⟨g, off + k, none⟩))) w := by
 simp [execOp, ho, hx, hf w g off]
section
variable {ops : Array Oper} {Q : Exit → Act → World → Prop} {a : Act} {w : World}
theorem run_oneIntOp {o : Oper} (x : Operand) (ho : o.op = .buildSlice 31 1 #[(0, x)]) (n : Int) (hx : a.eval x = .int .i64 n) : (execOp a.eval o).run Tryd.prog w = .ok (.value (.slice (some ⟨w.heap.size, 0, none⟩) 1 1)) (w.alloc (.cells #[.int .i64 n] 3)) := by
 simp [execOp, ho, hx, run_oneInt]
end

set_option maxHeartbeats 2000000 in
set_option maxRecDepth 100000 in
theorem shape_any {w : World} {c : Nat → Colour} {t g db cap : Nat} {gs : Nat → Nat} {m : Pl} (h : PlantAt w c t g db cap gs m) (hwf : m.WF) :
  Calls Tryd.prog 33 #[ptr g] w fun e w' => ∃ vd vt, e = .returned (.agg #[vd, vt]) ∧ w'.ownsRow w.heap.size 3 1 vd (sized false m.sh).length (sized false m.sh) ∧ w'.ownsRow w.heap.size 3 1 vt (sized true m.sh).length (sized true m.sh) ∧ Below w.heap.size w w' := by
 obtain ⟨B, hB⟩ : ∃ B, B = w.heap.size := ⟨_, rfl⟩
 obtain ⟨N, hN⟩ : ∃ N, N = m.n := ⟨_, rfl⟩
 rw [← hB]
 have HB : Hid (B = w.heap.size) := hB
 have HN : Hid (N = m.n) := hN
 have hN12 : N ≤ 12 := by rw [hN]; exact hwf.few
 have HP : Hid (PlantAt w c t g db cap gs m) := h
 have HG : Hid (w.cell? ⟨g, 0, none⟩ = some (.slice (some ⟨db, 0, none⟩) N cap)) := by rw [hN]; exact h.c0
 clear h hwf hB hN
 go_enter Tryd.func33, Tryd.ntmps33
 go_upto_region 0 with fail
 refine wp_region_lit ?_
 refine wpList_alloc' _ zero24 rfl rfl ?_
 intro w1 r1 s1 b1
 refine wpList_nil ?_
 simp only [Act.put, aS, aC, aZ]
 go_upto_region 1 with fail
 refine wp_region_lit ?_
 refine wpList_alloc' _ zero24 rfl rfl ?_
 intro w2 r2 s2 b2
 refine wpList_nil ?_
 simp only [Act.put, aS, aC, aZ]
 rw [← HB.out] at r1 s1 b1 ⊢
 rw [s1] at r2 s2 b2 ⊢
 have HR1 : Hid (Row w2 B 84 [.slice none 0 0, .slice none 0 0]) := r1.later b2 (by omega)
 have HI : Hid (ShapeIn w2 (B + 1) (B + 2) (m.sh.take 0)) := ⟨_, _, r2, ⟨rfl, Or.inl ⟨rfl, rfl⟩⟩, ⟨rfl, Or.inl ⟨rfl, rfl⟩⟩, fun b hb => by cases hb⟩
 have HB2 : Hid (Below B w w2 ∧ B + 2 ≤ w2.heap.size) := ⟨b1.trans (b2.mono (by omega)), by omega⟩
 have c0 : w2.cell? ⟨g, 0, none⟩ = some (.slice (some ⟨db, 0, none⟩) N cap) := cell_later (by rw [← HB.out]; exact HB2.out.1) HG.out
 clear r1 s1 b1 r2 s2 b2
 go_wp2
 go_loopw [11] (fun ix W => ∃ n : Nat, n ≤ N ∧ ix = .int .i64 n ∧ ShapeIn W (B + 1) (B + 2) (m.sh.take n) ∧ Row W B 84 [.slice none 0 0, .slice none 0 0] ∧ Below B w W ∧ B + 2 ≤ W.heap.size) (fun ix _ => N - (intOf ix).toNat)
 case atStart => exact ⟨0, Nat.zero_le _, rfl, HI.out, HR1.out, HB2.out⟩
 case round =>
  obtain ⟨n, hn, rfl, hin, hrB, hbw, hsz⟩ := hrel
  clear HI HR1 HB2 c0
  have HIN : Hid (ShapeIn wr (B + 1) (B + 2) (m.sh.take n) ∧ Row wr B 84 [.slice none 0 0, .slice none 0 0] ∧ Below B w wr ∧ B + 2 ≤ wr.heap.size) := ⟨hin, hrB, hbw, hsz⟩
  by_cases hlt : n < N
  ·have hnm : n < m.n := by rw [← HN.out]; exact hlt
   have cn : wr.cell? ⟨db, n, none⟩ = some (ptr (gs n)) := cell_later (by rw [← HB.out]; exact hbw) (HP.out.cell n hnm)
   obtain ⟨gd, hgd⟩ : ∃ gd, gd = gs n := ⟨_, rfl⟩
   obtain ⟨z, hz⟩ : ∃ z, z = m.size n := ⟨_, rfl⟩
   obtain ⟨tp, htp⟩ : ∃ tp, tp = m.tape n := ⟨_, rfl⟩
   obtain ⟨bm, bl, vv, hdr, _⟩ := HP.out.dev n hnm
   rw [← hgd, ← hz, ← htp] at hdr
   rw [← hgd] at cn
   have HDR : Hid (∀ W, Below B w W → Row W gd 106 [.bool tp, .int .i64 (z : Nat), .map (some bm), vv, .map (some bl)]) := fun W hb => hdr.later (B := B) hb (by rw [HB.out]; exact hdr.lt)
   have HSH : Hid (m.sh.take (n + 1) = m.sh.take n ++ [(tp, z)]) := by
    have hn' : n < m.sh.length := hnm
    rw [List.take_succ_eq_append_getElem hn']
    congr 2
    rw [htp, hz]
    unfold Pl.tape Pl.size
    simp [hn']
   have d0 : wr.cell? ⟨gd, 0, none⟩ = some (.bool tp) := (HDR.out wr hbw).at 0 _ rfl
   clear hdr hgd hz htp hin hrB hbw hsz
   cases tp with
   | true =>
    go_upto_region 6 with fail
    obtain ⟨vd, vt, hr, hod, hot, hdis⟩ := HIN.out.1
    have hdr := HDR.out wr HIN.out.2.2.1
    have c1 : (wr.drewN 1).cell? ⟨B + 1, 0 + 1, none⟩ = some vt := hr.at 1 _ rfl
    have c2 : (wr.drewN 1).cell? ⟨gd, 0 + 1, none⟩ = some (.int .i64 (z : Nat)) := hdr.at 1 _ rfl
    refine wp_region_any (by kernel_rfl) ?_
    show wpAny _ _ _ _ 10 (Array.replicate 10 false) _ (wr.drewN 1)
    refine takeA (i := 0) (some 19) rfl rfl (by kernel_rfl) (by kernel_rfl) (by kernel_rfl) (fun _ _ _ h => h) (yField f24_1 rfl (.tmp 3) rfl (B + 1) 0 rfl) ?_
    simp only [Act.put, aS, aC, aZ]
    refine takeA (i := 2) (some 21) rfl rfl (by kernel_rfl) (by kernel_rfl) (by kernel_rfl) (fun _ _ _ h => h) (yMove rfl (.tmp 5) rfl (ptr gd) rfl) ?_
    simp only [Act.put, aS, aC, aZ]
    refine takeA (i := 3) (some 22) rfl rfl (by kernel_rfl) (by kernel_rfl) (by kernel_rfl) (fun _ _ _ h => h) (yNil rfl (.tmp 21) rfl _ rfl) ?_
    simp only [Act.put, aS, aC, aZ]
    refine takeA (i := 4) (some 23) rfl rfl (by kernel_rfl) (by kernel_rfl) (by kernel_rfl) (fun _ _ _ h => h) (yField f76_1 rfl (.tmp 22) rfl gd 0 rfl) ?_
    simp only [Act.put, aS, aC, aZ]
    refine anyThree (i := 1) (j := 5) (k := 6) 20 24 25 rfl rfl rfl (by decide) (by decide) (by decide) (by decide) (by kernel_rfl) (by kernel_rfl) (by kernel_rfl) (by kernel_rfl) (by kernel_rfl)
     vt (fun u W' => u = .int .i64 (z : Nat) ∧ W' = wr.drewN 1) (fun _ s W'' => s = .slice (some ⟨wr.heap.size, 0, none⟩) 1 1 ∧ W'' = (wr.drewN 1).alloc (.cells #[.int .i64 (z : Nat)] 3)) ?_ ?_ ?_ ?_ ?_ ?_ ?_ ?_
    ·exact run_load1 one22 (.tmp 19) rfl (B + 1) (0 + 1) rfl _ c1
    ·rintro u W' ⟨rfl, rfl⟩
     exact run_load1 one22 (.tmp 19) rfl (B + 1) (0 + 1) rfl _ c1
    ·rintro u W' s W'' _ ⟨rfl, rfl⟩
     exact run_load1 one22 (.tmp 19) rfl (B + 1) (0 + 1) rfl _ (cell_later ((Below.refl _ (wr.drewN 1)).alloc (Nat.le_refl _) _) c1)
    ·intro R hR
     exact opValue (some 24) rfl rfl rfl _ _ (run_load1 one3 (.tmp 23) rfl gd (0 + 1) rfl _ c2) (hR _ _ ⟨rfl, rfl⟩)
    ·intro R hR
     exact opValue (some 24) rfl rfl rfl _ _ (run_load1 one3 (.tmp 23) rfl gd (0 + 1) rfl _ c2) (hR _ _ ⟨rfl, rfl⟩)
    ·rintro u W' ⟨rfl, rfl⟩ R hR
     exact opValue (some 25) rfl rfl rfl _ _ (run_oneIntOp (.tmp 24) rfl (z : Nat) rfl) (hR _ _ ⟨rfl, rfl⟩)
    ·rintro u W' ⟨rfl, rfl⟩ R hR
     exact opValue (some 25) rfl rfl rfl _ _ (run_oneIntOp (.tmp 24) rfl (z : Nat) rfl) (hR _ _ ⟨rfl, rfl⟩)
    rintro u W0 s w6 ⟨rfl, _⟩ ⟨rfl, hw6⟩
    simp only [Act.put, aS, aC, aZ]
    refine anySeqD 7 (by kernel_rfl) rfl ?_
    simp only [List.drop_succ_cons, List.drop_zero]
    have b6 : Below wr.heap.size wr w6 := by rw [hw6]; exact (Below.drewN (Below.refl _ wr) 1).alloc (Nat.le_refl _) _
    have r6 : Row w6 wr.heap.size 3 [.int .i64 (z : Nat)] := by rw [hw6]; exact Row.new (wr.drewN 1) 3 [.int .i64 (z : Nat)]
    have hle : (sized true (m.sh.take n)).length ≤ 1000 := by
     have h1 : (sized true (m.sh.take n)).length ≤ (m.sh.take n).length := by unfold sized; rw [List.length_map]; exact List.length_filter_le _ _
     have h2 : (m.sh.take n).length ≤ n := List.length_take_le _ _
     omega
    obtain ⟨i0, hi0, hz0, hz1, hz2⟩ := info_parts info3
    refine wpList_append_own_at _ rfl (.tmp 20) (.tmp 25) 31 rfl (B + 2) 3 i0 _ 1 8 und22 hi0 hz0 hz1 hz2 rfl (by decide) vt _ _ rfl (ownsRow_below hot b6) ⟨wr.heap.size, 0, none⟩ 1 1 [.int .i64 (z : Nat)] rfl rfl (fun j u hu => by rw [add_none, Nat.zero_add]; exact r6.at j u hu) (by intro z hz; obtain rfl := List.mem_singleton.1 hz; rfl) (by unfold maxLen; omega) (by omega) (by have := HIN.out.2.2.2; have := b6.size; omega) ?_
    intro v7 w7 o7 g7 _ l7
    simp only [Act.put, aS, aC, aZ]
    obtain ⟨h1, h2, h3, h4⟩ := two_rows (sb := B + 1) (by omega) hod hot hdis b6 o7 g7 l7 ([vd, v7] : List Value).toArray
    have hr7 := h4 _ hr
    have hv7 := slice_of_own o7
    have blt : ∀ b, b < B + 1 → w7.heap[b]? = wr.heap[b]? := fun b hb => by
     have := HIN.out.2.2.2
     have := b6.size
     rw [g7.block b (by omega) (fun e => by have := (hot.lt b e.symm).1; omega), b6.block b (by omega)]
    refine wpList_field f24_1 (.tmp 3) rfl rfl (B + 1) 0 rfl ?_
    simp only [Act.put, aS, aC, aZ]
    refine wpList_store1 size22 (.tmp 27) (.tmp 26) rfl rfl rfl (B + 1) (0 + 1) 84 rfl v7 _ rfl hv7.1 hv7.2 hr7 (by simp) ?_
    refine wpList_nil ?_
    obtain ⟨w8, hw8⟩ : ∃ w8, w8 = w7.setRow (B + 1) ([vd, v7] : List Value).toArray := ⟨_, rfl⟩
    have e8 : w7.setRow (B + 1) (([vd, vt] : List Value).set (0 + 1) v7).toArray = w8 := by rw [hw8]; rfl
    rw [e8]
    have H8 : Hid (ShapeIn w8 (B + 1) (B + 2) (m.sh.take (n + 1)) ∧ Row w8 B 84 [.slice none 0 0, .slice none 0 0] ∧ Below B w w8 ∧ B + 2 ≤ w8.heap.size) := by
     have hsz : w8.heap.size = w7.heap.size := by rw [hw8]; simp [World.setRow]
     have hs7 := g7.size
     have hs6 := b6.size
     have hs0 := HIN.out.2.2.2
     refine ⟨?_, ?_, ?_, by omega⟩
     ·rw [HSH.out, hw8]
      refine ⟨vd, v7, hr7.setRow _, ?_, ?_, h3⟩
      ·rw [sized_snoc, if_neg (by simp)]; exact h1
      ·rw [sized_snoc, if_pos rfl, List.length_append]; exact h2
     ·show w8.heap[B]? = _
      rw [hw8, Go.setRow_other w7 (B + 1) B _ (by omega), blt B (by omega)]
      exact HIN.out.2.1
     ·refine HIN.out.2.2.1.trans ⟨by rw [hw8]; exact g7.os.trans b6.os, by rw [hw8]; exact g7.tape.trans b6.tape, by rw [hw8]; exact g7.output.trans b6.output, by omega, fun b hb => ?_⟩
      rw [hw8, Go.setRow_other w7 (B + 1) b _ (by omega)]
      exact blt b (by omega)
    clear e8 hw8 h1 h2 h3 h4 hr7 hv7 blt o7 g7 l7 b6 r6 hr hod hot hdis hdr c1 c2 hw6
    go_wp2
    exact ⟨⟨n + 1, by omega, by go_num, H8.out⟩, by simp [intOf]; omega⟩
   | false =>
    go_upto_region 7 with fail
    obtain ⟨vd, vt, hr, hod, hot, hdis⟩ := HIN.out.1
    have hdr := HDR.out wr HIN.out.2.2.1
    have c1 : (wr.drewN 1).cell? ⟨B + 1, 0 + 0, none⟩ = some vd := hr.at 0 _ rfl
    have c2 : (wr.drewN 1).cell? ⟨gd, 0 + 1, none⟩ = some (.int .i64 (z : Nat)) := hdr.at 1 _ rfl
    refine wp_region_any (by kernel_rfl) ?_
    show wpAny _ _ _ _ 10 (Array.replicate 10 false) _ (wr.drewN 1)
    refine takeA (i := 0) (some 28) rfl rfl (by kernel_rfl) (by kernel_rfl) (by kernel_rfl) (fun _ _ _ h => h) (yField f24_0 rfl (.tmp 3) rfl (B + 1) 0 rfl) ?_
    simp only [Act.put, aS, aC, aZ]
    refine takeA (i := 2) (some 30) rfl rfl (by kernel_rfl) (by kernel_rfl) (by kernel_rfl) (fun _ _ _ h => h) (yMove rfl (.tmp 5) rfl (ptr gd) rfl) ?_
    simp only [Act.put, aS, aC, aZ]
    refine takeA (i := 3) (some 31) rfl rfl (by kernel_rfl) (by kernel_rfl) (by kernel_rfl) (fun _ _ _ h => h) (yNil rfl (.tmp 30) rfl _ rfl) ?_
    simp only [Act.put, aS, aC, aZ]
    refine takeA (i := 4) (some 32) rfl rfl (by kernel_rfl) (by kernel_rfl) (by kernel_rfl) (fun _ _ _ h => h) (yField f76_1 rfl (.tmp 31) rfl gd 0 rfl) ?_
    simp only [Act.put, aS, aC, aZ]
    refine anyThree (i := 1) (j := 5) (k := 6) 29 33 34 rfl rfl rfl (by decide) (by decide) (by decide) (by decide) (by kernel_rfl) (by kernel_rfl) (by kernel_rfl) (by kernel_rfl) (by kernel_rfl)
     vd (fun u W' => u = .int .i64 (z : Nat) ∧ W' = wr.drewN 1) (fun _ s W'' => s = .slice (some ⟨wr.heap.size, 0, none⟩) 1 1 ∧ W'' = (wr.drewN 1).alloc (.cells #[.int .i64 (z : Nat)] 3)) ?_ ?_ ?_ ?_ ?_ ?_ ?_ ?_
    ·exact run_load1 one22 (.tmp 28) rfl (B + 1) (0 + 0) rfl _ c1
    ·rintro u W' ⟨rfl, rfl⟩
     exact run_load1 one22 (.tmp 28) rfl (B + 1) (0 + 0) rfl _ c1
    ·rintro u W' s W'' _ ⟨rfl, rfl⟩
     exact run_load1 one22 (.tmp 28) rfl (B + 1) (0 + 0) rfl _ (cell_later ((Below.refl _ (wr.drewN 1)).alloc (Nat.le_refl _) _) c1)
    ·intro R hR
     exact opValue (some 33) rfl rfl rfl _ _ (run_load1 one3 (.tmp 32) rfl gd (0 + 1) rfl _ c2) (hR _ _ ⟨rfl, rfl⟩)
    ·intro R hR
     exact opValue (some 33) rfl rfl rfl _ _ (run_load1 one3 (.tmp 32) rfl gd (0 + 1) rfl _ c2) (hR _ _ ⟨rfl, rfl⟩)
    ·rintro u W' ⟨rfl, rfl⟩ R hR
     exact opValue (some 34) rfl rfl rfl _ _ (run_oneIntOp (.tmp 33) rfl (z : Nat) rfl) (hR _ _ ⟨rfl, rfl⟩)
    ·rintro u W' ⟨rfl, rfl⟩ R hR
     exact opValue (some 34) rfl rfl rfl _ _ (run_oneIntOp (.tmp 33) rfl (z : Nat) rfl) (hR _ _ ⟨rfl, rfl⟩)
    rintro u W0 s w6 ⟨rfl, _⟩ ⟨rfl, hw6⟩
    simp only [Act.put, aS, aC, aZ]
    refine anySeqD 7 (by kernel_rfl) rfl ?_
    simp only [List.drop_succ_cons, List.drop_zero]
    have b6 : Below wr.heap.size wr w6 := by rw [hw6]; exact (Below.drewN (Below.refl _ wr) 1).alloc (Nat.le_refl _) _
    have r6 : Row w6 wr.heap.size 3 [.int .i64 (z : Nat)] := by rw [hw6]; exact Row.new (wr.drewN 1) 3 [.int .i64 (z : Nat)]
    have hle : (sized false (m.sh.take n)).length ≤ 1000 := by
     have h1 : (sized false (m.sh.take n)).length ≤ (m.sh.take n).length := by unfold sized; rw [List.length_map]; exact List.length_filter_le _ _
     have h2 : (m.sh.take n).length ≤ n := List.length_take_le _ _
     omega
    obtain ⟨i0, hi0, hz0, hz1, hz2⟩ := info_parts info3
    refine wpList_append_own_at _ rfl (.tmp 29) (.tmp 34) 31 rfl (B + 2) 3 i0 _ 1 8 und22 hi0 hz0 hz1 hz2 rfl (by decide) vd _ _ rfl (ownsRow_below hod b6) ⟨wr.heap.size, 0, none⟩ 1 1 [.int .i64 (z : Nat)] rfl rfl (fun j u hu => by rw [add_none, Nat.zero_add]; exact r6.at j u hu) (by intro z hz; obtain rfl := List.mem_singleton.1 hz; rfl) (by unfold maxLen; omega) (by omega) (by have := HIN.out.2.2.2; have := b6.size; omega) ?_
    intro v7 w7 o7 g7 _ l7
    simp only [Act.put, aS, aC, aZ]
    obtain ⟨h1, h2, h3, h4⟩ := two_rows (sb := B + 1) (by omega) hot hod (fun b hb e => hdis b e hb) b6 o7 g7 l7 ([v7, vt] : List Value).toArray
    have hr7 := h4 _ hr
    have hv7 := slice_of_own o7
    have blt : ∀ b, b < B + 1 → w7.heap[b]? = wr.heap[b]? := fun b hb => by
     have := HIN.out.2.2.2
     have := b6.size
     rw [g7.block b (by omega) (fun e => by have := (hod.lt b e.symm).1; omega), b6.block b (by omega)]
    refine wpList_field f24_0 (.tmp 3) rfl rfl (B + 1) 0 rfl ?_
    simp only [Act.put, aS, aC, aZ]
    refine wpList_store1 size22 (.tmp 36) (.tmp 35) rfl rfl rfl (B + 1) (0 + 0) 84 rfl v7 _ rfl hv7.1 hv7.2 hr7 (by simp) ?_
    refine wpList_nil ?_
    obtain ⟨w8, hw8⟩ : ∃ w8, w8 = w7.setRow (B + 1) ([v7, vt] : List Value).toArray := ⟨_, rfl⟩
    have e8 : w7.setRow (B + 1) (([vd, vt] : List Value).set (0 + 0) v7).toArray = w8 := by rw [hw8]; rfl
    rw [e8]
    have H8 : Hid (ShapeIn w8 (B + 1) (B + 2) (m.sh.take (n + 1)) ∧ Row w8 B 84 [.slice none 0 0, .slice none 0 0] ∧ Below B w w8 ∧ B + 2 ≤ w8.heap.size) := by
     have hsz : w8.heap.size = w7.heap.size := by rw [hw8]; simp [World.setRow]
     have hs7 := g7.size
     have hs6 := b6.size
     have hs0 := HIN.out.2.2.2
     refine ⟨?_, ?_, ?_, by omega⟩
     ·rw [HSH.out, hw8]
      refine ⟨v7, vt, hr7.setRow _, ?_, ?_, fun b hb e => h3 b e hb⟩
      ·rw [sized_snoc, if_pos rfl, List.length_append]; exact h2
      ·rw [sized_snoc, if_neg (by simp)]; exact h1
     ·show w8.heap[B]? = _
      rw [hw8, Go.setRow_other w7 (B + 1) B _ (by omega), blt B (by omega)]
      exact HIN.out.2.1
     ·refine HIN.out.2.2.1.trans ⟨by rw [hw8]; exact g7.os.trans b6.os, by rw [hw8]; exact g7.tape.trans b6.tape, by rw [hw8]; exact g7.output.trans b6.output, by omega, fun b hb => ?_⟩
      rw [hw8, Go.setRow_other w7 (B + 1) b _ (by omega)]
      exact blt b (by omega)
    clear e8 hw8 h1 h2 h3 h4 hr7 hv7 blt o7 g7 l7 b6 r6 hr hod hot hdis hdr c1 c2 hw6
    go_wp2
    exact ⟨⟨n + 1, by omega, by go_num, H8.out⟩, by simp [intOf]; omega⟩
  ·have e : n = N := by omega
   subst e
   clear hin hrB hbw hsz
   obtain ⟨vd, vt, hr, hod, hot, _⟩ := HIN.out.1
   have hB0 := HIN.out.2.1
   go_upto_region 9 with fail
   refine wp_region_lit ?_
   refine wpList_load agg24 (.tmp 3) rfl rfl (B + 1) 0 rfl [vd, vt] rfl (fun j u hu => by rw [Nat.zero_add]; exact hr.at j u hu) ?_
   simp only [Act.put, aS, aC, aZ]
   refine wpList_store0 agg24 (.tmp 2) (.tmp 38) rfl rfl rfl B 0 84 rfl [vd, vt] _ rfl rfl hB0 (by simp) ?one ?_
   case one =>
    intro u hu
    simp only [List.mem_cons, List.not_mem_nil, or_false] at hu
    rcases hu with rfl | rfl
    ·exact (slice_of_own hod).2
    ·exact (slice_of_own hot).2
   refine wpList_nil ?_
   rw [splice_all ([.slice none 0 0, .slice none 0 0] : List Value) [vd, vt] rfl]
   obtain ⟨w9, hw9⟩ : ∃ w9, w9 = wr.setRow B ([vd, vt] : List Value).toArray := ⟨_, rfl⟩
   rw [← hw9]
   have r9 : Row w9 B 84 [vd, vt] := by rw [hw9]; exact hB0.setRow _
   have hk9 : ∀ b, b ≠ B → w9.heap[b]? = wr.heap[b]? := fun b hb => by rw [hw9]; exact Go.setRow_other wr B b _ hb
   have hsh : m.sh.take n = m.sh := by rw [HN.out]; exact List.take_length
   rw [hsh] at hod hot
   have lower : ∀ {v : Value} {k : Nat} {xs : List Value}, wr.ownsRow (B + 2) 3 1 v k xs → w9.ownsRow B 3 1 v k xs := fun {v k xs} h => by
    have h' := own_kept (w' := w9) h fun b hb => hk9 b (by have := (h.lt b hb).1; omega)
    obtain ⟨hl, h'⟩ := h'
    refine ⟨hl, ?_⟩
    rcases h' with h' | ⟨g', cap', cur', e1, e2, e3⟩
    ·exact Or.inl h'
    ·exact Or.inr ⟨g', cap', cur', e1, by omega, e3⟩
   have H9 : Hid (w9.ownsRow B 3 1 vd (sized false m.sh).length (sized false m.sh) ∧ w9.ownsRow B 3 1 vt (sized true m.sh).length (sized true m.sh) ∧ Below B w w9) := ⟨lower hod, lower hot, HIN.out.2.2.1.trans ⟨by rw [hw9]; rfl, by rw [hw9]; rfl, by rw [hw9]; rfl, by rw [hw9]; simp [World.setRow], fun b hb => hk9 b (by omega)⟩⟩
   clear lower hod hot hr hB0 hk9 hw9 hsh
   go_wp2
   exact bodyPost_ret (results_cell agg24 Tryd.results33 _ _ B 84 rfl _ rfl r9) rfl ⟨vd, vt, rfl, H9.out⟩
end Go.Proofs.YthgidfoidbgnaaaDoor

namespace Go.Proofs.YthgidfoidbgnaaaDoor
open Go.RowKit Go.Maps

end Go.Proofs.YthgidfoidbgnaaaDoor

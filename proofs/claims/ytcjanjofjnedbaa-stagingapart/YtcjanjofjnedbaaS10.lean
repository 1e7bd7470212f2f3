/- Layer 13: the law on two sessions. -/
import Derived.Test.YtcjanjofjnedbaaS9
namespace Go.Proofs.Ytcjanjofjnedbaa
open Go.RowKit Go.Maps Go.MapKept

theorem sl41 : Try.prog.underlying 41 = some (.slice (Try.prog.elem 41)) := by kernel_rfl
theorem und41 : Try.prog.underlying 41 = some (.slice 28) := by kernel_rfl
theorem sz28 : (Try.prog.info? 28).map (·.size) = some 1 := by kernel_rfl
theorem run_lenR {w0 w : World} {a : Act} {o : Oper} {v : Value} {L : List (List Nat)} (hin : RowsIn w0 v L) (x : Operand) (ho : o.op = .call { callee := .builtin .len, args := #[x], argTypes := #[41] }) (hx : a.eval x = v) : (execOp a.eval o).run Try.prog w = .ok (.value (.int .i64 (L.length : Nat))) w := by
  obtain ⟨p, cap, rfl, _⟩ := hin
  exact run_lenZ sl41 x ho p L.length cap hx
theorem cell_lt {w : World} {b i : Nat} {v : Value} (h : w.cell? ⟨b, i, none⟩ = some v) : b < w.heap.size := by
  unfold World.cell? at h
  cases hw : w.heap[b]? with
  | none => rw [hw] at h; cases h
  | some o => exact (Array.getElem?_eq_some_iff.1 hw).1
theorem cell_bel {w W : World} {b i : Nat} {v : Value} (h : w.cell? ⟨b, i, none⟩ = some v) (hb : Below w.heap.size w W) : W.cell? ⟨b, i, none⟩ = some v := by
  have hl := cell_lt h
  unfold World.cell? at *
  rw [hb.block b hl]
  exact h
theorem ix_row {w : World} {v : Value} {L : List (List Nat)} (hin : RowsIn w v L) (k : Nat) (hk : k < L.length) : ∃ b j u, (∀ w', (Instr.indexAt 41 v (.int .i64 (k : Nat))).run Try.prog w' = .ok (.pointer (some ⟨b, j, none⟩)) w') ∧ ∀ W, Below w.heap.size w W → W.cell? ⟨b, j, none⟩ = some u ∧ SliceIn W u (L.getD k []) := by
  obtain ⟨i3, hi3, hsz⟩ := Option.map_eq_some_iff.1 sz28
  obtain ⟨p, cap, rfl, hl, h⟩ := hin
  rcases h with rfl | ⟨b, off, rfl, hc⟩
  · simp at hk
  · obtain ⟨u, h1, h2⟩ := hc k hk
    exact ⟨b, off + k, u, fun w' => by simp [Instr.indexAt, asIntOf, run_underlying und41, hk, sizeOf, typeInfo, hi3, hsz, add_none], fun W hW => ⟨cell_bel h1 hW, SliceIn.later hW h2⟩⟩
/-- what the law holds: two sessions, and the two rows that they are held against -/
structure AI (w W : World) (g : Nat) (F : Nat → Prop) (vw vo : Value) (sx sy cw co : List Nat) : Prop where
  sw : SW w W F g 2 [(0, sx), (1, sy)]
  ow : BOwn W 0 vw cw
  oo : BOwn W 0 vo co
  fw : ∀ k, vw.ownBlock = some k → ¬ F k ∧ w.heap.size ≤ k
  fo : ∀ k, vo.ownBlock = some k → ¬ F k ∧ w.heap.size ≤ k
  ap : ∀ k, vw.ownBlock = some k → vo.ownBlock ≠ some k
  bw : ∀ c ∈ cw, c < 256
  bo : ∀ c ∈ co, c < 256
section
variable {w W W' : World} {g : Nat} {F F' : Nat → Prop} {vw vo : Value} {sx sy cw co : List Nat}
theorem AI.five (h : AI w W g F vw vo sx sy cw co) : sx.length ≤ 512 ∧ sy.length ≤ 512 := by
  obtain ⟨l, hl, hs⟩ := h.sw.st
  have h1 : ∀ n b, (n, b) ∈ ssOf l → b.length ≤ 512 := fun n b hb => by
    obtain ⟨x, hx, e⟩ := List.mem_map.1 hb
    injection e with e1 e2
    rw [← e2]
    exact (hl.own x hx).2.2.2
  rw [hs] at h1
  exact ⟨h1 0 sx (by simp), h1 1 sy (by simp)⟩
theorem keepO {v : Value} {cs : List Nat} (h : BOwn W 0 v cs) (hf : ∀ k, v.ownBlock = some k → ¬ F k ∧ w.heap.size ≤ k) (t : Tn F F' W W') : BOwn W' 0 v cs ∧ ∀ k, v.ownBlock = some k → ¬ F' k ∧ w.heap.size ≤ k :=
  ⟨ownK h fun k e => t.ch.block k (h.lt k e).2 (hf k e).1, fun k e => ⟨fun h2 => (t.ext k h2).elim (hf k e).1 fun h3 => by have := (h.lt k e).2; omega, (hf k e).2⟩⟩
theorem AI.turn {sx' sy' : List Nat} (h : AI w W g F vw vo sx sy cw co) (t : Tn F F' W W') (hs : SW w W' F' g 2 [(0, sx'), (1, sy')]) : AI w W' g F' vw vo sx' sy' cw co :=
  ⟨hs, (keepO h.ow h.fw t).1, (keepO h.oo h.fo t).1, (keepO h.ow h.fw t).2, (keepO h.oo h.fo t).2, h.ap, h.bw, h.bo⟩
theorem AI.growW {v' : Value} {r : List Nat} (h : AI w W g F vw vo sx sy cw co) (hg : W.grownBy W' vw.ownBlock) (ho : BOwn W' 0 v' (cw ++ r)) (hat : v'.ownBlock = vw.ownBlock ∨ v'.ownBlock = some W.heap.size) (hr : ∀ c ∈ r, c < 256) : AI w W' g F v' vo sx sy (cw ++ r) co := by
  have hs := h.sw.bel.size
  refine ⟨h.sw.ch (S := fun k => vw.ownBlock = some k) ⟨hg.os, hg.tape, hg.output, hg.size, fun k hk hn => hg.block k hk fun e => hn e.symm⟩ h.fw, ho, ownK h.oo fun k e => hg.block k (h.oo.lt k e).2 fun e2 => h.ap k e2.symm e, fun k e => ?_, h.fo, fun k e e2 => ?_, fun c hc => (List.mem_append.1 hc).elim (h.bw c) (hr c), h.bo⟩
  · rcases hat with h1 | h1
    · exact h.fw k (by rw [← h1]; exact e)
    · rw [h1] at e
      injection e with e
      subst e
      exact ⟨fun hf => by have := h.sw.low _ hf; omega, hs⟩
  · rcases hat with h1 | h1
    · exact h.ap k (by rw [← h1]; exact e) e2
    · rw [h1] at e
      injection e with e
      have := (h.oo.lt k e2).2
      omega
theorem AI.growO {v' : Value} {r : List Nat} (h : AI w W g F vw vo sx sy cw co) (hg : W.grownBy W' vo.ownBlock) (ho : BOwn W' 0 v' (co ++ r)) (hat : v'.ownBlock = vo.ownBlock ∨ v'.ownBlock = some W.heap.size) (hr : ∀ c ∈ r, c < 256) : AI w W' g F vw v' sx sy cw (co ++ r) := by
  have hs := h.sw.bel.size
  refine ⟨h.sw.ch (S := fun k => vo.ownBlock = some k) ⟨hg.os, hg.tape, hg.output, hg.size, fun k hk hn => hg.block k hk fun e => hn e.symm⟩ h.fo, ownK h.ow fun k e => hg.block k (h.ow.lt k e).2 fun e2 => h.ap k e e2.symm, ho, h.fw, fun k e => ?_, fun k e e2 => ?_, h.bw, fun c hc => (List.mem_append.1 hc).elim (h.bo c) (hr c)⟩
  · rcases hat with h1 | h1
    · exact h.fo k (by rw [← h1]; exact e)
    · rw [h1] at e
      injection e with e
      subst e
      exact ⟨fun hf => by have := h.sw.low _ hf; omega, hs⟩
  · rcases hat with h1 | h1
    · exact h.ap k e (by rw [← h1]; exact e2)
    · rw [h1] at e2
      injection e2 with e2
      have := (h.ow.lt k e).2
      omega
end
theorem add_x (sx sy r : List Nat) (h2 : sy.length ≤ 512) : addP [(0, sx), (1, sy)] 0 r = if sx.length + r.length ≤ 512 then (0, [(0, sx ++ r), (1, sy)]) else (5, [(0, sx), (1, sy)]) := by
  unfold addP
  rw [show findS [(0, sx), (1, sy)] 0 = some (0, sx) from rfl]
  dsimp only
  by_cases h5 : sx.length + r.length ≤ 512
  · rw [if_neg (by omega), if_neg (by simp [totS]; omega), if_pos h5]
    rfl
  · rw [if_pos (by omega), if_neg h5]
theorem add_y (sx sy r : List Nat) (h : sx.length ≤ 512) : addP [(0, sx), (1, sy)] 1 r = if sy.length + r.length ≤ 512 then (0, [(0, sx), (1, sy ++ r)]) else (5, [(0, sx), (1, sy)]) := by
  unfold addP
  rw [show findS [(0, sx), (1, sy)] 1 = some (1, sy) from rfl]
  dsimp only
  by_cases h5 : sy.length + r.length ≤ 512
  · rw [if_neg (by omega), if_neg (by simp [totS]; omega), if_pos h5]
    rfl
  · rw [if_pos (by omega), if_neg h5]
set_option maxHeartbeats 32000000 in
set_option maxRecDepth 100000 in
theorem apart_any (w : World) (va vb : Value) (LA LB : List (List Nat)) (ha : RowsIn w va LA) (hb : RowsIn w vb LB) (hla : LA.length ≤ 140737488355328) (hlb : LB.length ≤ 140737488355328) (hra : ∀ i : Nat, (LA.getD i []).length ≤ 140737488355328) (hrb : ∀ i : Nat, (LB.getD i []).length ≤ 140737488355328) : Calls Try.prog 4 #[va, vb] w fun e w' => e = .returned (.bool true) ∧ Below w.heap.size w w' := by
  have HRA : Hid (RowsIn w va LA) := ha
  have HRB : Hid (RowsIn w vb LB) := hb
  have HLA : Hid (∀ i : Nat, (LA.getD i []).length ≤ 140737488355328) := hra
  have HLB : Hid (∀ i : Nat, (LB.getD i []).length ≤ 140737488355328) := hrb
  obtain ⟨PQ, hPQ⟩ : ∃ PQ : Ending → World → Prop, PQ = fun (e : Ending) (w' : World) => e = .returned (.bool true) ∧ Below w.heap.size w w' := ⟨_, rfl⟩
  have HPQ : Hid (PQ = fun (e : Ending) (w' : World) => e = .returned (.bool true) ∧ Below w.heap.size w w') := hPQ
  rw [← hPQ]
  clear hPQ ha hb hra hrb
  go_enter Try.func4, Try.ntmps4
  go_upto_region 0 with fail
  refine wp_region_lit ?_
  refine wl rfl (.bool false) _ (run_asZ (.const (.bool false)) rfl (.bool false) rfl) ?_
  simp only [Act.put, List.setIfInBounds_toArray, List.set_cons_succ, List.set_cons_zero]
  refine wpList_nil ?_
  go_upto_region 1 with fail
  refine wp_region_lit ?_
  refine wpList_callW eN6 [] _ rfl rfl [] rfl ?_
  refine (shown_any w).mono ?_
  rintro e w1 ⟨rfl, b1⟩
  refine ⟨_, rfl, ?_⟩
  have B1 : Hid (Below w.heap.size w w1) := b1
  clear b1
  simp only [Act.put, List.setIfInBounds_toArray, List.set_cons_succ, List.set_cons_zero]
  refine wl rfl (.bool true) _ (run_asZ (.tmp 20) rfl (.bool true) rfl) ?_
  simp only [Act.put, List.setIfInBounds_toArray, List.set_cons_succ, List.set_cons_zero]
  refine wpList_nil ?_
  go_upto_region 2 with fail
  refine wp_region_lit ?_
  refine wpList_callW eN7 [] _ rfl rfl [] rfl ?_
  refine (SW.new w w1 B1.out).mono ?_
  rintro e w2 ⟨g, F2, rfl, s2, _, _⟩
  refine ⟨_, rfl, ?_⟩
  have S2 : Hid (SW w w2 F2 g 0 []) := s2
  clear s2 B1
  simp only [Act.put, List.setIfInBounds_toArray, List.set_cons_succ, List.set_cons_zero]
  refine wl rfl (ptr g) _ (run_asZ (.tmp 21) rfl (ptr g) rfl) ?_
  simp only [Act.put, List.setIfInBounds_toArray, List.set_cons_succ, List.set_cons_zero]
  refine wpList_nil ?_
  go_upto_region 3 with fail
  refine wp_region_lit ?_
  refine wl rfl (.bool true) _ (run_mvZ (.tmp 5) rfl (.bool true) rfl) ?_
  simp only [Act.put, List.setIfInBounds_toArray, List.set_cons_succ, List.set_cons_zero]
  refine wl rfl (.bool false) _ (run_not (.tmp 22) 4 rfl true rfl) ?_
  simp only [Act.put, List.setIfInBounds_toArray, List.set_cons_succ, List.set_cons_zero]
  refine wl rfl (.bool false) _ (run_mvZ (.tmp 23) rfl (.bool false) rfl) ?_
  simp only [Act.put, List.setIfInBounds_toArray, List.set_cons_succ, List.set_cons_zero]
  refine wl (by kernel_rfl) (ptr g) _ (run_mvZ (.tmp 6) rfl (ptr g) rfl) ?_
  simp only [Act.put, List.setIfInBounds_toArray, List.set_cons_succ, List.set_cons_zero]
  refine wl (by kernel_rfl) (.bool false) _ (run_binOp' (.tmp 25) (.const (.pointer none)) rfl _ _ _ rfl rfl rfl (by kernel_rfl)) ?_
  simp only [Act.put, List.setIfInBounds_toArray, List.set_cons_succ, List.set_cons_zero]
  refine wl rfl (.bool false) _ (run_pickZ (.tmp 24) (.const (.bool true)) (.tmp 26) rfl false (.bool false) rfl rfl) ?_
  simp only [Act.put, List.setIfInBounds_toArray, List.set_cons_succ, List.set_cons_zero]
  refine wpList_nil ?_
  go_upto_region 5 with fail
  refine wp_region_lit ?_
  refine wl rfl (ptr g) _ (run_mvZ (.tmp 6) rfl (ptr g) rfl) ?_
  simp only [Act.put, List.setIfInBounds_toArray, List.set_cons_succ, List.set_cons_zero]
  refine wpList_callW eN10 [.tmp 29] _ rfl rfl [(ptr g)] rfl ?_
  refine (SW.begin S2.out (by decide)).mono ?_
  rintro e w3 ⟨F3, rfl, s3, _⟩
  refine ⟨_, rfl, ?_⟩
  have S3 : Hid (SW w w3 F3 g 1 [(0, [])]) := s3
  clear s3 S2
  simp only [Act.put, List.setIfInBounds_toArray, List.set_cons_succ, List.set_cons_zero]
  refine wl rfl (.tuple #[(.int .i64 0), (.int .i64 0)]) _ (run_mvZ (.tmp 30) rfl (.tuple #[(.int .i64 0), (.int .i64 0)]) rfl) ?_
  simp only [Act.put, List.setIfInBounds_toArray, List.set_cons_succ, List.set_cons_zero]
  refine wl rfl (.int .i64 0) _ (run_extZ (.tmp 28) 0 rfl #[(.int .i64 0), (.int .i64 0)] rfl (.int .i64 0) rfl) ?_
  simp only [Act.put, List.setIfInBounds_toArray, List.set_cons_succ, List.set_cons_zero]
  refine wl rfl (.int .i64 0) _ (run_extZ (.tmp 28) 1 rfl #[(.int .i64 0), (.int .i64 0)] rfl (.int .i64 0) rfl) ?_
  simp only [Act.put, List.setIfInBounds_toArray, List.set_cons_succ, List.set_cons_zero]
  refine wl rfl (.int .i64 0) _ (run_asZ (.tmp 31) rfl (.int .i64 0) rfl) ?_
  simp only [Act.put, List.setIfInBounds_toArray, List.set_cons_succ, List.set_cons_zero]
  refine wl rfl (.int .i64 0) _ (run_asZ (.tmp 32) rfl (.int .i64 0) rfl) ?_
  simp only [Act.put, List.setIfInBounds_toArray, List.set_cons_succ, List.set_cons_zero]
  refine wpList_nil ?_
  go_upto_region 6 with fail
  refine wp_region_lit ?_
  refine wl rfl (ptr g) _ (run_mvZ (.tmp 6) rfl (ptr g) rfl) ?_
  simp only [Act.put, List.setIfInBounds_toArray, List.set_cons_succ, List.set_cons_zero]
  refine wpList_callW eN10 [.tmp 34] _ rfl rfl [(ptr g)] rfl ?_
  refine (SW.begin S3.out (by decide)).mono ?_
  rintro e w4 ⟨F4, rfl, s4, _⟩
  refine ⟨_, rfl, ?_⟩
  have S4 : Hid (SW w w4 F4 g 2 [(0, []), (1, [])]) := s4
  clear s4 S3
  simp only [Act.put, List.setIfInBounds_toArray, List.set_cons_succ, List.set_cons_zero]
  refine wl rfl (.tuple #[(.int .i64 1), (.int .i64 0)]) _ (run_mvZ (.tmp 35) rfl (.tuple #[(.int .i64 1), (.int .i64 0)]) rfl) ?_
  simp only [Act.put, List.setIfInBounds_toArray, List.set_cons_succ, List.set_cons_zero]
  refine wl rfl (.int .i64 1) _ (run_extZ (.tmp 33) 0 rfl #[(.int .i64 1), (.int .i64 0)] rfl (.int .i64 1) rfl) ?_
  simp only [Act.put, List.setIfInBounds_toArray, List.set_cons_succ, List.set_cons_zero]
  refine wl rfl (.int .i64 0) _ (run_extZ (.tmp 33) 1 rfl #[(.int .i64 1), (.int .i64 0)] rfl (.int .i64 0) rfl) ?_
  simp only [Act.put, List.setIfInBounds_toArray, List.set_cons_succ, List.set_cons_zero]
  refine wl rfl (.int .i64 1) _ (run_asZ (.tmp 36) rfl (.int .i64 1) rfl) ?_
  simp only [Act.put, List.setIfInBounds_toArray, List.set_cons_succ, List.set_cons_zero]
  refine wl rfl (.int .i64 0) _ (run_asZ (.tmp 37) rfl (.int .i64 0) rfl) ?_
  simp only [Act.put, List.setIfInBounds_toArray, List.set_cons_succ, List.set_cons_zero]
  refine wpList_nil ?_
  go_upto_region 7 with fail
  refine wp_region_lit ?_
  refine wl rfl (.int .i64 0) _ (run_mvZ (.tmp 8) rfl (.int .i64 0) rfl) ?_
  simp only [Act.put, List.setIfInBounds_toArray, List.set_cons_succ, List.set_cons_zero]
  refine wl rfl (.bool false) _ (run_neZ (.tmp 38) (.const (.int .i64 0)) rfl (0) (0) rfl rfl false rfl) ?_
  simp only [Act.put, List.setIfInBounds_toArray, List.set_cons_succ, List.set_cons_zero]
  refine wl rfl (.bool false) _ (run_mvZ (.tmp 39) rfl (.bool false) rfl) ?_
  simp only [Act.put, List.setIfInBounds_toArray, List.set_cons_succ, List.set_cons_zero]
  refine wl (by kernel_rfl) (.int .i64 0) _ (run_mvZ (.tmp 10) rfl (.int .i64 0) rfl) ?_
  simp only [Act.put, List.setIfInBounds_toArray, List.set_cons_succ, List.set_cons_zero]
  refine wl (by kernel_rfl) (.bool false) _ (run_neZ (.tmp 41) (.const (.int .i64 0)) rfl (0) (0) rfl rfl false rfl) ?_
  simp only [Act.put, List.setIfInBounds_toArray, List.set_cons_succ, List.set_cons_zero]
  refine wl rfl (.bool false) _ (run_pickZ (.tmp 40) (.const (.bool true)) (.tmp 42) rfl false (.bool false) rfl rfl) ?_
  simp only [Act.put, List.setIfInBounds_toArray, List.set_cons_succ, List.set_cons_zero]
  refine wl rfl (.bool false) _ (run_mvZ (.tmp 43) rfl (.bool false) rfl) ?_
  simp only [Act.put, List.setIfInBounds_toArray, List.set_cons_succ, List.set_cons_zero]
  refine wl (by kernel_rfl) (.int .i64 0) _ (run_mvZ (.tmp 7) rfl (.int .i64 0) rfl) ?_
  simp only [Act.put, List.setIfInBounds_toArray, List.set_cons_succ, List.set_cons_zero]
  refine wl (by kernel_rfl) (.int .i64 1) _ (run_mvZ (.tmp 9) rfl (.int .i64 1) rfl) ?_
  simp only [Act.put, List.setIfInBounds_toArray, List.set_cons_succ, List.set_cons_zero]
  refine wl (by kernel_rfl) (.bool false) _ (run_eqZ (.tmp 45) (.tmp 46) rfl (0) (1) rfl rfl false rfl) ?_
  simp only [Act.put, List.setIfInBounds_toArray, List.set_cons_succ, List.set_cons_zero]
  refine wl rfl (.bool false) _ (run_pickZ (.tmp 44) (.const (.bool true)) (.tmp 47) rfl false (.bool false) rfl rfl) ?_
  simp only [Act.put, List.setIfInBounds_toArray, List.set_cons_succ, List.set_cons_zero]
  refine wpList_nil ?_
  go_upto_region 9 with fail
  refine wp_region_lit ?_
  refine wl_blit0 rfl rfl ?_
  intro w5 r_ z_ b_
  have HZ5 : Hid (w5.heap.size = w4.heap.size + 1) := z_
  have HBw5 : Hid (BOwn w5 0 (whole w4.heap.size 0) [] ∧ Below w4.heap.size w4 w5) := ⟨whole_own (cs := []) r_ (Nat.zero_le _) (by decide), b_⟩
  obtain ⟨vw, hq_⟩ : ∃ q, q = whole w4.heap.size 0 := ⟨_, rfl⟩
  have HQw5 : Hid (vw.ownBlock = some w4.heap.size) := by show _ = _; rw [hq_]; rfl
  rw [← hq_] at HBw5
  rw [← hq_]
  clear hq_ r_ z_ b_
  simp only [Act.put, List.setIfInBounds_toArray, List.set_cons_succ, List.set_cons_zero]
  refine wl rfl vw _ (run_asZ (.tmp 49) rfl vw rfl) ?_
  simp only [Act.put, List.setIfInBounds_toArray, List.set_cons_succ, List.set_cons_zero]
  refine wpList_nil ?_
  go_upto_region 10 with fail
  refine wp_region_lit ?_
  refine wl_blit0 rfl rfl ?_
  intro w6 r_ z_ b_
  have HBw6 : Hid (BOwn w6 0 (whole w5.heap.size 0) [] ∧ Below w5.heap.size w5 w6) := ⟨whole_own (cs := []) r_ (Nat.zero_le _) (by decide), b_⟩
  obtain ⟨vo, hq_⟩ : ∃ q, q = whole w5.heap.size 0 := ⟨_, rfl⟩
  have HQw6 : Hid (vo.ownBlock = some w5.heap.size) := by show _ = _; rw [hq_]; rfl
  rw [← hq_] at HBw6
  rw [← hq_]
  clear hq_ r_ z_ b_
  simp only [Act.put, List.setIfInBounds_toArray, List.set_cons_succ, List.set_cons_zero]
  refine wl rfl vo _ (run_asZ (.tmp 50) rfl vo rfl) ?_
  simp only [Act.put, List.setIfInBounds_toArray, List.set_cons_succ, List.set_cons_zero]
  refine wpList_nil ?_
  have HA0 : Hid (AI w w6 g F4 vw vo [] [] [] []) := by
    have h1 := HBw5.out.2.size
    have h4 : w5.heap.size = w4.heap.size + 1 := HZ5.out
    have hs := S4.out.bel.size
    refine ⟨(S4.out.later HBw5.out.2).later HBw6.out.2, own_later HBw5.out.1 HBw6.out.2, HBw6.out.1, fun k e => ?_, fun k e => ?_, fun k e e2 => ?_, fun c h => (by cases h), fun c h => (by cases h)⟩
    · rw [HQw5.out] at e; injection e with e; rw [← e]; exact ⟨fun hf => Nat.lt_irrefl _ (S4.out.low _ hf), hs⟩
    · rw [HQw6.out] at e; injection e with e; rw [← e]; exact ⟨fun hf => by have := S4.out.low _ hf; omega, by omega⟩
    · rw [HQw5.out] at e; rw [HQw6.out] at e2; injection e with e; injection e2 with e2; omega
  clear HBw5 HBw6 HQw5 HQw6 HZ5 S4
  go_upto_region 11 with fail
  go_wp2_with fail
  go_loopw [11, 12, 13] (fun ww wo vi W => ∃ (i : Nat), vi = .int .i64 (i : Nat) ∧ (i ≤ LA.length ∨ i ≤ LB.length) ∧ ∃ F cw co, AI w W g F ww wo cw co cw co) (fun _ _ vi _ => LA.length + LB.length - (intOf vi).toNat)
  case atStart => exact ⟨0, rfl, Or.inl (Nat.zero_le _), F4, [], [], HA0.out⟩
  case round =>
    obtain ⟨i, rfl, hil, F, cw, co, hA⟩ := hrel
    have HA : Hid (AI w wr g F u11 u12 cw co cw co) := hA
    have H5 : Hid (cw.length ≤ 512 ∧ co.length ≤ 512) := hA.five
    clear hA HA0
    by_cases hlt : i < LA.length ∨ i < LB.length
    · by_cases hla : i < LA.length
      · go_upto_region 12 with fail
        refine wp_region_lit ?_
        refine wl rfl (.int .i64 (i : Nat)) _ (run_mvZ (.tmp 13) rfl (.int .i64 (i : Nat)) rfl) ?_
        simp only [Act.put, List.setIfInBounds_toArray, List.set_cons_succ, List.set_cons_zero]
        refine wl rfl va _ (run_mvZ (.tmp 0) rfl va rfl) ?_
        simp only [Act.put, List.setIfInBounds_toArray, List.set_cons_succ, List.set_cons_zero]
        refine wl rfl (.int .i64 (LA.length : Nat)) _ (run_lenR HRA.out (.tmp 52) rfl rfl) ?_
        simp only [Act.put, List.setIfInBounds_toArray, List.set_cons_succ, List.set_cons_zero]
        refine wl rfl (.bool true) _ (run_lssZ (.tmp 51) (.tmp 53) rfl (i : Nat) (LA.length : Nat) rfl rfl true (decide_eq_true (by omega))) ?_
        simp only [Act.put, List.setIfInBounds_toArray, List.set_cons_succ, List.set_cons_zero]
        refine wl rfl (.bool true) _ (run_mvZ (.tmp 54) rfl (.bool true) rfl) ?_
        simp only [Act.put, List.setIfInBounds_toArray, List.set_cons_succ, List.set_cons_zero]
        refine wpList_skip (by kernel_rfl) ?_
        simp only [Act.put, List.setIfInBounds_toArray, List.set_cons_succ, List.set_cons_zero]
        refine wpList_skip (by kernel_rfl) ?_
        simp only [Act.put, List.setIfInBounds_toArray, List.set_cons_succ, List.set_cons_zero]
        refine wpList_skip (by kernel_rfl) ?_
        simp only [Act.put, List.setIfInBounds_toArray, List.set_cons_succ, List.set_cons_zero]
        refine wpList_skip (by kernel_rfl) ?_
        simp only [Act.put, List.setIfInBounds_toArray, List.set_cons_succ, List.set_cons_zero]
        refine wl rfl (.bool true) _ (run_pickZ (.tmp 55) (.const (.bool true)) (.tmp 59) rfl true (.bool true) rfl rfl) ?_
        simp only [Act.put, List.setIfInBounds_toArray, List.set_cons_succ, List.set_cons_zero]
        refine wpList_nil ?_
        clear hla
        by_cases ha : i < LA.length
        · go_upto_region 14 with fail
          refine wp_region_lit ?_
          refine wl rfl (.int .i64 (i : Nat)) _ (run_mvZ (.tmp 13) rfl (.int .i64 (i : Nat)) rfl) ?_
          simp only [Act.put, List.setIfInBounds_toArray, List.set_cons_succ, List.set_cons_zero]
          refine wl rfl va _ (run_mvZ (.tmp 0) rfl va rfl) ?_
          simp only [Act.put, List.setIfInBounds_toArray, List.set_cons_succ, List.set_cons_zero]
          refine wl rfl (.int .i64 (LA.length : Nat)) _ (run_lenR HRA.out (.tmp 64) rfl rfl) ?_
          simp only [Act.put, List.setIfInBounds_toArray, List.set_cons_succ, List.set_cons_zero]
          refine wl rfl (.bool true) _ (run_lssZ (.tmp 63) (.tmp 65) rfl (i : Nat) (LA.length : Nat) rfl rfl true (decide_eq_true (by omega))) ?_
          simp only [Act.put, List.setIfInBounds_toArray, List.set_cons_succ, List.set_cons_zero]
          refine wpList_nil ?_
          obtain ⟨ba, ja, ra, hx1, hx2⟩ := ix_row HRA.out i ha
          obtain ⟨ca, hca⟩ : ∃ c, c = LA.getD i [] := ⟨_, rfl⟩
          rw [← hca] at hx2
          have HXa : Hid ((∀ w', (Instr.indexAt 41 va (.int .i64 (i : Nat))).run Try.prog w' = .ok (.pointer (some ⟨ba, ja, none⟩)) w') ∧ ∀ W, Below w.heap.size w W → W.cell? ⟨ba, ja, none⟩ = some ra ∧ SliceIn W ra ca) := ⟨hx1, hx2⟩
          have HLa : Hid (ca.length ≤ 140737488355328) := by show _ ≤ _; rw [hca]; exact HLA.out i
          have HCa : Hid (∀ c ∈ ca, c < 256) := (hx2 w (Below.refl _ w)).2.lt256
          clear hx1 hx2 hca
          by_cases hsa : cw.length + ca.length ≤ 512
          · go_upto_region 15 with fail
            refine wp_region_lit ?_
            refine wl rfl (ptr g) _ (run_mvZ (.tmp 6) rfl (ptr g) rfl) ?_
            simp only [Act.put, List.setIfInBounds_toArray, List.set_cons_succ, List.set_cons_zero]
            refine wl rfl (.int .i64 0) _ (run_mvZ (.tmp 7) rfl (.int .i64 0) rfl) ?_
            simp only [Act.put, List.setIfInBounds_toArray, List.set_cons_succ, List.set_cons_zero]
            refine wl rfl va _ (run_mvZ (.tmp 0) rfl va rfl) ?_
            simp only [Act.put, List.setIfInBounds_toArray, List.set_cons_succ, List.set_cons_zero]
            refine wl rfl (.int .i64 (i : Nat)) _ (run_mvZ (.tmp 13) rfl (.int .i64 (i : Nat)) rfl) ?_
            simp only [Act.put, List.setIfInBounds_toArray, List.set_cons_succ, List.set_cons_zero]
            refine wl rfl (.pointer (some ⟨ba, ja, none⟩)) _ (run_idx (.tmp 69) (.tmp 70) rfl va _ _ rfl rfl HXa.out.1) ?_
            simp only [Act.put, List.setIfInBounds_toArray, List.set_cons_succ, List.set_cons_zero]
            refine wl rfl ra _ (run_load1 o28 (.tmp 71) rfl ba ja rfl ra (HXa.out.2 _ HA.out.sw.bel).1) ?_
            simp only [Act.put, List.setIfInBounds_toArray, List.set_cons_succ, List.set_cons_zero]
            refine wpList_callW eN12 [.tmp 67, .tmp 68, .tmp 72] _ rfl rfl [(ptr g), (.int .i64 0), ra] rfl ?_
            refine (SW.add HA.out.sw (0 : Int) (Wf.of (by decide)) ra ca (HXa.out.2 _ HA.out.sw.bel).2).mono ?_
            rintro e wra ⟨Fa, rfl, s_, t_⟩
            refine ⟨_, rfl, ?_⟩
            have HEa : Hid (addP [(0, cw), (1, co)] (0 : Int) ca = (0, [(0, (cw ++ ca)), (1, co)])) := by
              show _ = _
              rw [add_x cw co ca HA.out.five.2, if_pos hsa]
            rw [HEa.out] at s_ ⊢
            have HAa : Hid (AI w wra g Fa u11 u12 (cw ++ ca) co cw co) := HA.out.turn t_ s_
            clear s_ t_ HEa
            simp only [Act.put, List.setIfInBounds_toArray, List.set_cons_succ, List.set_cons_zero]
            refine wl rfl (.int .i64 0) _ (run_asZ (.tmp 73) rfl (.int .i64 0) rfl) ?_
            simp only [Act.put, List.setIfInBounds_toArray, List.set_cons_succ, List.set_cons_zero]
            refine wpList_nil ?_
            go_upto_region 16 with fail
            refine wp_region_lit ?_
            refine wl rfl (.int .i64 0) _ (run_mvZ (.tmp 14) rfl (.int .i64 0) rfl) ?_
            simp only [Act.put, List.setIfInBounds_toArray, List.set_cons_succ, List.set_cons_zero]
            refine wl rfl (.bool true) _ (run_eqZ (.tmp 74) (.const (.int .i64 0)) rfl (0) (0) rfl rfl true rfl) ?_
            simp only [Act.put, List.setIfInBounds_toArray, List.set_cons_succ, List.set_cons_zero]
            refine wl rfl u11 _ (run_mvZ (.tmp 11) rfl u11 rfl) ?_
            simp only [Act.put, List.setIfInBounds_toArray, List.set_cons_succ, List.set_cons_zero]
            refine wl rfl (.int .i64 (cw.length : Nat)) _ (run_lenB (HAa.out.ow.slice HAa.out.bw (by have := H5.out; omega)) (.tmp 76) rfl rfl) ?_
            simp only [Act.put, List.setIfInBounds_toArray, List.set_cons_succ, List.set_cons_zero]
            refine wl rfl va _ (run_mvZ (.tmp 0) rfl va rfl) ?_
            simp only [Act.put, List.setIfInBounds_toArray, List.set_cons_succ, List.set_cons_zero]
            refine wl rfl (.int .i64 (i : Nat)) _ (run_mvZ (.tmp 13) rfl (.int .i64 (i : Nat)) rfl) ?_
            simp only [Act.put, List.setIfInBounds_toArray, List.set_cons_succ, List.set_cons_zero]
            refine wl rfl (.pointer (some ⟨ba, ja, none⟩)) _ (run_idx (.tmp 78) (.tmp 79) rfl va _ _ rfl rfl HXa.out.1) ?_
            simp only [Act.put, List.setIfInBounds_toArray, List.set_cons_succ, List.set_cons_zero]
            refine wl rfl ra _ (run_load1 o28 (.tmp 80) rfl ba ja rfl ra (HXa.out.2 _ HAa.out.sw.bel).1) ?_
            simp only [Act.put, List.setIfInBounds_toArray, List.set_cons_succ, List.set_cons_zero]
            refine wl rfl (.int .i64 (ca.length : Nat)) _ (run_lenB (HXa.out.2 _ HAa.out.sw.bel).2 (.tmp 81) rfl rfl) ?_
            simp only [Act.put, List.setIfInBounds_toArray, List.set_cons_succ, List.set_cons_zero]
            refine wl rfl (.int .i64 ((cw.length + ca.length : Nat) : Int)) _ (run_addI (.tmp 77) (.tmp 82) rfl (cw.length : Nat) (ca.length : Nat) ((cw.length + ca.length : Nat) : Int) (by omega) (by have := H5.out; have := HLa.out; omega) (by omega) rfl rfl) ?_
            simp only [Act.put, List.setIfInBounds_toArray, List.set_cons_succ, List.set_cons_zero]
            refine wl rfl (.bool true) _ (run_leqZ (.tmp 83) (.const (.int .i64 512)) rfl ((cw.length + ca.length : Nat) : Int) 512 rfl rfl true (decide_eq_true (by omega))) ?_
            simp only [Act.put, List.setIfInBounds_toArray, List.set_cons_succ, List.set_cons_zero]
            refine wl rfl (.bool false) _ (run_neB (.tmp 75) (.tmp 84) rfl true true rfl rfl false rfl) ?_
            simp only [Act.put, List.setIfInBounds_toArray, List.set_cons_succ, List.set_cons_zero]
            refine wpList_nil ?_
            go_upto_region 18 with fail
            refine wp_region_lit ?_
            refine wl rfl (.int .i64 0) _ (run_mvZ (.tmp 14) rfl (.int .i64 0) rfl) ?_
            simp only [Act.put, List.setIfInBounds_toArray, List.set_cons_succ, List.set_cons_zero]
            refine wl rfl (.bool true) _ (run_eqZ (.tmp 86) (.const (.int .i64 0)) rfl (0) (0) rfl rfl true rfl) ?_
            simp only [Act.put, List.setIfInBounds_toArray, List.set_cons_succ, List.set_cons_zero]
            refine wpList_nil ?_
            go_upto_region 19 with fail
            refine wp_region_lit ?_
            refine wl rfl u11 _ (run_mvZ (.tmp 11) rfl u11 rfl) ?_
            simp only [Act.put, List.setIfInBounds_toArray, List.set_cons_succ, List.set_cons_zero]
            refine wl rfl va _ (run_mvZ (.tmp 0) rfl va rfl) ?_
            simp only [Act.put, List.setIfInBounds_toArray, List.set_cons_succ, List.set_cons_zero]
            refine wl rfl (.int .i64 (i : Nat)) _ (run_mvZ (.tmp 13) rfl (.int .i64 (i : Nat)) rfl) ?_
            simp only [Act.put, List.setIfInBounds_toArray, List.set_cons_succ, List.set_cons_zero]
            refine wl rfl (.pointer (some ⟨ba, ja, none⟩)) _ (run_idx (.tmp 89) (.tmp 90) rfl va _ _ rfl rfl HXa.out.1) ?_
            simp only [Act.put, List.setIfInBounds_toArray, List.set_cons_succ, List.set_cons_zero]
            refine wl rfl ra _ (run_load1 o28 (.tmp 91) rfl ba ja rfl ra (HXa.out.2 _ HAa.out.sw.bel).1) ?_
            simp only [Act.put, List.setIfInBounds_toArray, List.set_cons_succ, List.set_cons_zero]
            obtain ⟨u11a, wrag, hr_, ho_, hg_, hat_⟩ := run_bappAt (Oper.type _) u11 ra cw ca HAa.out.ow (HXa.out.2 _ HAa.out.sw.bel).2 (by have := H5.out; have := HLa.out; omega)
            refine wl rfl u11a wrag (run_append (.tmp 88) (.tmp 92) rfl u11 ra u11a rfl rfl hr_) ?_
            have HAag : Hid (AI w wrag g Fa u11a u12 (cw ++ ca) co (cw ++ ca) co) := HAa.out.growW hg_ ho_ hat_ HCa.out
            clear hr_ ho_ hg_ hat_ HAa
            simp only [Act.put, List.setIfInBounds_toArray, List.set_cons_succ, List.set_cons_zero]
            refine wl rfl u11a _ (run_asZ (.tmp 93) rfl u11a rfl) ?_
            simp only [Act.put, List.setIfInBounds_toArray, List.set_cons_succ, List.set_cons_zero]
            refine wpList_nil ?_
            clear hsa
            by_cases hb : i < LB.length
            · go_upto_region 20 with fail
              refine wp_region_lit ?_
              refine wl rfl (.int .i64 (i : Nat)) _ (run_mvZ (.tmp 13) rfl (.int .i64 (i : Nat)) rfl) ?_
              simp only [Act.put, List.setIfInBounds_toArray, List.set_cons_succ, List.set_cons_zero]
              refine wl rfl vb _ (run_mvZ (.tmp 1) rfl vb rfl) ?_
              simp only [Act.put, List.setIfInBounds_toArray, List.set_cons_succ, List.set_cons_zero]
              refine wl rfl (.int .i64 (LB.length : Nat)) _ (run_lenR HRB.out (.tmp 95) rfl rfl) ?_
              simp only [Act.put, List.setIfInBounds_toArray, List.set_cons_succ, List.set_cons_zero]
              refine wl rfl (.bool true) _ (run_lssZ (.tmp 94) (.tmp 96) rfl (i : Nat) (LB.length : Nat) rfl rfl true (decide_eq_true (by omega))) ?_
              simp only [Act.put, List.setIfInBounds_toArray, List.set_cons_succ, List.set_cons_zero]
              refine wpList_nil ?_
              obtain ⟨bb, jb, rb, hx1, hx2⟩ := ix_row HRB.out i hb
              obtain ⟨cb, hcb⟩ : ∃ c, c = LB.getD i [] := ⟨_, rfl⟩
              rw [← hcb] at hx2
              have HXb : Hid ((∀ w', (Instr.indexAt 41 vb (.int .i64 (i : Nat))).run Try.prog w' = .ok (.pointer (some ⟨bb, jb, none⟩)) w') ∧ ∀ W, Below w.heap.size w W → W.cell? ⟨bb, jb, none⟩ = some rb ∧ SliceIn W rb cb) := ⟨hx1, hx2⟩
              have HLb : Hid (cb.length ≤ 140737488355328) := by show _ ≤ _; rw [hcb]; exact HLB.out i
              have HCb : Hid (∀ c ∈ cb, c < 256) := (hx2 w (Below.refl _ w)).2.lt256
              clear hx1 hx2 hcb
              by_cases hsb : co.length + cb.length ≤ 512
              · go_upto_region 21 with fail
                refine wp_region_lit ?_
                refine wl rfl (ptr g) _ (run_mvZ (.tmp 6) rfl (ptr g) rfl) ?_
                simp only [Act.put, List.setIfInBounds_toArray, List.set_cons_succ, List.set_cons_zero]
                refine wl rfl (.int .i64 1) _ (run_mvZ (.tmp 9) rfl (.int .i64 1) rfl) ?_
                simp only [Act.put, List.setIfInBounds_toArray, List.set_cons_succ, List.set_cons_zero]
                refine wl rfl vb _ (run_mvZ (.tmp 1) rfl vb rfl) ?_
                simp only [Act.put, List.setIfInBounds_toArray, List.set_cons_succ, List.set_cons_zero]
                refine wl rfl (.int .i64 (i : Nat)) _ (run_mvZ (.tmp 13) rfl (.int .i64 (i : Nat)) rfl) ?_
                simp only [Act.put, List.setIfInBounds_toArray, List.set_cons_succ, List.set_cons_zero]
                refine wl rfl (.pointer (some ⟨bb, jb, none⟩)) _ (run_idx (.tmp 100) (.tmp 101) rfl vb _ _ rfl rfl HXb.out.1) ?_
                simp only [Act.put, List.setIfInBounds_toArray, List.set_cons_succ, List.set_cons_zero]
                refine wl rfl rb _ (run_load1 o28 (.tmp 102) rfl bb jb rfl rb (HXb.out.2 _ HAag.out.sw.bel).1) ?_
                simp only [Act.put, List.setIfInBounds_toArray, List.set_cons_succ, List.set_cons_zero]
                refine wpList_callW eN12 [.tmp 98, .tmp 99, .tmp 103] _ rfl rfl [(ptr g), (.int .i64 1), rb] rfl ?_
                refine (SW.add HAag.out.sw (1 : Int) (Wf.of (by decide)) rb cb (HXb.out.2 _ HAag.out.sw.bel).2).mono ?_
                rintro e wragb ⟨Fab, rfl, s_, t_⟩
                refine ⟨_, rfl, ?_⟩
                have HEb : Hid (addP [(0, (cw ++ ca)), (1, co)] (1 : Int) cb = (0, [(0, (cw ++ ca)), (1, (co ++ cb))])) := by
                  show _ = _
                  rw [add_y (cw ++ ca) co cb HAag.out.five.1, if_pos hsb]
                rw [HEb.out] at s_ ⊢
                have HAagb : Hid (AI w wragb g Fab u11a u12 (cw ++ ca) (co ++ cb) (cw ++ ca) co) := HAag.out.turn t_ s_
                clear s_ t_ HEb
                simp only [Act.put, List.setIfInBounds_toArray, List.set_cons_succ, List.set_cons_zero]
                refine wl rfl (.int .i64 0) _ (run_asZ (.tmp 104) rfl (.int .i64 0) rfl) ?_
                simp only [Act.put, List.setIfInBounds_toArray, List.set_cons_succ, List.set_cons_zero]
                refine wpList_nil ?_
                go_upto_region 22 with fail
                refine wp_region_lit ?_
                refine wl rfl (.int .i64 0) _ (run_mvZ (.tmp 15) rfl (.int .i64 0) rfl) ?_
                simp only [Act.put, List.setIfInBounds_toArray, List.set_cons_succ, List.set_cons_zero]
                refine wl rfl (.bool true) _ (run_eqZ (.tmp 105) (.const (.int .i64 0)) rfl (0) (0) rfl rfl true rfl) ?_
                simp only [Act.put, List.setIfInBounds_toArray, List.set_cons_succ, List.set_cons_zero]
                refine wl rfl u12 _ (run_mvZ (.tmp 12) rfl u12 rfl) ?_
                simp only [Act.put, List.setIfInBounds_toArray, List.set_cons_succ, List.set_cons_zero]
                refine wl rfl (.int .i64 (co.length : Nat)) _ (run_lenB (HAagb.out.oo.slice HAagb.out.bo (by have := HAag.out.five; omega)) (.tmp 107) rfl rfl) ?_
                simp only [Act.put, List.setIfInBounds_toArray, List.set_cons_succ, List.set_cons_zero]
                refine wl rfl vb _ (run_mvZ (.tmp 1) rfl vb rfl) ?_
                simp only [Act.put, List.setIfInBounds_toArray, List.set_cons_succ, List.set_cons_zero]
                refine wl rfl (.int .i64 (i : Nat)) _ (run_mvZ (.tmp 13) rfl (.int .i64 (i : Nat)) rfl) ?_
                simp only [Act.put, List.setIfInBounds_toArray, List.set_cons_succ, List.set_cons_zero]
                refine wl rfl (.pointer (some ⟨bb, jb, none⟩)) _ (run_idx (.tmp 109) (.tmp 110) rfl vb _ _ rfl rfl HXb.out.1) ?_
                simp only [Act.put, List.setIfInBounds_toArray, List.set_cons_succ, List.set_cons_zero]
                refine wl rfl rb _ (run_load1 o28 (.tmp 111) rfl bb jb rfl rb (HXb.out.2 _ HAagb.out.sw.bel).1) ?_
                simp only [Act.put, List.setIfInBounds_toArray, List.set_cons_succ, List.set_cons_zero]
                refine wl rfl (.int .i64 (cb.length : Nat)) _ (run_lenB (HXb.out.2 _ HAagb.out.sw.bel).2 (.tmp 112) rfl rfl) ?_
                simp only [Act.put, List.setIfInBounds_toArray, List.set_cons_succ, List.set_cons_zero]
                refine wl rfl (.int .i64 ((co.length + cb.length : Nat) : Int)) _ (run_addI (.tmp 108) (.tmp 113) rfl (co.length : Nat) (cb.length : Nat) ((co.length + cb.length : Nat) : Int) (by omega) (by have := HAag.out.five; have := HLb.out; omega) (by omega) rfl rfl) ?_
                simp only [Act.put, List.setIfInBounds_toArray, List.set_cons_succ, List.set_cons_zero]
                refine wl rfl (.bool true) _ (run_leqZ (.tmp 114) (.const (.int .i64 512)) rfl ((co.length + cb.length : Nat) : Int) 512 rfl rfl true (decide_eq_true (by omega))) ?_
                simp only [Act.put, List.setIfInBounds_toArray, List.set_cons_succ, List.set_cons_zero]
                refine wl rfl (.bool false) _ (run_neB (.tmp 106) (.tmp 115) rfl true true rfl rfl false rfl) ?_
                simp only [Act.put, List.setIfInBounds_toArray, List.set_cons_succ, List.set_cons_zero]
                refine wpList_nil ?_
                go_upto_region 24 with fail
                refine wp_region_lit ?_
                refine wl rfl (.int .i64 0) _ (run_mvZ (.tmp 15) rfl (.int .i64 0) rfl) ?_
                simp only [Act.put, List.setIfInBounds_toArray, List.set_cons_succ, List.set_cons_zero]
                refine wl rfl (.bool true) _ (run_eqZ (.tmp 117) (.const (.int .i64 0)) rfl (0) (0) rfl rfl true rfl) ?_
                simp only [Act.put, List.setIfInBounds_toArray, List.set_cons_succ, List.set_cons_zero]
                refine wpList_nil ?_
                go_upto_region 25 with fail
                refine wp_region_lit ?_
                refine wl rfl u12 _ (run_mvZ (.tmp 12) rfl u12 rfl) ?_
                simp only [Act.put, List.setIfInBounds_toArray, List.set_cons_succ, List.set_cons_zero]
                refine wl rfl vb _ (run_mvZ (.tmp 1) rfl vb rfl) ?_
                simp only [Act.put, List.setIfInBounds_toArray, List.set_cons_succ, List.set_cons_zero]
                refine wl rfl (.int .i64 (i : Nat)) _ (run_mvZ (.tmp 13) rfl (.int .i64 (i : Nat)) rfl) ?_
                simp only [Act.put, List.setIfInBounds_toArray, List.set_cons_succ, List.set_cons_zero]
                refine wl rfl (.pointer (some ⟨bb, jb, none⟩)) _ (run_idx (.tmp 120) (.tmp 121) rfl vb _ _ rfl rfl HXb.out.1) ?_
                simp only [Act.put, List.setIfInBounds_toArray, List.set_cons_succ, List.set_cons_zero]
                refine wl rfl rb _ (run_load1 o28 (.tmp 122) rfl bb jb rfl rb (HXb.out.2 _ HAagb.out.sw.bel).1) ?_
                simp only [Act.put, List.setIfInBounds_toArray, List.set_cons_succ, List.set_cons_zero]
                obtain ⟨u12b, wragbg, hr_, ho_, hg_, hat_⟩ := run_bappAt (Oper.type _) u12 rb co cb HAagb.out.oo (HXb.out.2 _ HAagb.out.sw.bel).2 (by have := HAag.out.five; have := HLb.out; omega)
                refine wl rfl u12b wragbg (run_append (.tmp 119) (.tmp 123) rfl u12 rb u12b rfl rfl hr_) ?_
                have HAagbg : Hid (AI w wragbg g Fab u11a u12b (cw ++ ca) (co ++ cb) (cw ++ ca) (co ++ cb)) := HAagb.out.growO hg_ ho_ hat_ HCb.out
                clear hr_ ho_ hg_ hat_ HAagb
                simp only [Act.put, List.setIfInBounds_toArray, List.set_cons_succ, List.set_cons_zero]
                refine wl rfl u12b _ (run_asZ (.tmp 124) rfl u12b rfl) ?_
                simp only [Act.put, List.setIfInBounds_toArray, List.set_cons_succ, List.set_cons_zero]
                refine wpList_nil ?_
                clear hsb
                go_wp2_with fail
                refine ⟨⟨i + 1, by go_num, by omega, _, _, _, HAagbg.out⟩, ?_⟩
                simp [intOf]; omega
              · go_upto_region 21 with fail
                refine wp_region_lit ?_
                refine wl rfl (ptr g) _ (run_mvZ (.tmp 6) rfl (ptr g) rfl) ?_
                simp only [Act.put, List.setIfInBounds_toArray, List.set_cons_succ, List.set_cons_zero]
                refine wl rfl (.int .i64 1) _ (run_mvZ (.tmp 9) rfl (.int .i64 1) rfl) ?_
                simp only [Act.put, List.setIfInBounds_toArray, List.set_cons_succ, List.set_cons_zero]
                refine wl rfl vb _ (run_mvZ (.tmp 1) rfl vb rfl) ?_
                simp only [Act.put, List.setIfInBounds_toArray, List.set_cons_succ, List.set_cons_zero]
                refine wl rfl (.int .i64 (i : Nat)) _ (run_mvZ (.tmp 13) rfl (.int .i64 (i : Nat)) rfl) ?_
                simp only [Act.put, List.setIfInBounds_toArray, List.set_cons_succ, List.set_cons_zero]
                refine wl rfl (.pointer (some ⟨bb, jb, none⟩)) _ (run_idx (.tmp 100) (.tmp 101) rfl vb _ _ rfl rfl HXb.out.1) ?_
                simp only [Act.put, List.setIfInBounds_toArray, List.set_cons_succ, List.set_cons_zero]
                refine wl rfl rb _ (run_load1 o28 (.tmp 102) rfl bb jb rfl rb (HXb.out.2 _ HAag.out.sw.bel).1) ?_
                simp only [Act.put, List.setIfInBounds_toArray, List.set_cons_succ, List.set_cons_zero]
                refine wpList_callW eN12 [.tmp 98, .tmp 99, .tmp 103] _ rfl rfl [(ptr g), (.int .i64 1), rb] rfl ?_
                refine (SW.add HAag.out.sw (1 : Int) (Wf.of (by decide)) rb cb (HXb.out.2 _ HAag.out.sw.bel).2).mono ?_
                rintro e wragb ⟨Fab, rfl, s_, t_⟩
                refine ⟨_, rfl, ?_⟩
                have HEb : Hid (addP [(0, (cw ++ ca)), (1, co)] (1 : Int) cb = (5, [(0, (cw ++ ca)), (1, co)])) := by
                  show _ = _
                  rw [add_y (cw ++ ca) co cb HAag.out.five.1, if_neg hsb]
                rw [HEb.out] at s_ ⊢
                have HAagb : Hid (AI w wragb g Fab u11a u12 (cw ++ ca) co (cw ++ ca) co) := HAag.out.turn t_ s_
                clear s_ t_ HEb
                simp only [Act.put, List.setIfInBounds_toArray, List.set_cons_succ, List.set_cons_zero]
                refine wl rfl (.int .i64 5) _ (run_asZ (.tmp 104) rfl (.int .i64 5) rfl) ?_
                simp only [Act.put, List.setIfInBounds_toArray, List.set_cons_succ, List.set_cons_zero]
                refine wpList_nil ?_
                go_upto_region 22 with fail
                refine wp_region_lit ?_
                refine wl rfl (.int .i64 5) _ (run_mvZ (.tmp 15) rfl (.int .i64 5) rfl) ?_
                simp only [Act.put, List.setIfInBounds_toArray, List.set_cons_succ, List.set_cons_zero]
                refine wl rfl (.bool false) _ (run_eqZ (.tmp 105) (.const (.int .i64 0)) rfl (5) (0) rfl rfl false rfl) ?_
                simp only [Act.put, List.setIfInBounds_toArray, List.set_cons_succ, List.set_cons_zero]
                refine wl rfl u12 _ (run_mvZ (.tmp 12) rfl u12 rfl) ?_
                simp only [Act.put, List.setIfInBounds_toArray, List.set_cons_succ, List.set_cons_zero]
                refine wl rfl (.int .i64 (co.length : Nat)) _ (run_lenB (HAagb.out.oo.slice HAagb.out.bo (by have := HAag.out.five; omega)) (.tmp 107) rfl rfl) ?_
                simp only [Act.put, List.setIfInBounds_toArray, List.set_cons_succ, List.set_cons_zero]
                refine wl rfl vb _ (run_mvZ (.tmp 1) rfl vb rfl) ?_
                simp only [Act.put, List.setIfInBounds_toArray, List.set_cons_succ, List.set_cons_zero]
                refine wl rfl (.int .i64 (i : Nat)) _ (run_mvZ (.tmp 13) rfl (.int .i64 (i : Nat)) rfl) ?_
                simp only [Act.put, List.setIfInBounds_toArray, List.set_cons_succ, List.set_cons_zero]
                refine wl rfl (.pointer (some ⟨bb, jb, none⟩)) _ (run_idx (.tmp 109) (.tmp 110) rfl vb _ _ rfl rfl HXb.out.1) ?_
                simp only [Act.put, List.setIfInBounds_toArray, List.set_cons_succ, List.set_cons_zero]
                refine wl rfl rb _ (run_load1 o28 (.tmp 111) rfl bb jb rfl rb (HXb.out.2 _ HAagb.out.sw.bel).1) ?_
                simp only [Act.put, List.setIfInBounds_toArray, List.set_cons_succ, List.set_cons_zero]
                refine wl rfl (.int .i64 (cb.length : Nat)) _ (run_lenB (HXb.out.2 _ HAagb.out.sw.bel).2 (.tmp 112) rfl rfl) ?_
                simp only [Act.put, List.setIfInBounds_toArray, List.set_cons_succ, List.set_cons_zero]
                refine wl rfl (.int .i64 ((co.length + cb.length : Nat) : Int)) _ (run_addI (.tmp 108) (.tmp 113) rfl (co.length : Nat) (cb.length : Nat) ((co.length + cb.length : Nat) : Int) (by omega) (by have := HAag.out.five; have := HLb.out; omega) (by omega) rfl rfl) ?_
                simp only [Act.put, List.setIfInBounds_toArray, List.set_cons_succ, List.set_cons_zero]
                refine wl rfl (.bool false) _ (run_leqZ (.tmp 114) (.const (.int .i64 512)) rfl ((co.length + cb.length : Nat) : Int) 512 rfl rfl false (decide_eq_false (by omega))) ?_
                simp only [Act.put, List.setIfInBounds_toArray, List.set_cons_succ, List.set_cons_zero]
                refine wl rfl (.bool false) _ (run_neB (.tmp 106) (.tmp 115) rfl false false rfl rfl false rfl) ?_
                simp only [Act.put, List.setIfInBounds_toArray, List.set_cons_succ, List.set_cons_zero]
                refine wpList_nil ?_
                go_upto_region 24 with fail
                refine wp_region_lit ?_
                refine wl rfl (.int .i64 5) _ (run_mvZ (.tmp 15) rfl (.int .i64 5) rfl) ?_
                simp only [Act.put, List.setIfInBounds_toArray, List.set_cons_succ, List.set_cons_zero]
                refine wl rfl (.bool false) _ (run_eqZ (.tmp 117) (.const (.int .i64 0)) rfl (5) (0) rfl rfl false rfl) ?_
                simp only [Act.put, List.setIfInBounds_toArray, List.set_cons_succ, List.set_cons_zero]
                refine wpList_nil ?_
                clear hsb
                go_wp2_with fail
                refine ⟨⟨i + 1, by go_num, by omega, _, _, _, HAagb.out⟩, ?_⟩
                simp [intOf]; omega
            · go_upto_region 20 with fail
              refine wp_region_lit ?_
              refine wl rfl (.int .i64 (i : Nat)) _ (run_mvZ (.tmp 13) rfl (.int .i64 (i : Nat)) rfl) ?_
              simp only [Act.put, List.setIfInBounds_toArray, List.set_cons_succ, List.set_cons_zero]
              refine wl rfl vb _ (run_mvZ (.tmp 1) rfl vb rfl) ?_
              simp only [Act.put, List.setIfInBounds_toArray, List.set_cons_succ, List.set_cons_zero]
              refine wl rfl (.int .i64 (LB.length : Nat)) _ (run_lenR HRB.out (.tmp 95) rfl rfl) ?_
              simp only [Act.put, List.setIfInBounds_toArray, List.set_cons_succ, List.set_cons_zero]
              refine wl rfl (.bool false) _ (run_lssZ (.tmp 94) (.tmp 96) rfl (i : Nat) (LB.length : Nat) rfl rfl false (decide_eq_false (by omega))) ?_
              simp only [Act.put, List.setIfInBounds_toArray, List.set_cons_succ, List.set_cons_zero]
              refine wpList_nil ?_
              go_wp2_with fail
              refine ⟨⟨i + 1, by go_num, by omega, _, _, _, HAag.out⟩, ?_⟩
              simp [intOf]; omega
          · go_upto_region 15 with fail
            refine wp_region_lit ?_
            refine wl rfl (ptr g) _ (run_mvZ (.tmp 6) rfl (ptr g) rfl) ?_
            simp only [Act.put, List.setIfInBounds_toArray, List.set_cons_succ, List.set_cons_zero]
            refine wl rfl (.int .i64 0) _ (run_mvZ (.tmp 7) rfl (.int .i64 0) rfl) ?_
            simp only [Act.put, List.setIfInBounds_toArray, List.set_cons_succ, List.set_cons_zero]
            refine wl rfl va _ (run_mvZ (.tmp 0) rfl va rfl) ?_
            simp only [Act.put, List.setIfInBounds_toArray, List.set_cons_succ, List.set_cons_zero]
            refine wl rfl (.int .i64 (i : Nat)) _ (run_mvZ (.tmp 13) rfl (.int .i64 (i : Nat)) rfl) ?_
            simp only [Act.put, List.setIfInBounds_toArray, List.set_cons_succ, List.set_cons_zero]
            refine wl rfl (.pointer (some ⟨ba, ja, none⟩)) _ (run_idx (.tmp 69) (.tmp 70) rfl va _ _ rfl rfl HXa.out.1) ?_
            simp only [Act.put, List.setIfInBounds_toArray, List.set_cons_succ, List.set_cons_zero]
            refine wl rfl ra _ (run_load1 o28 (.tmp 71) rfl ba ja rfl ra (HXa.out.2 _ HA.out.sw.bel).1) ?_
            simp only [Act.put, List.setIfInBounds_toArray, List.set_cons_succ, List.set_cons_zero]
            refine wpList_callW eN12 [.tmp 67, .tmp 68, .tmp 72] _ rfl rfl [(ptr g), (.int .i64 0), ra] rfl ?_
            refine (SW.add HA.out.sw (0 : Int) (Wf.of (by decide)) ra ca (HXa.out.2 _ HA.out.sw.bel).2).mono ?_
            rintro e wra ⟨Fa, rfl, s_, t_⟩
            refine ⟨_, rfl, ?_⟩
            have HEa : Hid (addP [(0, cw), (1, co)] (0 : Int) ca = (5, [(0, cw), (1, co)])) := by
              show _ = _
              rw [add_x cw co ca HA.out.five.2, if_neg hsa]
            rw [HEa.out] at s_ ⊢
            have HAa : Hid (AI w wra g Fa u11 u12 cw co cw co) := HA.out.turn t_ s_
            clear s_ t_ HEa
            simp only [Act.put, List.setIfInBounds_toArray, List.set_cons_succ, List.set_cons_zero]
            refine wl rfl (.int .i64 5) _ (run_asZ (.tmp 73) rfl (.int .i64 5) rfl) ?_
            simp only [Act.put, List.setIfInBounds_toArray, List.set_cons_succ, List.set_cons_zero]
            refine wpList_nil ?_
            go_upto_region 16 with fail
            refine wp_region_lit ?_
            refine wl rfl (.int .i64 5) _ (run_mvZ (.tmp 14) rfl (.int .i64 5) rfl) ?_
            simp only [Act.put, List.setIfInBounds_toArray, List.set_cons_succ, List.set_cons_zero]
            refine wl rfl (.bool false) _ (run_eqZ (.tmp 74) (.const (.int .i64 0)) rfl (5) (0) rfl rfl false rfl) ?_
            simp only [Act.put, List.setIfInBounds_toArray, List.set_cons_succ, List.set_cons_zero]
            refine wl rfl u11 _ (run_mvZ (.tmp 11) rfl u11 rfl) ?_
            simp only [Act.put, List.setIfInBounds_toArray, List.set_cons_succ, List.set_cons_zero]
            refine wl rfl (.int .i64 (cw.length : Nat)) _ (run_lenB (HAa.out.ow.slice HAa.out.bw (by have := H5.out; omega)) (.tmp 76) rfl rfl) ?_
            simp only [Act.put, List.setIfInBounds_toArray, List.set_cons_succ, List.set_cons_zero]
            refine wl rfl va _ (run_mvZ (.tmp 0) rfl va rfl) ?_
            simp only [Act.put, List.setIfInBounds_toArray, List.set_cons_succ, List.set_cons_zero]
            refine wl rfl (.int .i64 (i : Nat)) _ (run_mvZ (.tmp 13) rfl (.int .i64 (i : Nat)) rfl) ?_
            simp only [Act.put, List.setIfInBounds_toArray, List.set_cons_succ, List.set_cons_zero]
            refine wl rfl (.pointer (some ⟨ba, ja, none⟩)) _ (run_idx (.tmp 78) (.tmp 79) rfl va _ _ rfl rfl HXa.out.1) ?_
            simp only [Act.put, List.setIfInBounds_toArray, List.set_cons_succ, List.set_cons_zero]
            refine wl rfl ra _ (run_load1 o28 (.tmp 80) rfl ba ja rfl ra (HXa.out.2 _ HAa.out.sw.bel).1) ?_
            simp only [Act.put, List.setIfInBounds_toArray, List.set_cons_succ, List.set_cons_zero]
            refine wl rfl (.int .i64 (ca.length : Nat)) _ (run_lenB (HXa.out.2 _ HAa.out.sw.bel).2 (.tmp 81) rfl rfl) ?_
            simp only [Act.put, List.setIfInBounds_toArray, List.set_cons_succ, List.set_cons_zero]
            refine wl rfl (.int .i64 ((cw.length + ca.length : Nat) : Int)) _ (run_addI (.tmp 77) (.tmp 82) rfl (cw.length : Nat) (ca.length : Nat) ((cw.length + ca.length : Nat) : Int) (by omega) (by have := H5.out; have := HLa.out; omega) (by omega) rfl rfl) ?_
            simp only [Act.put, List.setIfInBounds_toArray, List.set_cons_succ, List.set_cons_zero]
            refine wl rfl (.bool false) _ (run_leqZ (.tmp 83) (.const (.int .i64 512)) rfl ((cw.length + ca.length : Nat) : Int) 512 rfl rfl false (decide_eq_false (by omega))) ?_
            simp only [Act.put, List.setIfInBounds_toArray, List.set_cons_succ, List.set_cons_zero]
            refine wl rfl (.bool false) _ (run_neB (.tmp 75) (.tmp 84) rfl false false rfl rfl false rfl) ?_
            simp only [Act.put, List.setIfInBounds_toArray, List.set_cons_succ, List.set_cons_zero]
            refine wpList_nil ?_
            go_upto_region 18 with fail
            refine wp_region_lit ?_
            refine wl rfl (.int .i64 5) _ (run_mvZ (.tmp 14) rfl (.int .i64 5) rfl) ?_
            simp only [Act.put, List.setIfInBounds_toArray, List.set_cons_succ, List.set_cons_zero]
            refine wl rfl (.bool false) _ (run_eqZ (.tmp 86) (.const (.int .i64 0)) rfl (5) (0) rfl rfl false rfl) ?_
            simp only [Act.put, List.setIfInBounds_toArray, List.set_cons_succ, List.set_cons_zero]
            refine wpList_nil ?_
            clear hsa
            by_cases hb : i < LB.length
            · go_upto_region 20 with fail
              refine wp_region_lit ?_
              refine wl rfl (.int .i64 (i : Nat)) _ (run_mvZ (.tmp 13) rfl (.int .i64 (i : Nat)) rfl) ?_
              simp only [Act.put, List.setIfInBounds_toArray, List.set_cons_succ, List.set_cons_zero]
              refine wl rfl vb _ (run_mvZ (.tmp 1) rfl vb rfl) ?_
              simp only [Act.put, List.setIfInBounds_toArray, List.set_cons_succ, List.set_cons_zero]
              refine wl rfl (.int .i64 (LB.length : Nat)) _ (run_lenR HRB.out (.tmp 95) rfl rfl) ?_
              simp only [Act.put, List.setIfInBounds_toArray, List.set_cons_succ, List.set_cons_zero]
              refine wl rfl (.bool true) _ (run_lssZ (.tmp 94) (.tmp 96) rfl (i : Nat) (LB.length : Nat) rfl rfl true (decide_eq_true (by omega))) ?_
              simp only [Act.put, List.setIfInBounds_toArray, List.set_cons_succ, List.set_cons_zero]
              refine wpList_nil ?_
              obtain ⟨bb, jb, rb, hx1, hx2⟩ := ix_row HRB.out i hb
              obtain ⟨cb, hcb⟩ : ∃ c, c = LB.getD i [] := ⟨_, rfl⟩
              rw [← hcb] at hx2
              have HXb : Hid ((∀ w', (Instr.indexAt 41 vb (.int .i64 (i : Nat))).run Try.prog w' = .ok (.pointer (some ⟨bb, jb, none⟩)) w') ∧ ∀ W, Below w.heap.size w W → W.cell? ⟨bb, jb, none⟩ = some rb ∧ SliceIn W rb cb) := ⟨hx1, hx2⟩
              have HLb : Hid (cb.length ≤ 140737488355328) := by show _ ≤ _; rw [hcb]; exact HLB.out i
              have HCb : Hid (∀ c ∈ cb, c < 256) := (hx2 w (Below.refl _ w)).2.lt256
              clear hx1 hx2 hcb
              by_cases hsb : co.length + cb.length ≤ 512
              · go_upto_region 21 with fail
                refine wp_region_lit ?_
                refine wl rfl (ptr g) _ (run_mvZ (.tmp 6) rfl (ptr g) rfl) ?_
                simp only [Act.put, List.setIfInBounds_toArray, List.set_cons_succ, List.set_cons_zero]
                refine wl rfl (.int .i64 1) _ (run_mvZ (.tmp 9) rfl (.int .i64 1) rfl) ?_
                simp only [Act.put, List.setIfInBounds_toArray, List.set_cons_succ, List.set_cons_zero]
                refine wl rfl vb _ (run_mvZ (.tmp 1) rfl vb rfl) ?_
                simp only [Act.put, List.setIfInBounds_toArray, List.set_cons_succ, List.set_cons_zero]
                refine wl rfl (.int .i64 (i : Nat)) _ (run_mvZ (.tmp 13) rfl (.int .i64 (i : Nat)) rfl) ?_
                simp only [Act.put, List.setIfInBounds_toArray, List.set_cons_succ, List.set_cons_zero]
                refine wl rfl (.pointer (some ⟨bb, jb, none⟩)) _ (run_idx (.tmp 100) (.tmp 101) rfl vb _ _ rfl rfl HXb.out.1) ?_
                simp only [Act.put, List.setIfInBounds_toArray, List.set_cons_succ, List.set_cons_zero]
                refine wl rfl rb _ (run_load1 o28 (.tmp 102) rfl bb jb rfl rb (HXb.out.2 _ HAa.out.sw.bel).1) ?_
                simp only [Act.put, List.setIfInBounds_toArray, List.set_cons_succ, List.set_cons_zero]
                refine wpList_callW eN12 [.tmp 98, .tmp 99, .tmp 103] _ rfl rfl [(ptr g), (.int .i64 1), rb] rfl ?_
                refine (SW.add HAa.out.sw (1 : Int) (Wf.of (by decide)) rb cb (HXb.out.2 _ HAa.out.sw.bel).2).mono ?_
                rintro e wrab ⟨Fab, rfl, s_, t_⟩
                refine ⟨_, rfl, ?_⟩
                have HEb : Hid (addP [(0, cw), (1, co)] (1 : Int) cb = (0, [(0, cw), (1, (co ++ cb))])) := by
                  show _ = _
                  rw [add_y cw co cb HAa.out.five.1, if_pos hsb]
                rw [HEb.out] at s_ ⊢
                have HAab : Hid (AI w wrab g Fab u11 u12 cw (co ++ cb) cw co) := HAa.out.turn t_ s_
                clear s_ t_ HEb
                simp only [Act.put, List.setIfInBounds_toArray, List.set_cons_succ, List.set_cons_zero]
                refine wl rfl (.int .i64 0) _ (run_asZ (.tmp 104) rfl (.int .i64 0) rfl) ?_
                simp only [Act.put, List.setIfInBounds_toArray, List.set_cons_succ, List.set_cons_zero]
                refine wpList_nil ?_
                go_upto_region 22 with fail
                refine wp_region_lit ?_
                refine wl rfl (.int .i64 0) _ (run_mvZ (.tmp 15) rfl (.int .i64 0) rfl) ?_
                simp only [Act.put, List.setIfInBounds_toArray, List.set_cons_succ, List.set_cons_zero]
                refine wl rfl (.bool true) _ (run_eqZ (.tmp 105) (.const (.int .i64 0)) rfl (0) (0) rfl rfl true rfl) ?_
                simp only [Act.put, List.setIfInBounds_toArray, List.set_cons_succ, List.set_cons_zero]
                refine wl rfl u12 _ (run_mvZ (.tmp 12) rfl u12 rfl) ?_
                simp only [Act.put, List.setIfInBounds_toArray, List.set_cons_succ, List.set_cons_zero]
                refine wl rfl (.int .i64 (co.length : Nat)) _ (run_lenB (HAab.out.oo.slice HAab.out.bo (by have := H5.out; omega)) (.tmp 107) rfl rfl) ?_
                simp only [Act.put, List.setIfInBounds_toArray, List.set_cons_succ, List.set_cons_zero]
                refine wl rfl vb _ (run_mvZ (.tmp 1) rfl vb rfl) ?_
                simp only [Act.put, List.setIfInBounds_toArray, List.set_cons_succ, List.set_cons_zero]
                refine wl rfl (.int .i64 (i : Nat)) _ (run_mvZ (.tmp 13) rfl (.int .i64 (i : Nat)) rfl) ?_
                simp only [Act.put, List.setIfInBounds_toArray, List.set_cons_succ, List.set_cons_zero]
                refine wl rfl (.pointer (some ⟨bb, jb, none⟩)) _ (run_idx (.tmp 109) (.tmp 110) rfl vb _ _ rfl rfl HXb.out.1) ?_
                simp only [Act.put, List.setIfInBounds_toArray, List.set_cons_succ, List.set_cons_zero]
                refine wl rfl rb _ (run_load1 o28 (.tmp 111) rfl bb jb rfl rb (HXb.out.2 _ HAab.out.sw.bel).1) ?_
                simp only [Act.put, List.setIfInBounds_toArray, List.set_cons_succ, List.set_cons_zero]
                refine wl rfl (.int .i64 (cb.length : Nat)) _ (run_lenB (HXb.out.2 _ HAab.out.sw.bel).2 (.tmp 112) rfl rfl) ?_
                simp only [Act.put, List.setIfInBounds_toArray, List.set_cons_succ, List.set_cons_zero]
                refine wl rfl (.int .i64 ((co.length + cb.length : Nat) : Int)) _ (run_addI (.tmp 108) (.tmp 113) rfl (co.length : Nat) (cb.length : Nat) ((co.length + cb.length : Nat) : Int) (by omega) (by have := H5.out; have := HLb.out; omega) (by omega) rfl rfl) ?_
                simp only [Act.put, List.setIfInBounds_toArray, List.set_cons_succ, List.set_cons_zero]
                refine wl rfl (.bool true) _ (run_leqZ (.tmp 114) (.const (.int .i64 512)) rfl ((co.length + cb.length : Nat) : Int) 512 rfl rfl true (decide_eq_true (by omega))) ?_
                simp only [Act.put, List.setIfInBounds_toArray, List.set_cons_succ, List.set_cons_zero]
                refine wl rfl (.bool false) _ (run_neB (.tmp 106) (.tmp 115) rfl true true rfl rfl false rfl) ?_
                simp only [Act.put, List.setIfInBounds_toArray, List.set_cons_succ, List.set_cons_zero]
                refine wpList_nil ?_
                go_upto_region 24 with fail
                refine wp_region_lit ?_
                refine wl rfl (.int .i64 0) _ (run_mvZ (.tmp 15) rfl (.int .i64 0) rfl) ?_
                simp only [Act.put, List.setIfInBounds_toArray, List.set_cons_succ, List.set_cons_zero]
                refine wl rfl (.bool true) _ (run_eqZ (.tmp 117) (.const (.int .i64 0)) rfl (0) (0) rfl rfl true rfl) ?_
                simp only [Act.put, List.setIfInBounds_toArray, List.set_cons_succ, List.set_cons_zero]
                refine wpList_nil ?_
                go_upto_region 25 with fail
                refine wp_region_lit ?_
                refine wl rfl u12 _ (run_mvZ (.tmp 12) rfl u12 rfl) ?_
                simp only [Act.put, List.setIfInBounds_toArray, List.set_cons_succ, List.set_cons_zero]
                refine wl rfl vb _ (run_mvZ (.tmp 1) rfl vb rfl) ?_
                simp only [Act.put, List.setIfInBounds_toArray, List.set_cons_succ, List.set_cons_zero]
                refine wl rfl (.int .i64 (i : Nat)) _ (run_mvZ (.tmp 13) rfl (.int .i64 (i : Nat)) rfl) ?_
                simp only [Act.put, List.setIfInBounds_toArray, List.set_cons_succ, List.set_cons_zero]
                refine wl rfl (.pointer (some ⟨bb, jb, none⟩)) _ (run_idx (.tmp 120) (.tmp 121) rfl vb _ _ rfl rfl HXb.out.1) ?_
                simp only [Act.put, List.setIfInBounds_toArray, List.set_cons_succ, List.set_cons_zero]
                refine wl rfl rb _ (run_load1 o28 (.tmp 122) rfl bb jb rfl rb (HXb.out.2 _ HAab.out.sw.bel).1) ?_
                simp only [Act.put, List.setIfInBounds_toArray, List.set_cons_succ, List.set_cons_zero]
                obtain ⟨u12b, wrabg, hr_, ho_, hg_, hat_⟩ := run_bappAt (Oper.type _) u12 rb co cb HAab.out.oo (HXb.out.2 _ HAab.out.sw.bel).2 (by have := H5.out; have := HLb.out; omega)
                refine wl rfl u12b wrabg (run_append (.tmp 119) (.tmp 123) rfl u12 rb u12b rfl rfl hr_) ?_
                have HAabg : Hid (AI w wrabg g Fab u11 u12b cw (co ++ cb) cw (co ++ cb)) := HAab.out.growO hg_ ho_ hat_ HCb.out
                clear hr_ ho_ hg_ hat_ HAab
                simp only [Act.put, List.setIfInBounds_toArray, List.set_cons_succ, List.set_cons_zero]
                refine wl rfl u12b _ (run_asZ (.tmp 124) rfl u12b rfl) ?_
                simp only [Act.put, List.setIfInBounds_toArray, List.set_cons_succ, List.set_cons_zero]
                refine wpList_nil ?_
                clear hsb
                go_wp2_with fail
                refine ⟨⟨i + 1, by go_num, by omega, _, _, _, HAabg.out⟩, ?_⟩
                simp [intOf]; omega
              · go_upto_region 21 with fail
                refine wp_region_lit ?_
                refine wl rfl (ptr g) _ (run_mvZ (.tmp 6) rfl (ptr g) rfl) ?_
                simp only [Act.put, List.setIfInBounds_toArray, List.set_cons_succ, List.set_cons_zero]
                refine wl rfl (.int .i64 1) _ (run_mvZ (.tmp 9) rfl (.int .i64 1) rfl) ?_
                simp only [Act.put, List.setIfInBounds_toArray, List.set_cons_succ, List.set_cons_zero]
                refine wl rfl vb _ (run_mvZ (.tmp 1) rfl vb rfl) ?_
                simp only [Act.put, List.setIfInBounds_toArray, List.set_cons_succ, List.set_cons_zero]
                refine wl rfl (.int .i64 (i : Nat)) _ (run_mvZ (.tmp 13) rfl (.int .i64 (i : Nat)) rfl) ?_
                simp only [Act.put, List.setIfInBounds_toArray, List.set_cons_succ, List.set_cons_zero]
                refine wl rfl (.pointer (some ⟨bb, jb, none⟩)) _ (run_idx (.tmp 100) (.tmp 101) rfl vb _ _ rfl rfl HXb.out.1) ?_
                simp only [Act.put, List.setIfInBounds_toArray, List.set_cons_succ, List.set_cons_zero]
                refine wl rfl rb _ (run_load1 o28 (.tmp 102) rfl bb jb rfl rb (HXb.out.2 _ HAa.out.sw.bel).1) ?_
                simp only [Act.put, List.setIfInBounds_toArray, List.set_cons_succ, List.set_cons_zero]
                refine wpList_callW eN12 [.tmp 98, .tmp 99, .tmp 103] _ rfl rfl [(ptr g), (.int .i64 1), rb] rfl ?_
                refine (SW.add HAa.out.sw (1 : Int) (Wf.of (by decide)) rb cb (HXb.out.2 _ HAa.out.sw.bel).2).mono ?_
                rintro e wrab ⟨Fab, rfl, s_, t_⟩
                refine ⟨_, rfl, ?_⟩
                have HEb : Hid (addP [(0, cw), (1, co)] (1 : Int) cb = (5, [(0, cw), (1, co)])) := by
                  show _ = _
                  rw [add_y cw co cb HAa.out.five.1, if_neg hsb]
                rw [HEb.out] at s_ ⊢
                have HAab : Hid (AI w wrab g Fab u11 u12 cw co cw co) := HAa.out.turn t_ s_
                clear s_ t_ HEb
                simp only [Act.put, List.setIfInBounds_toArray, List.set_cons_succ, List.set_cons_zero]
                refine wl rfl (.int .i64 5) _ (run_asZ (.tmp 104) rfl (.int .i64 5) rfl) ?_
                simp only [Act.put, List.setIfInBounds_toArray, List.set_cons_succ, List.set_cons_zero]
                refine wpList_nil ?_
                go_upto_region 22 with fail
                refine wp_region_lit ?_
                refine wl rfl (.int .i64 5) _ (run_mvZ (.tmp 15) rfl (.int .i64 5) rfl) ?_
                simp only [Act.put, List.setIfInBounds_toArray, List.set_cons_succ, List.set_cons_zero]
                refine wl rfl (.bool false) _ (run_eqZ (.tmp 105) (.const (.int .i64 0)) rfl (5) (0) rfl rfl false rfl) ?_
                simp only [Act.put, List.setIfInBounds_toArray, List.set_cons_succ, List.set_cons_zero]
                refine wl rfl u12 _ (run_mvZ (.tmp 12) rfl u12 rfl) ?_
                simp only [Act.put, List.setIfInBounds_toArray, List.set_cons_succ, List.set_cons_zero]
                refine wl rfl (.int .i64 (co.length : Nat)) _ (run_lenB (HAab.out.oo.slice HAab.out.bo (by have := H5.out; omega)) (.tmp 107) rfl rfl) ?_
                simp only [Act.put, List.setIfInBounds_toArray, List.set_cons_succ, List.set_cons_zero]
                refine wl rfl vb _ (run_mvZ (.tmp 1) rfl vb rfl) ?_
                simp only [Act.put, List.setIfInBounds_toArray, List.set_cons_succ, List.set_cons_zero]
                refine wl rfl (.int .i64 (i : Nat)) _ (run_mvZ (.tmp 13) rfl (.int .i64 (i : Nat)) rfl) ?_
                simp only [Act.put, List.setIfInBounds_toArray, List.set_cons_succ, List.set_cons_zero]
                refine wl rfl (.pointer (some ⟨bb, jb, none⟩)) _ (run_idx (.tmp 109) (.tmp 110) rfl vb _ _ rfl rfl HXb.out.1) ?_
                simp only [Act.put, List.setIfInBounds_toArray, List.set_cons_succ, List.set_cons_zero]
                refine wl rfl rb _ (run_load1 o28 (.tmp 111) rfl bb jb rfl rb (HXb.out.2 _ HAab.out.sw.bel).1) ?_
                simp only [Act.put, List.setIfInBounds_toArray, List.set_cons_succ, List.set_cons_zero]
                refine wl rfl (.int .i64 (cb.length : Nat)) _ (run_lenB (HXb.out.2 _ HAab.out.sw.bel).2 (.tmp 112) rfl rfl) ?_
                simp only [Act.put, List.setIfInBounds_toArray, List.set_cons_succ, List.set_cons_zero]
                refine wl rfl (.int .i64 ((co.length + cb.length : Nat) : Int)) _ (run_addI (.tmp 108) (.tmp 113) rfl (co.length : Nat) (cb.length : Nat) ((co.length + cb.length : Nat) : Int) (by omega) (by have := H5.out; have := HLb.out; omega) (by omega) rfl rfl) ?_
                simp only [Act.put, List.setIfInBounds_toArray, List.set_cons_succ, List.set_cons_zero]
                refine wl rfl (.bool false) _ (run_leqZ (.tmp 114) (.const (.int .i64 512)) rfl ((co.length + cb.length : Nat) : Int) 512 rfl rfl false (decide_eq_false (by omega))) ?_
                simp only [Act.put, List.setIfInBounds_toArray, List.set_cons_succ, List.set_cons_zero]
                refine wl rfl (.bool false) _ (run_neB (.tmp 106) (.tmp 115) rfl false false rfl rfl false rfl) ?_
                simp only [Act.put, List.setIfInBounds_toArray, List.set_cons_succ, List.set_cons_zero]
                refine wpList_nil ?_
                go_upto_region 24 with fail
                refine wp_region_lit ?_
                refine wl rfl (.int .i64 5) _ (run_mvZ (.tmp 15) rfl (.int .i64 5) rfl) ?_
                simp only [Act.put, List.setIfInBounds_toArray, List.set_cons_succ, List.set_cons_zero]
                refine wl rfl (.bool false) _ (run_eqZ (.tmp 117) (.const (.int .i64 0)) rfl (5) (0) rfl rfl false rfl) ?_
                simp only [Act.put, List.setIfInBounds_toArray, List.set_cons_succ, List.set_cons_zero]
                refine wpList_nil ?_
                clear hsb
                go_wp2_with fail
                refine ⟨⟨i + 1, by go_num, by omega, _, _, _, HAab.out⟩, ?_⟩
                simp [intOf]; omega
            · go_upto_region 20 with fail
              refine wp_region_lit ?_
              refine wl rfl (.int .i64 (i : Nat)) _ (run_mvZ (.tmp 13) rfl (.int .i64 (i : Nat)) rfl) ?_
              simp only [Act.put, List.setIfInBounds_toArray, List.set_cons_succ, List.set_cons_zero]
              refine wl rfl vb _ (run_mvZ (.tmp 1) rfl vb rfl) ?_
              simp only [Act.put, List.setIfInBounds_toArray, List.set_cons_succ, List.set_cons_zero]
              refine wl rfl (.int .i64 (LB.length : Nat)) _ (run_lenR HRB.out (.tmp 95) rfl rfl) ?_
              simp only [Act.put, List.setIfInBounds_toArray, List.set_cons_succ, List.set_cons_zero]
              refine wl rfl (.bool false) _ (run_lssZ (.tmp 94) (.tmp 96) rfl (i : Nat) (LB.length : Nat) rfl rfl false (decide_eq_false (by omega))) ?_
              simp only [Act.put, List.setIfInBounds_toArray, List.set_cons_succ, List.set_cons_zero]
              refine wpList_nil ?_
              go_wp2_with fail
              refine ⟨⟨i + 1, by go_num, by omega, _, _, _, HAa.out⟩, ?_⟩
              simp [intOf]; omega
        · go_upto_region 14 with fail
          refine wp_region_lit ?_
          refine wl rfl (.int .i64 (i : Nat)) _ (run_mvZ (.tmp 13) rfl (.int .i64 (i : Nat)) rfl) ?_
          simp only [Act.put, List.setIfInBounds_toArray, List.set_cons_succ, List.set_cons_zero]
          refine wl rfl va _ (run_mvZ (.tmp 0) rfl va rfl) ?_
          simp only [Act.put, List.setIfInBounds_toArray, List.set_cons_succ, List.set_cons_zero]
          refine wl rfl (.int .i64 (LA.length : Nat)) _ (run_lenR HRA.out (.tmp 64) rfl rfl) ?_
          simp only [Act.put, List.setIfInBounds_toArray, List.set_cons_succ, List.set_cons_zero]
          refine wl rfl (.bool false) _ (run_lssZ (.tmp 63) (.tmp 65) rfl (i : Nat) (LA.length : Nat) rfl rfl false (decide_eq_false (by omega))) ?_
          simp only [Act.put, List.setIfInBounds_toArray, List.set_cons_succ, List.set_cons_zero]
          refine wpList_nil ?_
          by_cases hb : i < LB.length
          · go_upto_region 20 with fail
            refine wp_region_lit ?_
            refine wl rfl (.int .i64 (i : Nat)) _ (run_mvZ (.tmp 13) rfl (.int .i64 (i : Nat)) rfl) ?_
            simp only [Act.put, List.setIfInBounds_toArray, List.set_cons_succ, List.set_cons_zero]
            refine wl rfl vb _ (run_mvZ (.tmp 1) rfl vb rfl) ?_
            simp only [Act.put, List.setIfInBounds_toArray, List.set_cons_succ, List.set_cons_zero]
            refine wl rfl (.int .i64 (LB.length : Nat)) _ (run_lenR HRB.out (.tmp 95) rfl rfl) ?_
            simp only [Act.put, List.setIfInBounds_toArray, List.set_cons_succ, List.set_cons_zero]
            refine wl rfl (.bool true) _ (run_lssZ (.tmp 94) (.tmp 96) rfl (i : Nat) (LB.length : Nat) rfl rfl true (decide_eq_true (by omega))) ?_
            simp only [Act.put, List.setIfInBounds_toArray, List.set_cons_succ, List.set_cons_zero]
            refine wpList_nil ?_
            obtain ⟨bb, jb, rb, hx1, hx2⟩ := ix_row HRB.out i hb
            obtain ⟨cb, hcb⟩ : ∃ c, c = LB.getD i [] := ⟨_, rfl⟩
            rw [← hcb] at hx2
            have HXb : Hid ((∀ w', (Instr.indexAt 41 vb (.int .i64 (i : Nat))).run Try.prog w' = .ok (.pointer (some ⟨bb, jb, none⟩)) w') ∧ ∀ W, Below w.heap.size w W → W.cell? ⟨bb, jb, none⟩ = some rb ∧ SliceIn W rb cb) := ⟨hx1, hx2⟩
            have HLb : Hid (cb.length ≤ 140737488355328) := by show _ ≤ _; rw [hcb]; exact HLB.out i
            have HCb : Hid (∀ c ∈ cb, c < 256) := (hx2 w (Below.refl _ w)).2.lt256
            clear hx1 hx2 hcb
            by_cases hsb : co.length + cb.length ≤ 512
            · go_upto_region 21 with fail
              refine wp_region_lit ?_
              refine wl rfl (ptr g) _ (run_mvZ (.tmp 6) rfl (ptr g) rfl) ?_
              simp only [Act.put, List.setIfInBounds_toArray, List.set_cons_succ, List.set_cons_zero]
              refine wl rfl (.int .i64 1) _ (run_mvZ (.tmp 9) rfl (.int .i64 1) rfl) ?_
              simp only [Act.put, List.setIfInBounds_toArray, List.set_cons_succ, List.set_cons_zero]
              refine wl rfl vb _ (run_mvZ (.tmp 1) rfl vb rfl) ?_
              simp only [Act.put, List.setIfInBounds_toArray, List.set_cons_succ, List.set_cons_zero]
              refine wl rfl (.int .i64 (i : Nat)) _ (run_mvZ (.tmp 13) rfl (.int .i64 (i : Nat)) rfl) ?_
              simp only [Act.put, List.setIfInBounds_toArray, List.set_cons_succ, List.set_cons_zero]
              refine wl rfl (.pointer (some ⟨bb, jb, none⟩)) _ (run_idx (.tmp 100) (.tmp 101) rfl vb _ _ rfl rfl HXb.out.1) ?_
              simp only [Act.put, List.setIfInBounds_toArray, List.set_cons_succ, List.set_cons_zero]
              refine wl rfl rb _ (run_load1 o28 (.tmp 102) rfl bb jb rfl rb (HXb.out.2 _ HA.out.sw.bel).1) ?_
              simp only [Act.put, List.setIfInBounds_toArray, List.set_cons_succ, List.set_cons_zero]
              refine wpList_callW eN12 [.tmp 98, .tmp 99, .tmp 103] _ rfl rfl [(ptr g), (.int .i64 1), rb] rfl ?_
              refine (SW.add HA.out.sw (1 : Int) (Wf.of (by decide)) rb cb (HXb.out.2 _ HA.out.sw.bel).2).mono ?_
              rintro e wrb ⟨Fb, rfl, s_, t_⟩
              refine ⟨_, rfl, ?_⟩
              have HEb : Hid (addP [(0, cw), (1, co)] (1 : Int) cb = (0, [(0, cw), (1, (co ++ cb))])) := by
                show _ = _
                rw [add_y cw co cb HA.out.five.1, if_pos hsb]
              rw [HEb.out] at s_ ⊢
              have HAb : Hid (AI w wrb g Fb u11 u12 cw (co ++ cb) cw co) := HA.out.turn t_ s_
              clear s_ t_ HEb
              simp only [Act.put, List.setIfInBounds_toArray, List.set_cons_succ, List.set_cons_zero]
              refine wl rfl (.int .i64 0) _ (run_asZ (.tmp 104) rfl (.int .i64 0) rfl) ?_
              simp only [Act.put, List.setIfInBounds_toArray, List.set_cons_succ, List.set_cons_zero]
              refine wpList_nil ?_
              go_upto_region 22 with fail
              refine wp_region_lit ?_
              refine wl rfl (.int .i64 0) _ (run_mvZ (.tmp 15) rfl (.int .i64 0) rfl) ?_
              simp only [Act.put, List.setIfInBounds_toArray, List.set_cons_succ, List.set_cons_zero]
              refine wl rfl (.bool true) _ (run_eqZ (.tmp 105) (.const (.int .i64 0)) rfl (0) (0) rfl rfl true rfl) ?_
              simp only [Act.put, List.setIfInBounds_toArray, List.set_cons_succ, List.set_cons_zero]
              refine wl rfl u12 _ (run_mvZ (.tmp 12) rfl u12 rfl) ?_
              simp only [Act.put, List.setIfInBounds_toArray, List.set_cons_succ, List.set_cons_zero]
              refine wl rfl (.int .i64 (co.length : Nat)) _ (run_lenB (HAb.out.oo.slice HAb.out.bo (by have := H5.out; omega)) (.tmp 107) rfl rfl) ?_
              simp only [Act.put, List.setIfInBounds_toArray, List.set_cons_succ, List.set_cons_zero]
              refine wl rfl vb _ (run_mvZ (.tmp 1) rfl vb rfl) ?_
              simp only [Act.put, List.setIfInBounds_toArray, List.set_cons_succ, List.set_cons_zero]
              refine wl rfl (.int .i64 (i : Nat)) _ (run_mvZ (.tmp 13) rfl (.int .i64 (i : Nat)) rfl) ?_
              simp only [Act.put, List.setIfInBounds_toArray, List.set_cons_succ, List.set_cons_zero]
              refine wl rfl (.pointer (some ⟨bb, jb, none⟩)) _ (run_idx (.tmp 109) (.tmp 110) rfl vb _ _ rfl rfl HXb.out.1) ?_
              simp only [Act.put, List.setIfInBounds_toArray, List.set_cons_succ, List.set_cons_zero]
              refine wl rfl rb _ (run_load1 o28 (.tmp 111) rfl bb jb rfl rb (HXb.out.2 _ HAb.out.sw.bel).1) ?_
              simp only [Act.put, List.setIfInBounds_toArray, List.set_cons_succ, List.set_cons_zero]
              refine wl rfl (.int .i64 (cb.length : Nat)) _ (run_lenB (HXb.out.2 _ HAb.out.sw.bel).2 (.tmp 112) rfl rfl) ?_
              simp only [Act.put, List.setIfInBounds_toArray, List.set_cons_succ, List.set_cons_zero]
              refine wl rfl (.int .i64 ((co.length + cb.length : Nat) : Int)) _ (run_addI (.tmp 108) (.tmp 113) rfl (co.length : Nat) (cb.length : Nat) ((co.length + cb.length : Nat) : Int) (by omega) (by have := H5.out; have := HLb.out; omega) (by omega) rfl rfl) ?_
              simp only [Act.put, List.setIfInBounds_toArray, List.set_cons_succ, List.set_cons_zero]
              refine wl rfl (.bool true) _ (run_leqZ (.tmp 114) (.const (.int .i64 512)) rfl ((co.length + cb.length : Nat) : Int) 512 rfl rfl true (decide_eq_true (by omega))) ?_
              simp only [Act.put, List.setIfInBounds_toArray, List.set_cons_succ, List.set_cons_zero]
              refine wl rfl (.bool false) _ (run_neB (.tmp 106) (.tmp 115) rfl true true rfl rfl false rfl) ?_
              simp only [Act.put, List.setIfInBounds_toArray, List.set_cons_succ, List.set_cons_zero]
              refine wpList_nil ?_
              go_upto_region 24 with fail
              refine wp_region_lit ?_
              refine wl rfl (.int .i64 0) _ (run_mvZ (.tmp 15) rfl (.int .i64 0) rfl) ?_
              simp only [Act.put, List.setIfInBounds_toArray, List.set_cons_succ, List.set_cons_zero]
              refine wl rfl (.bool true) _ (run_eqZ (.tmp 117) (.const (.int .i64 0)) rfl (0) (0) rfl rfl true rfl) ?_
              simp only [Act.put, List.setIfInBounds_toArray, List.set_cons_succ, List.set_cons_zero]
              refine wpList_nil ?_
              go_upto_region 25 with fail
              refine wp_region_lit ?_
              refine wl rfl u12 _ (run_mvZ (.tmp 12) rfl u12 rfl) ?_
              simp only [Act.put, List.setIfInBounds_toArray, List.set_cons_succ, List.set_cons_zero]
              refine wl rfl vb _ (run_mvZ (.tmp 1) rfl vb rfl) ?_
              simp only [Act.put, List.setIfInBounds_toArray, List.set_cons_succ, List.set_cons_zero]
              refine wl rfl (.int .i64 (i : Nat)) _ (run_mvZ (.tmp 13) rfl (.int .i64 (i : Nat)) rfl) ?_
              simp only [Act.put, List.setIfInBounds_toArray, List.set_cons_succ, List.set_cons_zero]
              refine wl rfl (.pointer (some ⟨bb, jb, none⟩)) _ (run_idx (.tmp 120) (.tmp 121) rfl vb _ _ rfl rfl HXb.out.1) ?_
              simp only [Act.put, List.setIfInBounds_toArray, List.set_cons_succ, List.set_cons_zero]
              refine wl rfl rb _ (run_load1 o28 (.tmp 122) rfl bb jb rfl rb (HXb.out.2 _ HAb.out.sw.bel).1) ?_
              simp only [Act.put, List.setIfInBounds_toArray, List.set_cons_succ, List.set_cons_zero]
              obtain ⟨u12b, wrbg, hr_, ho_, hg_, hat_⟩ := run_bappAt (Oper.type _) u12 rb co cb HAb.out.oo (HXb.out.2 _ HAb.out.sw.bel).2 (by have := H5.out; have := HLb.out; omega)
              refine wl rfl u12b wrbg (run_append (.tmp 119) (.tmp 123) rfl u12 rb u12b rfl rfl hr_) ?_
              have HAbg : Hid (AI w wrbg g Fb u11 u12b cw (co ++ cb) cw (co ++ cb)) := HAb.out.growO hg_ ho_ hat_ HCb.out
              clear hr_ ho_ hg_ hat_ HAb
              simp only [Act.put, List.setIfInBounds_toArray, List.set_cons_succ, List.set_cons_zero]
              refine wl rfl u12b _ (run_asZ (.tmp 124) rfl u12b rfl) ?_
              simp only [Act.put, List.setIfInBounds_toArray, List.set_cons_succ, List.set_cons_zero]
              refine wpList_nil ?_
              clear hsb
              go_wp2_with fail
              refine ⟨⟨i + 1, by go_num, by omega, _, _, _, HAbg.out⟩, ?_⟩
              simp [intOf]; omega
            · go_upto_region 21 with fail
              refine wp_region_lit ?_
              refine wl rfl (ptr g) _ (run_mvZ (.tmp 6) rfl (ptr g) rfl) ?_
              simp only [Act.put, List.setIfInBounds_toArray, List.set_cons_succ, List.set_cons_zero]
              refine wl rfl (.int .i64 1) _ (run_mvZ (.tmp 9) rfl (.int .i64 1) rfl) ?_
              simp only [Act.put, List.setIfInBounds_toArray, List.set_cons_succ, List.set_cons_zero]
              refine wl rfl vb _ (run_mvZ (.tmp 1) rfl vb rfl) ?_
              simp only [Act.put, List.setIfInBounds_toArray, List.set_cons_succ, List.set_cons_zero]
              refine wl rfl (.int .i64 (i : Nat)) _ (run_mvZ (.tmp 13) rfl (.int .i64 (i : Nat)) rfl) ?_
              simp only [Act.put, List.setIfInBounds_toArray, List.set_cons_succ, List.set_cons_zero]
              refine wl rfl (.pointer (some ⟨bb, jb, none⟩)) _ (run_idx (.tmp 100) (.tmp 101) rfl vb _ _ rfl rfl HXb.out.1) ?_
              simp only [Act.put, List.setIfInBounds_toArray, List.set_cons_succ, List.set_cons_zero]
              refine wl rfl rb _ (run_load1 o28 (.tmp 102) rfl bb jb rfl rb (HXb.out.2 _ HA.out.sw.bel).1) ?_
              simp only [Act.put, List.setIfInBounds_toArray, List.set_cons_succ, List.set_cons_zero]
              refine wpList_callW eN12 [.tmp 98, .tmp 99, .tmp 103] _ rfl rfl [(ptr g), (.int .i64 1), rb] rfl ?_
              refine (SW.add HA.out.sw (1 : Int) (Wf.of (by decide)) rb cb (HXb.out.2 _ HA.out.sw.bel).2).mono ?_
              rintro e wrb ⟨Fb, rfl, s_, t_⟩
              refine ⟨_, rfl, ?_⟩
              have HEb : Hid (addP [(0, cw), (1, co)] (1 : Int) cb = (5, [(0, cw), (1, co)])) := by
                show _ = _
                rw [add_y cw co cb HA.out.five.1, if_neg hsb]
              rw [HEb.out] at s_ ⊢
              have HAb : Hid (AI w wrb g Fb u11 u12 cw co cw co) := HA.out.turn t_ s_
              clear s_ t_ HEb
              simp only [Act.put, List.setIfInBounds_toArray, List.set_cons_succ, List.set_cons_zero]
              refine wl rfl (.int .i64 5) _ (run_asZ (.tmp 104) rfl (.int .i64 5) rfl) ?_
              simp only [Act.put, List.setIfInBounds_toArray, List.set_cons_succ, List.set_cons_zero]
              refine wpList_nil ?_
              go_upto_region 22 with fail
              refine wp_region_lit ?_
              refine wl rfl (.int .i64 5) _ (run_mvZ (.tmp 15) rfl (.int .i64 5) rfl) ?_
              simp only [Act.put, List.setIfInBounds_toArray, List.set_cons_succ, List.set_cons_zero]
              refine wl rfl (.bool false) _ (run_eqZ (.tmp 105) (.const (.int .i64 0)) rfl (5) (0) rfl rfl false rfl) ?_
              simp only [Act.put, List.setIfInBounds_toArray, List.set_cons_succ, List.set_cons_zero]
              refine wl rfl u12 _ (run_mvZ (.tmp 12) rfl u12 rfl) ?_
              simp only [Act.put, List.setIfInBounds_toArray, List.set_cons_succ, List.set_cons_zero]
              refine wl rfl (.int .i64 (co.length : Nat)) _ (run_lenB (HAb.out.oo.slice HAb.out.bo (by have := H5.out; omega)) (.tmp 107) rfl rfl) ?_
              simp only [Act.put, List.setIfInBounds_toArray, List.set_cons_succ, List.set_cons_zero]
              refine wl rfl vb _ (run_mvZ (.tmp 1) rfl vb rfl) ?_
              simp only [Act.put, List.setIfInBounds_toArray, List.set_cons_succ, List.set_cons_zero]
              refine wl rfl (.int .i64 (i : Nat)) _ (run_mvZ (.tmp 13) rfl (.int .i64 (i : Nat)) rfl) ?_
              simp only [Act.put, List.setIfInBounds_toArray, List.set_cons_succ, List.set_cons_zero]
              refine wl rfl (.pointer (some ⟨bb, jb, none⟩)) _ (run_idx (.tmp 109) (.tmp 110) rfl vb _ _ rfl rfl HXb.out.1) ?_
              simp only [Act.put, List.setIfInBounds_toArray, List.set_cons_succ, List.set_cons_zero]
              refine wl rfl rb _ (run_load1 o28 (.tmp 111) rfl bb jb rfl rb (HXb.out.2 _ HAb.out.sw.bel).1) ?_
              simp only [Act.put, List.setIfInBounds_toArray, List.set_cons_succ, List.set_cons_zero]
              refine wl rfl (.int .i64 (cb.length : Nat)) _ (run_lenB (HXb.out.2 _ HAb.out.sw.bel).2 (.tmp 112) rfl rfl) ?_
              simp only [Act.put, List.setIfInBounds_toArray, List.set_cons_succ, List.set_cons_zero]
              refine wl rfl (.int .i64 ((co.length + cb.length : Nat) : Int)) _ (run_addI (.tmp 108) (.tmp 113) rfl (co.length : Nat) (cb.length : Nat) ((co.length + cb.length : Nat) : Int) (by omega) (by have := H5.out; have := HLb.out; omega) (by omega) rfl rfl) ?_
              simp only [Act.put, List.setIfInBounds_toArray, List.set_cons_succ, List.set_cons_zero]
              refine wl rfl (.bool false) _ (run_leqZ (.tmp 114) (.const (.int .i64 512)) rfl ((co.length + cb.length : Nat) : Int) 512 rfl rfl false (decide_eq_false (by omega))) ?_
              simp only [Act.put, List.setIfInBounds_toArray, List.set_cons_succ, List.set_cons_zero]
              refine wl rfl (.bool false) _ (run_neB (.tmp 106) (.tmp 115) rfl false false rfl rfl false rfl) ?_
              simp only [Act.put, List.setIfInBounds_toArray, List.set_cons_succ, List.set_cons_zero]
              refine wpList_nil ?_
              go_upto_region 24 with fail
              refine wp_region_lit ?_
              refine wl rfl (.int .i64 5) _ (run_mvZ (.tmp 15) rfl (.int .i64 5) rfl) ?_
              simp only [Act.put, List.setIfInBounds_toArray, List.set_cons_succ, List.set_cons_zero]
              refine wl rfl (.bool false) _ (run_eqZ (.tmp 117) (.const (.int .i64 0)) rfl (5) (0) rfl rfl false rfl) ?_
              simp only [Act.put, List.setIfInBounds_toArray, List.set_cons_succ, List.set_cons_zero]
              refine wpList_nil ?_
              clear hsb
              go_wp2_with fail
              refine ⟨⟨i + 1, by go_num, by omega, _, _, _, HAb.out⟩, ?_⟩
              simp [intOf]; omega
          · go_upto_region 20 with fail
            refine wp_region_lit ?_
            refine wl rfl (.int .i64 (i : Nat)) _ (run_mvZ (.tmp 13) rfl (.int .i64 (i : Nat)) rfl) ?_
            simp only [Act.put, List.setIfInBounds_toArray, List.set_cons_succ, List.set_cons_zero]
            refine wl rfl vb _ (run_mvZ (.tmp 1) rfl vb rfl) ?_
            simp only [Act.put, List.setIfInBounds_toArray, List.set_cons_succ, List.set_cons_zero]
            refine wl rfl (.int .i64 (LB.length : Nat)) _ (run_lenR HRB.out (.tmp 95) rfl rfl) ?_
            simp only [Act.put, List.setIfInBounds_toArray, List.set_cons_succ, List.set_cons_zero]
            refine wl rfl (.bool false) _ (run_lssZ (.tmp 94) (.tmp 96) rfl (i : Nat) (LB.length : Nat) rfl rfl false (decide_eq_false (by omega))) ?_
            simp only [Act.put, List.setIfInBounds_toArray, List.set_cons_succ, List.set_cons_zero]
            refine wpList_nil ?_
            go_wp2_with fail
            refine ⟨⟨i + 1, by go_num, by omega, _, _, _, HA.out⟩, ?_⟩
            simp [intOf]; omega
      · go_upto_region 12 with fail
        refine wp_region_lit ?_
        refine wl rfl (.int .i64 (i : Nat)) _ (run_mvZ (.tmp 13) rfl (.int .i64 (i : Nat)) rfl) ?_
        simp only [Act.put, List.setIfInBounds_toArray, List.set_cons_succ, List.set_cons_zero]
        refine wl rfl va _ (run_mvZ (.tmp 0) rfl va rfl) ?_
        simp only [Act.put, List.setIfInBounds_toArray, List.set_cons_succ, List.set_cons_zero]
        refine wl rfl (.int .i64 (LA.length : Nat)) _ (run_lenR HRA.out (.tmp 52) rfl rfl) ?_
        simp only [Act.put, List.setIfInBounds_toArray, List.set_cons_succ, List.set_cons_zero]
        refine wl rfl (.bool false) _ (run_lssZ (.tmp 51) (.tmp 53) rfl (i : Nat) (LA.length : Nat) rfl rfl false (decide_eq_false (by omega))) ?_
        simp only [Act.put, List.setIfInBounds_toArray, List.set_cons_succ, List.set_cons_zero]
        refine wl rfl (.bool false) _ (run_mvZ (.tmp 54) rfl (.bool false) rfl) ?_
        simp only [Act.put, List.setIfInBounds_toArray, List.set_cons_succ, List.set_cons_zero]
        refine wl (by kernel_rfl) (.int .i64 (i : Nat)) _ (run_mvZ (.tmp 13) rfl (.int .i64 (i : Nat)) rfl) ?_
        simp only [Act.put, List.setIfInBounds_toArray, List.set_cons_succ, List.set_cons_zero]
        refine wl (by kernel_rfl) vb _ (run_mvZ (.tmp 1) rfl vb rfl) ?_
        simp only [Act.put, List.setIfInBounds_toArray, List.set_cons_succ, List.set_cons_zero]
        refine wl (by kernel_rfl) (.int .i64 (LB.length : Nat)) _ (run_lenR HRB.out (.tmp 57) rfl rfl) ?_
        simp only [Act.put, List.setIfInBounds_toArray, List.set_cons_succ, List.set_cons_zero]
        refine wl (by kernel_rfl) (.bool true) _ (run_lssZ (.tmp 56) (.tmp 58) rfl (i : Nat) (LB.length : Nat) rfl rfl true (decide_eq_true (by omega))) ?_
        simp only [Act.put, List.setIfInBounds_toArray, List.set_cons_succ, List.set_cons_zero]
        refine wl rfl (.bool true) _ (run_pickZ (.tmp 55) (.const (.bool true)) (.tmp 59) rfl false (.bool true) rfl rfl) ?_
        simp only [Act.put, List.setIfInBounds_toArray, List.set_cons_succ, List.set_cons_zero]
        refine wpList_nil ?_
        go_upto_region 14 with fail
        refine wp_region_lit ?_
        refine wl rfl (.int .i64 (i : Nat)) _ (run_mvZ (.tmp 13) rfl (.int .i64 (i : Nat)) rfl) ?_
        simp only [Act.put, List.setIfInBounds_toArray, List.set_cons_succ, List.set_cons_zero]
        refine wl rfl va _ (run_mvZ (.tmp 0) rfl va rfl) ?_
        simp only [Act.put, List.setIfInBounds_toArray, List.set_cons_succ, List.set_cons_zero]
        refine wl rfl (.int .i64 (LA.length : Nat)) _ (run_lenR HRA.out (.tmp 64) rfl rfl) ?_
        simp only [Act.put, List.setIfInBounds_toArray, List.set_cons_succ, List.set_cons_zero]
        refine wl rfl (.bool false) _ (run_lssZ (.tmp 63) (.tmp 65) rfl (i : Nat) (LA.length : Nat) rfl rfl false (decide_eq_false (by omega))) ?_
        simp only [Act.put, List.setIfInBounds_toArray, List.set_cons_succ, List.set_cons_zero]
        refine wpList_nil ?_
        by_cases hb : i < LB.length
        · go_upto_region 20 with fail
          refine wp_region_lit ?_
          refine wl rfl (.int .i64 (i : Nat)) _ (run_mvZ (.tmp 13) rfl (.int .i64 (i : Nat)) rfl) ?_
          simp only [Act.put, List.setIfInBounds_toArray, List.set_cons_succ, List.set_cons_zero]
          refine wl rfl vb _ (run_mvZ (.tmp 1) rfl vb rfl) ?_
          simp only [Act.put, List.setIfInBounds_toArray, List.set_cons_succ, List.set_cons_zero]
          refine wl rfl (.int .i64 (LB.length : Nat)) _ (run_lenR HRB.out (.tmp 95) rfl rfl) ?_
          simp only [Act.put, List.setIfInBounds_toArray, List.set_cons_succ, List.set_cons_zero]
          refine wl rfl (.bool true) _ (run_lssZ (.tmp 94) (.tmp 96) rfl (i : Nat) (LB.length : Nat) rfl rfl true (decide_eq_true (by omega))) ?_
          simp only [Act.put, List.setIfInBounds_toArray, List.set_cons_succ, List.set_cons_zero]
          refine wpList_nil ?_
          obtain ⟨bb, jb, rb, hx1, hx2⟩ := ix_row HRB.out i hb
          obtain ⟨cb, hcb⟩ : ∃ c, c = LB.getD i [] := ⟨_, rfl⟩
          rw [← hcb] at hx2
          have HXb : Hid ((∀ w', (Instr.indexAt 41 vb (.int .i64 (i : Nat))).run Try.prog w' = .ok (.pointer (some ⟨bb, jb, none⟩)) w') ∧ ∀ W, Below w.heap.size w W → W.cell? ⟨bb, jb, none⟩ = some rb ∧ SliceIn W rb cb) := ⟨hx1, hx2⟩
          have HLb : Hid (cb.length ≤ 140737488355328) := by show _ ≤ _; rw [hcb]; exact HLB.out i
          have HCb : Hid (∀ c ∈ cb, c < 256) := (hx2 w (Below.refl _ w)).2.lt256
          clear hx1 hx2 hcb
          by_cases hsb : co.length + cb.length ≤ 512
          · go_upto_region 21 with fail
            refine wp_region_lit ?_
            refine wl rfl (ptr g) _ (run_mvZ (.tmp 6) rfl (ptr g) rfl) ?_
            simp only [Act.put, List.setIfInBounds_toArray, List.set_cons_succ, List.set_cons_zero]
            refine wl rfl (.int .i64 1) _ (run_mvZ (.tmp 9) rfl (.int .i64 1) rfl) ?_
            simp only [Act.put, List.setIfInBounds_toArray, List.set_cons_succ, List.set_cons_zero]
            refine wl rfl vb _ (run_mvZ (.tmp 1) rfl vb rfl) ?_
            simp only [Act.put, List.setIfInBounds_toArray, List.set_cons_succ, List.set_cons_zero]
            refine wl rfl (.int .i64 (i : Nat)) _ (run_mvZ (.tmp 13) rfl (.int .i64 (i : Nat)) rfl) ?_
            simp only [Act.put, List.setIfInBounds_toArray, List.set_cons_succ, List.set_cons_zero]
            refine wl rfl (.pointer (some ⟨bb, jb, none⟩)) _ (run_idx (.tmp 100) (.tmp 101) rfl vb _ _ rfl rfl HXb.out.1) ?_
            simp only [Act.put, List.setIfInBounds_toArray, List.set_cons_succ, List.set_cons_zero]
            refine wl rfl rb _ (run_load1 o28 (.tmp 102) rfl bb jb rfl rb (HXb.out.2 _ HA.out.sw.bel).1) ?_
            simp only [Act.put, List.setIfInBounds_toArray, List.set_cons_succ, List.set_cons_zero]
            refine wpList_callW eN12 [.tmp 98, .tmp 99, .tmp 103] _ rfl rfl [(ptr g), (.int .i64 1), rb] rfl ?_
            refine (SW.add HA.out.sw (1 : Int) (Wf.of (by decide)) rb cb (HXb.out.2 _ HA.out.sw.bel).2).mono ?_
            rintro e wrb ⟨Fb, rfl, s_, t_⟩
            refine ⟨_, rfl, ?_⟩
            have HEb : Hid (addP [(0, cw), (1, co)] (1 : Int) cb = (0, [(0, cw), (1, (co ++ cb))])) := by
              show _ = _
              rw [add_y cw co cb HA.out.five.1, if_pos hsb]
            rw [HEb.out] at s_ ⊢
            have HAb : Hid (AI w wrb g Fb u11 u12 cw (co ++ cb) cw co) := HA.out.turn t_ s_
            clear s_ t_ HEb
            simp only [Act.put, List.setIfInBounds_toArray, List.set_cons_succ, List.set_cons_zero]
            refine wl rfl (.int .i64 0) _ (run_asZ (.tmp 104) rfl (.int .i64 0) rfl) ?_
            simp only [Act.put, List.setIfInBounds_toArray, List.set_cons_succ, List.set_cons_zero]
            refine wpList_nil ?_
            go_upto_region 22 with fail
            refine wp_region_lit ?_
            refine wl rfl (.int .i64 0) _ (run_mvZ (.tmp 15) rfl (.int .i64 0) rfl) ?_
            simp only [Act.put, List.setIfInBounds_toArray, List.set_cons_succ, List.set_cons_zero]
            refine wl rfl (.bool true) _ (run_eqZ (.tmp 105) (.const (.int .i64 0)) rfl (0) (0) rfl rfl true rfl) ?_
            simp only [Act.put, List.setIfInBounds_toArray, List.set_cons_succ, List.set_cons_zero]
            refine wl rfl u12 _ (run_mvZ (.tmp 12) rfl u12 rfl) ?_
            simp only [Act.put, List.setIfInBounds_toArray, List.set_cons_succ, List.set_cons_zero]
            refine wl rfl (.int .i64 (co.length : Nat)) _ (run_lenB (HAb.out.oo.slice HAb.out.bo (by have := H5.out; omega)) (.tmp 107) rfl rfl) ?_
            simp only [Act.put, List.setIfInBounds_toArray, List.set_cons_succ, List.set_cons_zero]
            refine wl rfl vb _ (run_mvZ (.tmp 1) rfl vb rfl) ?_
            simp only [Act.put, List.setIfInBounds_toArray, List.set_cons_succ, List.set_cons_zero]
            refine wl rfl (.int .i64 (i : Nat)) _ (run_mvZ (.tmp 13) rfl (.int .i64 (i : Nat)) rfl) ?_
            simp only [Act.put, List.setIfInBounds_toArray, List.set_cons_succ, List.set_cons_zero]
            refine wl rfl (.pointer (some ⟨bb, jb, none⟩)) _ (run_idx (.tmp 109) (.tmp 110) rfl vb _ _ rfl rfl HXb.out.1) ?_
            simp only [Act.put, List.setIfInBounds_toArray, List.set_cons_succ, List.set_cons_zero]
            refine wl rfl rb _ (run_load1 o28 (.tmp 111) rfl bb jb rfl rb (HXb.out.2 _ HAb.out.sw.bel).1) ?_
            simp only [Act.put, List.setIfInBounds_toArray, List.set_cons_succ, List.set_cons_zero]
            refine wl rfl (.int .i64 (cb.length : Nat)) _ (run_lenB (HXb.out.2 _ HAb.out.sw.bel).2 (.tmp 112) rfl rfl) ?_
            simp only [Act.put, List.setIfInBounds_toArray, List.set_cons_succ, List.set_cons_zero]
            refine wl rfl (.int .i64 ((co.length + cb.length : Nat) : Int)) _ (run_addI (.tmp 108) (.tmp 113) rfl (co.length : Nat) (cb.length : Nat) ((co.length + cb.length : Nat) : Int) (by omega) (by have := H5.out; have := HLb.out; omega) (by omega) rfl rfl) ?_
            simp only [Act.put, List.setIfInBounds_toArray, List.set_cons_succ, List.set_cons_zero]
            refine wl rfl (.bool true) _ (run_leqZ (.tmp 114) (.const (.int .i64 512)) rfl ((co.length + cb.length : Nat) : Int) 512 rfl rfl true (decide_eq_true (by omega))) ?_
            simp only [Act.put, List.setIfInBounds_toArray, List.set_cons_succ, List.set_cons_zero]
            refine wl rfl (.bool false) _ (run_neB (.tmp 106) (.tmp 115) rfl true true rfl rfl false rfl) ?_
            simp only [Act.put, List.setIfInBounds_toArray, List.set_cons_succ, List.set_cons_zero]
            refine wpList_nil ?_
            go_upto_region 24 with fail
            refine wp_region_lit ?_
            refine wl rfl (.int .i64 0) _ (run_mvZ (.tmp 15) rfl (.int .i64 0) rfl) ?_
            simp only [Act.put, List.setIfInBounds_toArray, List.set_cons_succ, List.set_cons_zero]
            refine wl rfl (.bool true) _ (run_eqZ (.tmp 117) (.const (.int .i64 0)) rfl (0) (0) rfl rfl true rfl) ?_
            simp only [Act.put, List.setIfInBounds_toArray, List.set_cons_succ, List.set_cons_zero]
            refine wpList_nil ?_
            go_upto_region 25 with fail
            refine wp_region_lit ?_
            refine wl rfl u12 _ (run_mvZ (.tmp 12) rfl u12 rfl) ?_
            simp only [Act.put, List.setIfInBounds_toArray, List.set_cons_succ, List.set_cons_zero]
            refine wl rfl vb _ (run_mvZ (.tmp 1) rfl vb rfl) ?_
            simp only [Act.put, List.setIfInBounds_toArray, List.set_cons_succ, List.set_cons_zero]
            refine wl rfl (.int .i64 (i : Nat)) _ (run_mvZ (.tmp 13) rfl (.int .i64 (i : Nat)) rfl) ?_
            simp only [Act.put, List.setIfInBounds_toArray, List.set_cons_succ, List.set_cons_zero]
            refine wl rfl (.pointer (some ⟨bb, jb, none⟩)) _ (run_idx (.tmp 120) (.tmp 121) rfl vb _ _ rfl rfl HXb.out.1) ?_
            simp only [Act.put, List.setIfInBounds_toArray, List.set_cons_succ, List.set_cons_zero]
            refine wl rfl rb _ (run_load1 o28 (.tmp 122) rfl bb jb rfl rb (HXb.out.2 _ HAb.out.sw.bel).1) ?_
            simp only [Act.put, List.setIfInBounds_toArray, List.set_cons_succ, List.set_cons_zero]
            obtain ⟨u12b, wrbg, hr_, ho_, hg_, hat_⟩ := run_bappAt (Oper.type _) u12 rb co cb HAb.out.oo (HXb.out.2 _ HAb.out.sw.bel).2 (by have := H5.out; have := HLb.out; omega)
            refine wl rfl u12b wrbg (run_append (.tmp 119) (.tmp 123) rfl u12 rb u12b rfl rfl hr_) ?_
            have HAbg : Hid (AI w wrbg g Fb u11 u12b cw (co ++ cb) cw (co ++ cb)) := HAb.out.growO hg_ ho_ hat_ HCb.out
            clear hr_ ho_ hg_ hat_ HAb
            simp only [Act.put, List.setIfInBounds_toArray, List.set_cons_succ, List.set_cons_zero]
            refine wl rfl u12b _ (run_asZ (.tmp 124) rfl u12b rfl) ?_
            simp only [Act.put, List.setIfInBounds_toArray, List.set_cons_succ, List.set_cons_zero]
            refine wpList_nil ?_
            clear hsb
            go_wp2_with fail
            refine ⟨⟨i + 1, by go_num, by omega, _, _, _, HAbg.out⟩, ?_⟩
            simp [intOf]; omega
          · go_upto_region 21 with fail
            refine wp_region_lit ?_
            refine wl rfl (ptr g) _ (run_mvZ (.tmp 6) rfl (ptr g) rfl) ?_
            simp only [Act.put, List.setIfInBounds_toArray, List.set_cons_succ, List.set_cons_zero]
            refine wl rfl (.int .i64 1) _ (run_mvZ (.tmp 9) rfl (.int .i64 1) rfl) ?_
            simp only [Act.put, List.setIfInBounds_toArray, List.set_cons_succ, List.set_cons_zero]
            refine wl rfl vb _ (run_mvZ (.tmp 1) rfl vb rfl) ?_
            simp only [Act.put, List.setIfInBounds_toArray, List.set_cons_succ, List.set_cons_zero]
            refine wl rfl (.int .i64 (i : Nat)) _ (run_mvZ (.tmp 13) rfl (.int .i64 (i : Nat)) rfl) ?_
            simp only [Act.put, List.setIfInBounds_toArray, List.set_cons_succ, List.set_cons_zero]
            refine wl rfl (.pointer (some ⟨bb, jb, none⟩)) _ (run_idx (.tmp 100) (.tmp 101) rfl vb _ _ rfl rfl HXb.out.1) ?_
            simp only [Act.put, List.setIfInBounds_toArray, List.set_cons_succ, List.set_cons_zero]
            refine wl rfl rb _ (run_load1 o28 (.tmp 102) rfl bb jb rfl rb (HXb.out.2 _ HA.out.sw.bel).1) ?_
            simp only [Act.put, List.setIfInBounds_toArray, List.set_cons_succ, List.set_cons_zero]
            refine wpList_callW eN12 [.tmp 98, .tmp 99, .tmp 103] _ rfl rfl [(ptr g), (.int .i64 1), rb] rfl ?_
            refine (SW.add HA.out.sw (1 : Int) (Wf.of (by decide)) rb cb (HXb.out.2 _ HA.out.sw.bel).2).mono ?_
            rintro e wrb ⟨Fb, rfl, s_, t_⟩
            refine ⟨_, rfl, ?_⟩
            have HEb : Hid (addP [(0, cw), (1, co)] (1 : Int) cb = (5, [(0, cw), (1, co)])) := by
              show _ = _
              rw [add_y cw co cb HA.out.five.1, if_neg hsb]
            rw [HEb.out] at s_ ⊢
            have HAb : Hid (AI w wrb g Fb u11 u12 cw co cw co) := HA.out.turn t_ s_
            clear s_ t_ HEb
            simp only [Act.put, List.setIfInBounds_toArray, List.set_cons_succ, List.set_cons_zero]
            refine wl rfl (.int .i64 5) _ (run_asZ (.tmp 104) rfl (.int .i64 5) rfl) ?_
            simp only [Act.put, List.setIfInBounds_toArray, List.set_cons_succ, List.set_cons_zero]
            refine wpList_nil ?_
            go_upto_region 22 with fail
            refine wp_region_lit ?_
            refine wl rfl (.int .i64 5) _ (run_mvZ (.tmp 15) rfl (.int .i64 5) rfl) ?_
            simp only [Act.put, List.setIfInBounds_toArray, List.set_cons_succ, List.set_cons_zero]
            refine wl rfl (.bool false) _ (run_eqZ (.tmp 105) (.const (.int .i64 0)) rfl (5) (0) rfl rfl false rfl) ?_
            simp only [Act.put, List.setIfInBounds_toArray, List.set_cons_succ, List.set_cons_zero]
            refine wl rfl u12 _ (run_mvZ (.tmp 12) rfl u12 rfl) ?_
            simp only [Act.put, List.setIfInBounds_toArray, List.set_cons_succ, List.set_cons_zero]
            refine wl rfl (.int .i64 (co.length : Nat)) _ (run_lenB (HAb.out.oo.slice HAb.out.bo (by have := H5.out; omega)) (.tmp 107) rfl rfl) ?_
            simp only [Act.put, List.setIfInBounds_toArray, List.set_cons_succ, List.set_cons_zero]
            refine wl rfl vb _ (run_mvZ (.tmp 1) rfl vb rfl) ?_
            simp only [Act.put, List.setIfInBounds_toArray, List.set_cons_succ, List.set_cons_zero]
            refine wl rfl (.int .i64 (i : Nat)) _ (run_mvZ (.tmp 13) rfl (.int .i64 (i : Nat)) rfl) ?_
            simp only [Act.put, List.setIfInBounds_toArray, List.set_cons_succ, List.set_cons_zero]
            refine wl rfl (.pointer (some ⟨bb, jb, none⟩)) _ (run_idx (.tmp 109) (.tmp 110) rfl vb _ _ rfl rfl HXb.out.1) ?_
            simp only [Act.put, List.setIfInBounds_toArray, List.set_cons_succ, List.set_cons_zero]
            refine wl rfl rb _ (run_load1 o28 (.tmp 111) rfl bb jb rfl rb (HXb.out.2 _ HAb.out.sw.bel).1) ?_
            simp only [Act.put, List.setIfInBounds_toArray, List.set_cons_succ, List.set_cons_zero]
            refine wl rfl (.int .i64 (cb.length : Nat)) _ (run_lenB (HXb.out.2 _ HAb.out.sw.bel).2 (.tmp 112) rfl rfl) ?_
            simp only [Act.put, List.setIfInBounds_toArray, List.set_cons_succ, List.set_cons_zero]
            refine wl rfl (.int .i64 ((co.length + cb.length : Nat) : Int)) _ (run_addI (.tmp 108) (.tmp 113) rfl (co.length : Nat) (cb.length : Nat) ((co.length + cb.length : Nat) : Int) (by omega) (by have := H5.out; have := HLb.out; omega) (by omega) rfl rfl) ?_
            simp only [Act.put, List.setIfInBounds_toArray, List.set_cons_succ, List.set_cons_zero]
            refine wl rfl (.bool false) _ (run_leqZ (.tmp 114) (.const (.int .i64 512)) rfl ((co.length + cb.length : Nat) : Int) 512 rfl rfl false (decide_eq_false (by omega))) ?_
            simp only [Act.put, List.setIfInBounds_toArray, List.set_cons_succ, List.set_cons_zero]
            refine wl rfl (.bool false) _ (run_neB (.tmp 106) (.tmp 115) rfl false false rfl rfl false rfl) ?_
            simp only [Act.put, List.setIfInBounds_toArray, List.set_cons_succ, List.set_cons_zero]
            refine wpList_nil ?_
            go_upto_region 24 with fail
            refine wp_region_lit ?_
            refine wl rfl (.int .i64 5) _ (run_mvZ (.tmp 15) rfl (.int .i64 5) rfl) ?_
            simp only [Act.put, List.setIfInBounds_toArray, List.set_cons_succ, List.set_cons_zero]
            refine wl rfl (.bool false) _ (run_eqZ (.tmp 117) (.const (.int .i64 0)) rfl (5) (0) rfl rfl false rfl) ?_
            simp only [Act.put, List.setIfInBounds_toArray, List.set_cons_succ, List.set_cons_zero]
            refine wpList_nil ?_
            clear hsb
            go_wp2_with fail
            refine ⟨⟨i + 1, by go_num, by omega, _, _, _, HAb.out⟩, ?_⟩
            simp [intOf]; omega
        · go_upto_region 20 with fail
          refine wp_region_lit ?_
          refine wl rfl (.int .i64 (i : Nat)) _ (run_mvZ (.tmp 13) rfl (.int .i64 (i : Nat)) rfl) ?_
          simp only [Act.put, List.setIfInBounds_toArray, List.set_cons_succ, List.set_cons_zero]
          refine wl rfl vb _ (run_mvZ (.tmp 1) rfl vb rfl) ?_
          simp only [Act.put, List.setIfInBounds_toArray, List.set_cons_succ, List.set_cons_zero]
          refine wl rfl (.int .i64 (LB.length : Nat)) _ (run_lenR HRB.out (.tmp 95) rfl rfl) ?_
          simp only [Act.put, List.setIfInBounds_toArray, List.set_cons_succ, List.set_cons_zero]
          refine wl rfl (.bool false) _ (run_lssZ (.tmp 94) (.tmp 96) rfl (i : Nat) (LB.length : Nat) rfl rfl false (decide_eq_false (by omega))) ?_
          simp only [Act.put, List.setIfInBounds_toArray, List.set_cons_succ, List.set_cons_zero]
          refine wpList_nil ?_
          go_wp2_with fail
          refine ⟨⟨i + 1, by go_num, by omega, _, _, _, HA.out⟩, ?_⟩
          simp [intOf]; omega
    · go_upto_region 12 with fail
      refine wp_region_lit ?_
      refine wl rfl (.int .i64 (i : Nat)) _ (run_mvZ (.tmp 13) rfl (.int .i64 (i : Nat)) rfl) ?_
      simp only [Act.put, List.setIfInBounds_toArray, List.set_cons_succ, List.set_cons_zero]
      refine wl rfl va _ (run_mvZ (.tmp 0) rfl va rfl) ?_
      simp only [Act.put, List.setIfInBounds_toArray, List.set_cons_succ, List.set_cons_zero]
      refine wl rfl (.int .i64 (LA.length : Nat)) _ (run_lenR HRA.out (.tmp 52) rfl rfl) ?_
      simp only [Act.put, List.setIfInBounds_toArray, List.set_cons_succ, List.set_cons_zero]
      refine wl rfl (.bool false) _ (run_lssZ (.tmp 51) (.tmp 53) rfl (i : Nat) (LA.length : Nat) rfl rfl false (decide_eq_false (by omega))) ?_
      simp only [Act.put, List.setIfInBounds_toArray, List.set_cons_succ, List.set_cons_zero]
      refine wl rfl (.bool false) _ (run_mvZ (.tmp 54) rfl (.bool false) rfl) ?_
      simp only [Act.put, List.setIfInBounds_toArray, List.set_cons_succ, List.set_cons_zero]
      refine wl (by kernel_rfl) (.int .i64 (i : Nat)) _ (run_mvZ (.tmp 13) rfl (.int .i64 (i : Nat)) rfl) ?_
      simp only [Act.put, List.setIfInBounds_toArray, List.set_cons_succ, List.set_cons_zero]
      refine wl (by kernel_rfl) vb _ (run_mvZ (.tmp 1) rfl vb rfl) ?_
      simp only [Act.put, List.setIfInBounds_toArray, List.set_cons_succ, List.set_cons_zero]
      refine wl (by kernel_rfl) (.int .i64 (LB.length : Nat)) _ (run_lenR HRB.out (.tmp 57) rfl rfl) ?_
      simp only [Act.put, List.setIfInBounds_toArray, List.set_cons_succ, List.set_cons_zero]
      refine wl (by kernel_rfl) (.bool false) _ (run_lssZ (.tmp 56) (.tmp 58) rfl (i : Nat) (LB.length : Nat) rfl rfl false (decide_eq_false (by omega))) ?_
      simp only [Act.put, List.setIfInBounds_toArray, List.set_cons_succ, List.set_cons_zero]
      refine wl rfl (.bool false) _ (run_pickZ (.tmp 55) (.const (.bool true)) (.tmp 59) rfl false (.bool false) rfl rfl) ?_
      simp only [Act.put, List.setIfInBounds_toArray, List.set_cons_succ, List.set_cons_zero]
      refine wpList_nil ?_
      go_upto_region 26 with fail
      refine wp_region_lit ?_
      refine wl rfl (ptr g) _ (run_mvZ (.tmp 6) rfl (ptr g) rfl) ?_
      simp only [Act.put, List.setIfInBounds_toArray, List.set_cons_succ, List.set_cons_zero]
      refine wl rfl (.int .i64 1) _ (run_mvZ (.tmp 9) rfl (.int .i64 1) rfl) ?_
      simp only [Act.put, List.setIfInBounds_toArray, List.set_cons_succ, List.set_cons_zero]
      refine wpList_callW eN14 [.tmp 126, .tmp 127] _ rfl rfl [(ptr g), (.int .i64 1)] rfl ?_
      refine (SW.take HA.out.sw (1 : Int) (Wf.of (by decide))).mono ?_
      rintro e w7 ⟨F7, vp, rfl, s7, t7, o7, i7, d7⟩
      refine ⟨_, rfl, ?_⟩
      have H7 : Hid (SW w w7 F7 g 2 [(0, cw)] ∧ (BOwn w7 0 u11 cw ∧ ∀ k, u11.ownBlock = some k → ¬ F7 k ∧ w.heap.size ≤ k) ∧ (BOwn w7 0 u12 co ∧ ∀ k, u12.ownBlock = some k → ¬ F7 k ∧ w.heap.size ≤ k) ∧ (BOwn w7 0 vp co ∧ ∀ k, vp.ownBlock = some k → ¬ F7 k ∧ w.heap.size ≤ k)) := ⟨s7, keepO HA.out.ow HA.out.fw t7, keepO HA.out.oo HA.out.fo t7, o7, fun k e => ⟨(d7 k e).2, HA.out.sw.ge k (d7 k e).1⟩⟩
      clear s7 t7 o7 i7 d7
      simp only [Act.put, List.setIfInBounds_toArray, List.set_cons_succ, List.set_cons_zero]
      refine wl rfl (.tuple #[vp, (.int .i64 0)]) _ (run_mvZ (.tmp 128) rfl (.tuple #[vp, (.int .i64 0)]) rfl) ?_
      simp only [Act.put, List.setIfInBounds_toArray, List.set_cons_succ, List.set_cons_zero]
      refine wl rfl vp _ (run_extZ (.tmp 125) 0 rfl #[vp, (.int .i64 0)] rfl vp rfl) ?_
      simp only [Act.put, List.setIfInBounds_toArray, List.set_cons_succ, List.set_cons_zero]
      refine wl rfl (.int .i64 0) _ (run_extZ (.tmp 125) 1 rfl #[vp, (.int .i64 0)] rfl (.int .i64 0) rfl) ?_
      simp only [Act.put, List.setIfInBounds_toArray, List.set_cons_succ, List.set_cons_zero]
      refine wl rfl vp _ (run_asZ (.tmp 129) rfl vp rfl) ?_
      simp only [Act.put, List.setIfInBounds_toArray, List.set_cons_succ, List.set_cons_zero]
      refine wl rfl (.int .i64 0) _ (run_asZ (.tmp 130) rfl (.int .i64 0) rfl) ?_
      simp only [Act.put, List.setIfInBounds_toArray, List.set_cons_succ, List.set_cons_zero]
      refine wpList_nil ?_
      go_upto_region 27 with fail
      refine wp_region_lit ?_
      refine wl rfl (ptr g) _ (run_mvZ (.tmp 6) rfl (ptr g) rfl) ?_
      simp only [Act.put, List.setIfInBounds_toArray, List.set_cons_succ, List.set_cons_zero]
      refine wl rfl (.int .i64 0) _ (run_mvZ (.tmp 7) rfl (.int .i64 0) rfl) ?_
      simp only [Act.put, List.setIfInBounds_toArray, List.set_cons_succ, List.set_cons_zero]
      refine wpList_callW eN14 [.tmp 132, .tmp 133] _ rfl rfl [(ptr g), (.int .i64 0)] rfl ?_
      refine (SW.take H7.out.1 (0 : Int) (Wf.of (by decide))).mono ?_
      rintro e w8 ⟨F8, vq, rfl, s8, t8, o8, i8, d8⟩
      refine ⟨_, rfl, ?_⟩
      have H8 : Hid (SW w w8 F8 g 2 [] ∧ SliceIn w8 u11 cw ∧ SliceIn w8 u12 co ∧ SliceIn w8 vp co ∧ SliceIn w8 vq cw) := ⟨s8, (keepO H7.out.2.1.1 H7.out.2.1.2 t8).1.slice HA.out.bw (by have := H5.out; omega), (keepO H7.out.2.2.1.1 H7.out.2.2.1.2 t8).1.slice HA.out.bo (by have := H5.out; omega), (keepO H7.out.2.2.2.1 H7.out.2.2.2.2 t8).1.slice HA.out.bo (by have := H5.out; omega), i8⟩
      clear s8 t8 o8 i8 d8 H7
      simp only [Act.put, List.setIfInBounds_toArray, List.set_cons_succ, List.set_cons_zero]
      refine wl rfl (.tuple #[vq, (.int .i64 0)]) _ (run_mvZ (.tmp 134) rfl (.tuple #[vq, (.int .i64 0)]) rfl) ?_
      simp only [Act.put, List.setIfInBounds_toArray, List.set_cons_succ, List.set_cons_zero]
      refine wl rfl vq _ (run_extZ (.tmp 131) 0 rfl #[vq, (.int .i64 0)] rfl vq rfl) ?_
      simp only [Act.put, List.setIfInBounds_toArray, List.set_cons_succ, List.set_cons_zero]
      refine wl rfl (.int .i64 0) _ (run_extZ (.tmp 131) 1 rfl #[vq, (.int .i64 0)] rfl (.int .i64 0) rfl) ?_
      simp only [Act.put, List.setIfInBounds_toArray, List.set_cons_succ, List.set_cons_zero]
      refine wl rfl vq _ (run_asZ (.tmp 135) rfl vq rfl) ?_
      simp only [Act.put, List.setIfInBounds_toArray, List.set_cons_succ, List.set_cons_zero]
      refine wl rfl (.int .i64 0) _ (run_asZ (.tmp 136) rfl (.int .i64 0) rfl) ?_
      simp only [Act.put, List.setIfInBounds_toArray, List.set_cons_succ, List.set_cons_zero]
      refine wpList_nil ?_
      go_upto_region 28 with fail
      refine wp_region_lit ?_
      refine wl rfl (.int .i64 0) _ (run_mvZ (.tmp 17) rfl (.int .i64 0) rfl) ?_
      simp only [Act.put, List.setIfInBounds_toArray, List.set_cons_succ, List.set_cons_zero]
      refine wl rfl (.bool true) _ (run_eqZ (.tmp 137) (.const (.int .i64 0)) rfl (0) (0) rfl rfl true rfl) ?_
      simp only [Act.put, List.setIfInBounds_toArray, List.set_cons_succ, List.set_cons_zero]
      refine wl rfl (.bool true) _ (run_mvZ (.tmp 138) rfl (.bool true) rfl) ?_
      simp only [Act.put, List.setIfInBounds_toArray, List.set_cons_succ, List.set_cons_zero]
      refine wl (by kernel_rfl) (.int .i64 0) _ (run_mvZ (.tmp 19) rfl (.int .i64 0) rfl) ?_
      simp only [Act.put, List.setIfInBounds_toArray, List.set_cons_succ, List.set_cons_zero]
      refine wl (by kernel_rfl) (.bool true) _ (run_eqZ (.tmp 140) (.const (.int .i64 0)) rfl (0) (0) rfl rfl true rfl) ?_
      simp only [Act.put, List.setIfInBounds_toArray, List.set_cons_succ, List.set_cons_zero]
      refine wl rfl (.bool true) _ (run_pickZ (.tmp 139) (.tmp 141) (.const (.bool false)) rfl true (.bool true) rfl rfl) ?_
      simp only [Act.put, List.setIfInBounds_toArray, List.set_cons_succ, List.set_cons_zero]
      refine wl rfl (.bool true) _ (run_mvZ (.tmp 142) rfl (.bool true) rfl) ?_
      simp only [Act.put, List.setIfInBounds_toArray, List.set_cons_succ, List.set_cons_zero]
      refine wl (by kernel_rfl) vp _ (run_mvZ (.tmp 16) rfl vp rfl) ?_
      simp only [Act.put, List.setIfInBounds_toArray, List.set_cons_succ, List.set_cons_zero]
      refine wl (by kernel_rfl) (.string (strOfNums (co.map Int.ofNat))) _ (run_str (.tmp 144) rfl vp co rfl H8.out.2.2.2.1) ?_
      simp only [Act.put, List.setIfInBounds_toArray, List.set_cons_succ, List.set_cons_zero]
      refine wl (by kernel_rfl) u12 _ (run_mvZ (.tmp 12) rfl u12 rfl) ?_
      simp only [Act.put, List.setIfInBounds_toArray, List.set_cons_succ, List.set_cons_zero]
      refine wl (by kernel_rfl) (.string (strOfNums (co.map Int.ofNat))) _ (run_str (.tmp 146) rfl u12 co rfl H8.out.2.2.1) ?_
      simp only [Act.put, List.setIfInBounds_toArray, List.set_cons_succ, List.set_cons_zero]
      refine wl (by kernel_rfl) (.bool true) _ (run_eqS (.tmp 145) (.tmp 147) rfl (strOfNums (co.map Int.ofNat)) (strOfNums (co.map Int.ofNat)) rfl rfl rfl) ?_
      simp only [Act.put, List.setIfInBounds_toArray, List.set_cons_succ, List.set_cons_zero]
      refine wl rfl (.bool true) _ (run_pickZ (.tmp 143) (.tmp 148) (.const (.bool false)) rfl true (.bool true) rfl rfl) ?_
      simp only [Act.put, List.setIfInBounds_toArray, List.set_cons_succ, List.set_cons_zero]
      refine wl rfl (.bool true) _ (run_mvZ (.tmp 149) rfl (.bool true) rfl) ?_
      simp only [Act.put, List.setIfInBounds_toArray, List.set_cons_succ, List.set_cons_zero]
      refine wl (by kernel_rfl) vq _ (run_mvZ (.tmp 18) rfl vq rfl) ?_
      simp only [Act.put, List.setIfInBounds_toArray, List.set_cons_succ, List.set_cons_zero]
      refine wl (by kernel_rfl) (.string (strOfNums (cw.map Int.ofNat))) _ (run_str (.tmp 151) rfl vq cw rfl H8.out.2.2.2.2) ?_
      simp only [Act.put, List.setIfInBounds_toArray, List.set_cons_succ, List.set_cons_zero]
      refine wl (by kernel_rfl) u11 _ (run_mvZ (.tmp 11) rfl u11 rfl) ?_
      simp only [Act.put, List.setIfInBounds_toArray, List.set_cons_succ, List.set_cons_zero]
      refine wl (by kernel_rfl) (.string (strOfNums (cw.map Int.ofNat))) _ (run_str (.tmp 153) rfl u11 cw rfl H8.out.2.1) ?_
      simp only [Act.put, List.setIfInBounds_toArray, List.set_cons_succ, List.set_cons_zero]
      refine wl (by kernel_rfl) (.bool true) _ (run_eqS (.tmp 152) (.tmp 154) rfl (strOfNums (cw.map Int.ofNat)) (strOfNums (cw.map Int.ofNat)) rfl rfl rfl) ?_
      simp only [Act.put, List.setIfInBounds_toArray, List.set_cons_succ, List.set_cons_zero]
      refine wl rfl (.bool true) _ (run_pickZ (.tmp 150) (.tmp 155) (.const (.bool false)) rfl true (.bool true) rfl rfl) ?_
      simp only [Act.put, List.setIfInBounds_toArray, List.set_cons_succ, List.set_cons_zero]
      refine wl rfl (.bool true) _ (run_mvZ (.tmp 156) rfl (.bool true) rfl) ?_
      simp only [Act.put, List.setIfInBounds_toArray, List.set_cons_succ, List.set_cons_zero]
      refine wl (by kernel_rfl) (ptr g) _ (run_mvZ (.tmp 6) rfl (ptr g) rfl) ?_
      simp only [Act.put, List.setIfInBounds_toArray, List.set_cons_succ, List.set_cons_zero]
      refine wpList_callW eN18 [.tmp 158] _ (by kernel_rfl) rfl [(ptr g)] rfl ?_
      refine (SW.count H8.out.1).mono ?_
      rintro e w9 ⟨rfl, e9⟩
      refine ⟨_, rfl, ?_⟩
      subst e9
      simp only [Act.put, List.setIfInBounds_toArray, List.set_cons_succ, List.set_cons_zero]
      refine wl (by kernel_rfl) (.bool true) _ (run_eqZ (.tmp 159) (.const (.int .i64 0)) rfl ((0 : Nat) : Int) 0 rfl rfl true rfl) ?_
      simp only [Act.put, List.setIfInBounds_toArray, List.set_cons_succ, List.set_cons_zero]
      refine wl rfl (.bool true) _ (run_pickZ (.tmp 157) (.tmp 160) (.const (.bool false)) rfl true (.bool true) rfl rfl) ?_
      simp only [Act.put, List.setIfInBounds_toArray, List.set_cons_succ, List.set_cons_zero]
      refine wl rfl (.bool true) _ (run_asZ (.tmp 161) rfl (.bool true) rfl) ?_
      simp only [Act.put, List.setIfInBounds_toArray, List.set_cons_succ, List.set_cons_zero]
      refine wpList_nil ?_
      go_wp2_with fail
      rw [HPQ.out]
      exact ⟨rfl, H8.out.1.bel⟩

end Go.Proofs.Ytcjanjofjnedbaa

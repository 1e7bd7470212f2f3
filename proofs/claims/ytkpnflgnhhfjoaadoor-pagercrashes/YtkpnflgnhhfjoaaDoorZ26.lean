/- Layer 9: a pager in memory. Layer 9: Format and Open. -/
import Derived.Test.YtkpnflgnhhfjoaaDoorZ25
namespace Go.Proofs.YtkpnflgnhhfjoaaDoor
open Go.RowKit Go.Maps
open Fr.Frame (be val)

/-- a pager's own cells -/
def pgCells (g i n : Nat) (L : Hd) (U : List Nat) : List Value := ptr g :: .int .i64 (i : Nat) :: .int .i64 (n : Nat) :: (hdCells L ++ bcells U)
theorem pgCells_length {g i n : Nat} {L : Hd} {U : List Nat} (h : L.WF) (hu : USet U) : (pgCells g i n L U).length = 101 := by
  simp [pgCells, hd50 h, bcells_length, hu.1]
theorem pg_head {g i n : Nat} {L : Hd} {U : List Nat} (j : Nat) (v : Value) (hv : (hdCells L)[j]? = some v) : (pgCells g i n L U)[3 + j]? = some v := by
  have hj := (List.getElem?_eq_some_iff.1 hv).1
  have e : 3 + j = j + 1 + 1 + 1 := by omega
  rw [e]
  show (hdCells L ++ bcells U)[j]? = some v
  rw [List.getElem?_append_left hj]
  exact hv
theorem pg_used {g i n : Nat} {L : Hd} {U : List Nat} (h : L.WF) (j : Nat) (v : Value) (hv : (bcells U)[j]? = some v) : (pgCells g i n L U)[53 + j]? = some v := by
  have e : 53 + j = (50 + j) + 1 + 1 + 1 := by omega
  rw [e]
  show (hdCells L ++ bcells U)[50 + j]? = some v
  rw [List.getElem?_append_right (by rw [hd50 h]; omega), hd50 h, Nat.add_sub_cancel_left]
  exact hv
theorem pg_setU {g i n : Nat} {L : Hd} {U V : List Nat} (h : L.WF) (hu : USet U) (hv : USet V) : splice (pgCells g i n L U) 53 (bcells V) = pgCells g i n L V := by
  have e : splice (pgCells g i n L U) 53 (bcells V) = ptr g :: .int .i64 (i : Nat) :: .int .i64 (n : Nat) :: splice (hdCells L ++ bcells U) 50 (bcells V) := by
    simp [splice, pgCells]
    rw [show 53 + (bcells V).length = (50 + (bcells V).length) + 1 + 1 + 1 by omega]
    rfl
  rw [e]
  unfold pgCells
  congr 3
  simp [splice, hd50 h, bcells_length, hu.1, hv.1]
theorem pg_setL {g i n : Nat} {L L2 : Hd} {U : List Nat} (h : L.WF) (h2 : L2.WF) : splice (pgCells g i n L U) 3 (hdCells L2) = pgCells g i n L2 U := by
  have e : splice (pgCells g i n L U) 3 (hdCells L2) = ptr g :: .int .i64 (i : Nat) :: .int .i64 (n : Nat) :: splice (hdCells L ++ bcells U) 0 (hdCells L2) := by
    simp [splice, pgCells]
    rw [show 3 + (hdCells L2).length = (hdCells L2).length + 1 + 1 + 1 by omega]
    rfl
  rw [e]
  unfold pgCells
  congr 3
  simp [splice, hd50 h, hd50 h2]
def pgZero : List Value := .pointer none :: .int .i64 0 :: .int .i64 0 :: (hdCells zHd ++ zerosU8 48)
theorem run_build86 (w : World) (g i n : Nat) (L : Hd) (U : List Nat) (h : L.WF) (hu : USet U) : (Instr.build 86 #[(0, ptr g), (1, .int .i64 (i : Nat)), (2, .int .i64 (n : Nat)), (3, .agg (hdCells L).toArray), (4, .agg (bcells U).toArray)]).run Tryd.prog w = .ok (.agg (pgCells g i n L U).toArray) w := by
  have hl := hd50 h
  have hul : (bcells U).length = 48 := by rw [bcells_length]; exact hu.1
  have hz : (zeroValue 86).run Tryd.prog w = .ok (.agg pgZero.toArray) w := by kernel_rfl
  have hf : Instr.fill (fun i => #[(0, 1), (1, 1), (2, 1), (3, 50), (53, 48)][i]?) pgZero.toArray [(0, ptr g), (1, .int .i64 (i : Nat)), (2, .int .i64 (n : Nat)), (3, .agg (hdCells L).toArray), (4, .agg (bcells U).toArray)] = some (pgCells g i n L U).toArray := by
    rw [fill_step _ _ 0 (ptr g) _ 0 1 [ptr g] rfl rfl rfl (by simp [pgZero]), fill_step _ _ 1 (.int .i64 (i : Nat)) _ 1 1 [.int .i64 (i : Nat)] rfl rfl rfl (by simp [splice, pgZero]), fill_step _ _ 2 (.int .i64 (n : Nat)) _ 2 1 [.int .i64 (n : Nat)] rfl rfl rfl (by simp [splice, pgZero]), fill_step _ _ 3 (.agg (hdCells L).toArray) _ 3 50 (hdCells L) rfl rfl hl (by simp [splice, pgZero, zHd_len, hl]), fill_step _ _ 4 (.agg (bcells U).toArray) _ 53 48 (bcells U) rfl rfl hul (by simp [splice, pgZero, zHd_len, hl, hul, zerosU8])]
    simp [splice, pgZero, zHd_len, hl, hul, zerosU8, Instr.fill, pgCells]
  simp [Instr.build, hz, run_underlying Tryd.underlying86, Value.cells]
  simp at hf
  rw [hf]
  rfl
theorem run_build86Op {w : World} {a : Act} {o : Oper} (x0 x1 x2 x3 x4 : Operand) (ho : o.op = .build 86 #[(0, x0), (1, x1), (2, x2), (3, x3), (4, x4)]) (g i n : Nat) (L : Hd) (U : List Nat) (h : L.WF) (hu : USet U) (h0 : a.eval x0 = ptr g) (h1 : a.eval x1 = .int .i64 (i : Nat)) (h2 : a.eval x2 = .int .i64 (n : Nat)) (h3 : a.eval x3 = .agg (hdCells L).toArray) (h4 : a.eval x4 = .agg (bcells U).toArray) : (execOp a.eval o).run Tryd.prog w = .ok (.value (.agg (pgCells g i n L U).toArray)) w := by
  simp only [execOp, ho, List.map_toArray, List.map_cons, List.map_nil, h0, h1, h2, h3, h4, run_build86 w g i n L U h hu, Sem.run_bind, Sem.run_pure, Result.andThen_ok]
theorem hd_used {H : Hd} (j : Nat) (v : Value) (hv : (bcells H.used)[j]? = some v) : (hdCells H)[2 + j]? = some v := by
  rw [Nat.add_comm]
  exact hv
end Go.Proofs.YtkpnflgnhhfjoaaDoor

namespace Go.Proofs.YtkpnflgnhhfjoaaDoor
open Go.RowKit Go.Maps
open Fr.Frame (be val)

theorem eN11 : EntersF 11 := Go.Proofs.enters_of Tryd.func11 (by kernel_rfl) rfl
theorem eN13 : EntersF 13 := Go.Proofs.enters_of Tryd.func13 (by kernel_rfl) rfl
noncomputable def Pl.formatP (m : Pl) (i n : Nat) : Int × Pl := match lastOf (m.rd i) n with
  | some L => m.lay (i : Int) (nextNum L.num % 2) [hdSec (noHd (nextNum L.num))]
  | none => m.layFirst i
theorem pagesD_at {ds : List Nat} {i n : Nat} (hi : i < ds.length) (hn : n = pagesN (ds.getD i 0)) : pagesD ds (i : Int) = n := by
  unfold pagesD
  rw [if_pos ⟨by omega, by omega⟩, Int.toNat_natCast, hn]
set_option maxHeartbeats 8000000 in
set_option maxRecDepth 100000 in
/-- where there can be no pager -/
theorem formatNo_any {w : World} {c : Nat → Colour} {t g : Nat} {m : Pl} (h : Live w c t g m) {ds ts : List Nat} (hsh : ShapeOf m ds ts) (d : Int) (hd : pagesD ds d = 0) : Calls Tryd.prog 11 #[ptr g, .int .i64 d] w fun e w' => e = .returned (.int .i64 1) ∧ Below w.heap.size w w' := by
  have HP : Hid (Calls Tryd.prog 37 #[ptr g, .int .i64 d] w fun e w' => e = .returned (.int .i64 0) ∧ Below w.heap.size w w') := by
    have h1 := pagesOf_any h hsh d
    rw [hd] at h1
    exact h1
  obtain ⟨PQ, hPQ⟩ : ∃ PQ : Ending → World → Prop, PQ = fun (e : Ending) (w' : World) => e = .returned (.int .i64 1) ∧ Below w.heap.size w w' := ⟨_, rfl⟩
  have HPQ : Hid (PQ = fun (e : Ending) (w' : World) => e = .returned (.int .i64 1) ∧ Below w.heap.size w w') := hPQ
  rw [← hPQ]
  clear hPQ h hd hsh
  go_enter Tryd.func11, Tryd.ntmps11
  go_upto_region 0 with fail
  refine wp_region_lit ?_
  refine wl rfl (.int .i64 0) _ (run_asZ (.const (.int .i64 0)) rfl (.int .i64 0) rfl) ?_
  simp only [Act.put, aS, aC, aZ]
  refine wpList_nil ?_
  go_upto_region 1 with fail
  refine wp_region_lit ?_
  refine wl rfl (ptr g) _ (run_mvZ (.tmp 0) rfl (ptr g) rfl) ?_
  simp only [Act.put, aS, aC, aZ]
  refine wl rfl (.int .i64 d) _ (run_mvZ (.tmp 1) rfl (.int .i64 d) rfl) ?_
  simp only [Act.put, aS, aC, aZ]
  refine wpList_callW eN37 [.tmp 7, .tmp 8] _ rfl rfl [(ptr g), (.int .i64 d)] rfl ?_
  refine (HP.out).mono ?_
  rintro e w1 ⟨rfl, b1⟩
  refine ⟨_, rfl, ?_⟩
  have R1 : Hid (Below w.heap.size w w1) := b1
  clear b1
  simp only [Act.put, aS, aC, aZ]
  refine wl rfl (.bool true) _ (run_eqZ (.tmp 9) (.const (.int .i64 0)) rfl (0) (0) rfl rfl true rfl) ?_
  simp only [Act.put, aS, aC, aZ]
  refine wpList_nil ?_
  go_wp2_with fail
  rw [HPQ.out]
  exact ⟨rfl, R1.out⟩
set_option maxHeartbeats 8000000 in
set_option maxRecDepth 100000 in
theorem format_any {w : World} {c : Nat → Colour} {t g : Nat} {m : Pl} (h : Live w c t g m) {ds ts : List Nat} {i n : Nat} (hd : DkOn m ds ts i) (hst : m.steps + 60 < 1099511627775) (hn : n = pagesN (ds.getD i 0)) (hn1 : 1 ≤ n) (ht : Fr.TabIn w) (htc : (c 0).1 ≠ t) : Calls Tryd.prog 11 #[ptr g, .int .i64 (i : Nat)] w fun e w' => e = .returned (.int .i64 (m.formatP i n).1) ∧ Nx w c t g (m.formatP i n).2 w' := by
  have hn384 : n ≤ 384 := by unfold pagesN at hn; omega
  obtain ⟨r, hr⟩ : ∃ r, r = lastOf (m.rd i) n := ⟨_, rfl⟩
  have HRW : Hid (∀ H, r = some H → H.WF) := fun H hh => by
    rw [hr] at hh
    unfold lastOf at hh
    cases h0 : headAt (m.rd i) n 0 with
    | none => rw [h0] at hh; cases hh
    | some a =>
      cases h1 : headAt (m.rd i) n 1 with
      | none => rw [h0, h1] at hh; cases hh
      | some b =>
        rw [h0, h1] at hh
        have ha := (headAt_some (Pl.rd_sec h.2.1 i 0) h0).1
        have hb := (headAt_some (Pl.rd_sec h.2.1 i 1) h1).1
        change later a b = some H at hh
        unfold later at hh
        split at hh
        · injection hh with hh; rw [← hh]; exact ha
        · split at hh
          · injection hh with hh; rw [← hh]; exact hb
          · cases hh
  have HPG : Hid (∀ W, Below w.heap.size w W → Calls Tryd.prog 37 #[ptr g, .int .i64 (i : Nat)] W fun e w' => e = .returned (.int .i64 (n : Nat)) ∧ Below W.heap.size W w') := fun W hW => by
    have h1 := pagesOf_any (h.below hW) hd.shape (i : Int)
    rw [pagesD_at hd.lt hn] at h1
    exact h1
  have HRL : Hid (∀ W, Below w.heap.size w W → Calls Tryd.prog 38 #[ptr g, .int .i64 (i : Nat)] W fun e w' => e = .returned (.tuple #[.agg (hdRes r).toArray, .int .i64 (hdErr r)]) ∧ Below W.heap.size W w') := fun W hW => by rw [hr]; exact readLast_any (h.below hW) hd hn hn1 (Fr.TabIn.later hW ht)
  have HLH : Hid (∀ W H, H.WF → Below w.heap.size w W → Calls Tryd.prog 39 #[ptr g, .int .i64 (i : Nat), .agg (hdCells H).toArray] W fun e w' => e = .returned (.int .i64 (m.lay (i : Int) (H.num % 2) [hdSec H]).1) ∧ Nx w c t g (m.lay (i : Int) (H.num % 2) [hdSec H]).2 w') := fun W H hH hW => by
    refine (layHead_any (h.below hW) (by omega) (Fr.TabIn.later hW ht) (i : Int) H hH).mono fun e w' he => ⟨he.1, ?_⟩
    exact Nx.after (fun _ _ => rfl) (Ch.of_below hW) he.2
  have HLF : Hid (∀ W, Below w.heap.size w W → Calls Tryd.prog 40 #[ptr g, .int .i64 (i : Nat)] W fun e w' => e = .returned (.int .i64 (m.layFirst i).1) ∧ Nx w c t g (m.layFirst i).2 w') := fun W hW => by
    refine (layFirst_any (h.below hW) hst (Fr.TabIn.later hW ht) htc i).mono fun e w' he => ⟨he.1, ?_⟩
    exact Nx.after (fun _ _ => rfl) (Ch.of_below hW) he.2
  obtain ⟨er, her⟩ : ∃ er, er = (m.formatP i n).1 := ⟨_, rfl⟩
  obtain ⟨M, hM⟩ : ∃ M, M = (m.formatP i n).2 := ⟨_, rfl⟩
  have HER : Hid ((∀ L, r = some L → er = (m.lay (i : Int) (nextNum L.num % 2) [hdSec (noHd (nextNum L.num))]).1 ∧ M = (m.lay (i : Int) (nextNum L.num % 2) [hdSec (noHd (nextNum L.num))]).2) ∧ (r = none → er = (m.layFirst i).1 ∧ M = (m.layFirst i).2)) := by
    rw [her, hM]
    unfold Pl.formatP
    rw [← hr]
    exact ⟨fun L hL => by rw [hL]; exact ⟨rfl, rfl⟩, fun hL => by rw [hL]; exact ⟨rfl, rfl⟩⟩
  obtain ⟨PQ, hPQ⟩ : ∃ PQ : Ending → World → Prop, PQ = fun (e : Ending) (w' : World) => e = .returned (.int .i64 er) ∧ Nx w c t g M w' := ⟨_, rfl⟩
  have HPQ : Hid (PQ = fun (e : Ending) (w' : World) => e = .returned (.int .i64 er) ∧ Nx w c t g M w') := hPQ
  have hn0 : decide ((n : Int) = 0) = false := decide_eq_false (by omega)
  rw [← her, ← hM, ← hPQ]
  clear hr her hM hPQ h hd hn hst ht htc
  have R0 : Hid (Loc w w []) := Loc.nil (Below.refl _ w)
  go_enter Tryd.func11, Tryd.ntmps11
  go_upto_region 0 with fail
  refine wp_region_lit ?_
  refine wl rfl (.int .i64 0) _ (run_asZ (.const (.int .i64 0)) rfl (.int .i64 0) rfl) ?_
  simp only [Act.put, aS, aC, aZ]
  refine wpList_nil ?_
  go_upto_region 1 with fail
  refine wp_region_lit ?_
  refine wl rfl (ptr g) _ (run_mvZ (.tmp 0) rfl (ptr g) rfl) ?_
  simp only [Act.put, aS, aC, aZ]
  refine wl rfl (.int .i64 (i : Nat)) _ (run_mvZ (.tmp 1) rfl (.int .i64 (i : Nat)) rfl) ?_
  simp only [Act.put, aS, aC, aZ]
  refine wpList_callW eN37 [.tmp 7, .tmp 8] _ rfl rfl [(ptr g), (.int .i64 (i : Nat))] rfl ?_
  refine (HPG.out w R0.out.below).mono ?_
  rintro e w1 ⟨rfl, b1⟩
  refine ⟨_, rfl, ?_⟩
  have Rw1 : Hid (Loc w w1 []) := R0.out.later b1
  clear R0 b1
  simp only [Act.put, aS, aC, aZ]
  refine wl rfl (.bool false) _ (run_eqZ (.tmp 9) (.const (.int .i64 0)) rfl (n : Nat) 0 rfl rfl false hn0) ?_
  simp only [Act.put, aS, aC, aZ]
  refine wpList_nil ?_
  go_upto_region 3 with fail
  refine wp_region_lit ?_
  refine wl rfl (ptr g) _ (run_mvZ (.tmp 0) rfl (ptr g) rfl) ?_
  simp only [Act.put, aS, aC, aZ]
  refine wl rfl (.int .i64 (i : Nat)) _ (run_mvZ (.tmp 1) rfl (.int .i64 (i : Nat)) rfl) ?_
  simp only [Act.put, aS, aC, aZ]
  refine wpList_callW eN38 [.tmp 12, .tmp 13] _ rfl rfl [(ptr g), (.int .i64 (i : Nat))] rfl ?_
  refine (HRL.out w1 Rw1.out.below).mono ?_
  rintro e w2 ⟨rfl, b2⟩
  refine ⟨_, rfl, ?_⟩
  have Rw2 : Hid (Loc w w2 []) := Rw1.out.later b2
  clear Rw1 b2
  simp only [Act.put, aS, aC, aZ]
  refine wl rfl (.tuple #[(.agg (hdRes r).toArray), (.int .i64 (hdErr r))]) _ (run_mvZ (.tmp 14) rfl (.tuple #[(.agg (hdRes r).toArray), (.int .i64 (hdErr r))]) rfl) ?_
  simp only [Act.put, aS, aC, aZ]
  refine wl rfl (.agg (hdRes r).toArray) _ (run_extZ (.tmp 11) 0 rfl #[(.agg (hdRes r).toArray), (.int .i64 (hdErr r))] rfl (.agg (hdRes r).toArray) rfl) ?_
  simp only [Act.put, aS, aC, aZ]
  refine wl rfl (.int .i64 (hdErr r)) _ (run_extZ (.tmp 11) 1 rfl #[(.agg (hdRes r).toArray), (.int .i64 (hdErr r))] rfl (.int .i64 (hdErr r)) rfl) ?_
  simp only [Act.put, aS, aC, aZ]
  refine wl rfl (ptr w2.heap.size) _ (run_allocA (hdCells zHd) zero78' rfl) ?_
  have k_ := Rw2.out.box 78 (hdCells zHd)
  obtain ⟨w3, hW_⟩ : ∃ W, W = w2.alloc (.cells (hdCells zHd).toArray 78) := ⟨_, rfl⟩
  obtain ⟨q1, hq_⟩ : ∃ q, q = w2.heap.size := ⟨_, rfl⟩
  rw [← hW_, ← hq_] at k_
  rw [← hW_, ← hq_]
  clear hq_
  have Rw3 : Hid (Loc w w3 [(q1, 78, hdCells zHd)]) := k_
  clear k_ hW_ Rw2
  simp only [Act.put, aS, aC, aZ]
  refine wlS rfl rfl _ (run_storeL ag78 (.tmp 5) (.tmp 15) rfl Rw3.out 0 rfl (0) rfl (hdRes r) rfl (hdRes_len HRW.out) (by rw [hdRes_len HRW.out, zHd_len]; decide) (hdRes_one r)).1 ?_
  have k_ := Rw3.out.lay 0 rfl (0) (hdRes r)
  rw [splice_all _ _ (by rw [hdRes_len HRW.out, zHd_len])] at k_ ⊢
  obtain ⟨w4, hW_⟩ : ∃ W, W = w3.setRow q1 (hdRes r).toArray := ⟨_, rfl⟩
  rw [← hW_] at k_ ⊢
  have Rw4 : Hid (Loc w w4 [(q1, 78, hdRes r)]) := k_
  clear k_ hW_ Rw3
  refine wl rfl (.int .i64 (hdErr r)) _ (run_asZ (.tmp 16) rfl (.int .i64 (hdErr r)) rfl) ?_
  simp only [Act.put, aS, aC, aZ]
  refine wpList_nil ?_
  cases r with
  | none =>
    go_upto_region 4 with fail
    refine wp_region_lit ?_
    refine wl rfl (.int .i64 4) _ (run_mvZ (.tmp 6) rfl (.int .i64 4) rfl) ?_
    simp only [Act.put, aS, aC, aZ]
    refine wpList_nil ?_
    go_upto_region 5 with fail
    refine wp_region_lit ?_
    refine wl rfl (.bool false) _ (run_eqZ (.tmp 17) (.const (.int .i64 0)) rfl (4) (0) rfl rfl false rfl) ?_
    simp only [Act.put, aS, aC, aZ]
    refine wl rfl (.bool false) _ (run_asZ (.tmp 19) rfl (.bool false) rfl) ?_
    simp only [Act.put, aS, aC, aZ]
    refine wpList_nil ?_
    go_upto_region 7 with fail
    refine wp_region_lit ?_
    refine wl rfl (.bool true) _ (run_eqZ (.tmp 17) (.const (.int .i64 4)) rfl (4) (4) rfl rfl true rfl) ?_
    simp only [Act.put, aS, aC, aZ]
    refine wl rfl (.bool true) _ (run_asZ (.tmp 28) rfl (.bool true) rfl) ?_
    simp only [Act.put, aS, aC, aZ]
    refine wpList_nil ?_
    go_upto_region 8 with fail
    refine wp_region_lit ?_
    refine wl rfl (ptr g) _ (run_mvZ (.tmp 0) rfl (ptr g) rfl) ?_
    simp only [Act.put, aS, aC, aZ]
    refine wl rfl (.int .i64 (i : Nat)) _ (run_mvZ (.tmp 1) rfl (.int .i64 (i : Nat)) rfl) ?_
    simp only [Act.put, aS, aC, aZ]
    refine wpList_callW eN40 [.tmp 29, .tmp 30] _ rfl rfl [(ptr g), (.int .i64 (i : Nat))] rfl ?_
    refine (HLF.out w4 Rw4.out.below).mono ?_
    rintro e w5 ⟨rfl, n5⟩
    refine ⟨_, rfl, ?_⟩
    have R5 : Hid (Nx w c t g (m.layFirst i).2 w5) := n5
    clear n5
    simp only [Act.put, aS, aC, aZ]
    refine wl rfl (.int .i64 (m.layFirst i).1) _ (run_asZ (.tmp 31) rfl (.int .i64 (m.layFirst i).1) rfl) ?_
    simp only [Act.put, aS, aC, aZ]
    refine wpList_nil ?_
    have HE : Hid (er = (m.layFirst i).1 ∧ M = (m.layFirst i).2) := HER.out.2 rfl
    go_wp2_with fail
    rw [HPQ.out]
    exact ⟨by rw [HE.out.1]; try rfl, by rw [HE.out.2]; exact R5.out⟩
  | some L =>
    have HLW : Hid L.WF := HRW.out L rfl
    have Rw4x : Hid (Loc w w4 [(q1, 78, hdCells L)]) := Rw4.out
    clear Rw4
    go_upto_region 4 with fail
    refine wp_region_lit ?_
    refine wl rfl (.int .i64 0) _ (run_mvZ (.tmp 6) rfl (.int .i64 0) rfl) ?_
    simp only [Act.put, aS, aC, aZ]
    refine wpList_nil ?_
    go_upto_region 5 with fail
    refine wp_region_lit ?_
    refine wl rfl (.bool true) _ (run_eqZ (.tmp 17) (.const (.int .i64 0)) rfl (0) (0) rfl rfl true rfl) ?_
    simp only [Act.put, aS, aC, aZ]
    refine wl rfl (.bool true) _ (run_asZ (.tmp 19) rfl (.bool true) rfl) ?_
    simp only [Act.put, aS, aC, aZ]
    refine wpList_nil ?_
    go_upto_region 6 with fail
    refine wp_region_lit ?_
    refine wl rfl (ptr g) _ (run_mvZ (.tmp 0) rfl (ptr g) rfl) ?_
    simp only [Act.put, aS, aC, aZ]
    refine wl rfl (.int .i64 (i : Nat)) _ (run_mvZ (.tmp 1) rfl (.int .i64 (i : Nat)) rfl) ?_
    simp only [Act.put, aS, aC, aZ]
    refine wl rfl (.pointer (some ⟨q1, 0 + 0, none⟩)) _ (run_fieldOp' f78_0 (.tmp 5) rfl q1 (0) rfl) ?_
    simp only [Act.put, aS, aC, aZ]
    refine wl rfl (.int .u64 (L.num : Nat)) _ (run_load1 o74 (.tmp 22) rfl q1 (0 + 0) rfl (.int .u64 (L.num : Nat)) (rows_at Rw4x.out 0 rfl 0 _ rfl)) ?_
    simp only [Act.put, aS, aC, aZ]
    refine wl rfl (.int .u64 ((nextNum L.num : Nat) : Int)) _ (run_inc64 (.tmp 23) rfl L.num rfl) ?_
    simp only [Act.put, aS, aC, aZ]
    refine wl rfl (.agg (hdCells (noHd (nextNum L.num))).toArray) _ (run_build78Op (.tmp 24) (.const (.int .i64 (-1))) rfl (nextNum L.num) (-1) rfl rfl) ?_
    simp only [Act.put, aS, aC, aZ]
    refine wpList_callW eN39 [.tmp 20, .tmp 21, .tmp 25] _ rfl rfl [(ptr g), (.int .i64 (i : Nat)), (.agg (hdCells (noHd (nextNum L.num))).toArray)] rfl ?_
    refine (HLH.out w4 (noHd (nextNum L.num)) (noHd_wf _ (nextNum_lt _)) Rw4x.out.below).mono ?_
    rintro e w5 ⟨rfl, n5⟩
    refine ⟨_, rfl, ?_⟩
    have R5 : Hid (Nx w c t g (m.lay (i : Int) (nextNum L.num % 2) [hdSec (noHd (nextNum L.num))]).2 w5) := n5
    clear n5
    simp only [Act.put, aS, aC, aZ]
    refine wl rfl (.int .i64 (m.lay (i : Int) (nextNum L.num % 2) [hdSec (noHd (nextNum L.num))]).1) _ (run_asZ (.tmp 26) rfl (.int .i64 (m.lay (i : Int) (nextNum L.num % 2) [hdSec (noHd (nextNum L.num))]).1) rfl) ?_
    simp only [Act.put, aS, aC, aZ]
    refine wpList_nil ?_
    have HE : Hid (er = (m.lay (i : Int) (nextNum L.num % 2) [hdSec (noHd (nextNum L.num))]).1 ∧ M = (m.lay (i : Int) (nextNum L.num % 2) [hdSec (noHd (nextNum L.num))]).2) := HER.out.1 L rfl
    go_wp2_with fail
    rw [HPQ.out]
    exact ⟨by rw [HE.out.1]; try rfl, by rw [HE.out.2]; exact R5.out⟩
set_option maxHeartbeats 8000000 in
set_option maxRecDepth 100000 in
theorem open_any {w : World} {c : Nat → Colour} {t g : Nat} {m : Pl} (h : Live w c t g m) {ds ts : List Nat} {i n : Nat} (hd : DkOn m ds ts i) (hn : n = pagesN (ds.getD i 0)) (hn1 : 1 ≤ n) (ht : Fr.TabIn w) : Calls Tryd.prog 13 #[ptr g, .int .i64 (i : Nat)] w fun e w' => Below w.heap.size w w' ∧ ((lastOf (m.rd i) n = none ∧ e = .returned (.tuple #[.pointer none, .int .i64 4])) ∨ ∃ L gp, lastOf (m.rd i) n = some L ∧ L.WF ∧ w.heap.size ≤ gp ∧ e = .returned (.tuple #[ptr gp, .int .i64 0]) ∧ Row w' gp 86 (pgCells g i n L L.used)) := by
  have hn384 : n ≤ 384 := by unfold pagesN at hn; omega
  obtain ⟨r, hr⟩ : ∃ r, r = lastOf (m.rd i) n := ⟨_, rfl⟩
  have HRW : Hid (∀ H, r = some H → H.WF) := fun H hh => by
    rw [hr] at hh
    unfold lastOf at hh
    cases h0 : headAt (m.rd i) n 0 with
    | none => rw [h0] at hh; cases hh
    | some a =>
      cases h1 : headAt (m.rd i) n 1 with
      | none => rw [h0, h1] at hh; cases hh
      | some b =>
        rw [h0, h1] at hh
        have ha := (headAt_some (Pl.rd_sec h.2.1 i 0) h0).1
        have hb := (headAt_some (Pl.rd_sec h.2.1 i 1) h1).1
        change later a b = some H at hh
        unfold later at hh
        split at hh
        · injection hh with hh; rw [← hh]; exact ha
        · split at hh
          · injection hh with hh; rw [← hh]; exact hb
          · cases hh
  have HPG : Hid (∀ W, Below w.heap.size w W → Calls Tryd.prog 37 #[ptr g, .int .i64 (i : Nat)] W fun e w' => e = .returned (.int .i64 (n : Nat)) ∧ Below W.heap.size W w') := fun W hW => by
    have h1 := pagesOf_any (h.below hW) hd.shape (i : Int)
    rw [pagesD_at hd.lt hn] at h1
    exact h1
  have HRL : Hid (∀ W, Below w.heap.size w W → Calls Tryd.prog 38 #[ptr g, .int .i64 (i : Nat)] W fun e w' => e = .returned (.tuple #[.agg (hdRes r).toArray, .int .i64 (hdErr r)]) ∧ Below W.heap.size W w') := fun W hW => by rw [hr]; exact readLast_any (h.below hW) hd hn hn1 (Fr.TabIn.later hW ht)
  obtain ⟨PQ, hPQ⟩ : ∃ PQ : Ending → World → Prop, PQ = fun (e : Ending) (w' : World) => Below w.heap.size w w' ∧ ((r = none ∧ e = .returned (.tuple #[.pointer none, .int .i64 4])) ∨ ∃ L gp, r = some L ∧ L.WF ∧ w.heap.size ≤ gp ∧ e = .returned (.tuple #[ptr gp, .int .i64 0]) ∧ Row w' gp 86 (pgCells g i n L L.used)) := ⟨_, rfl⟩
  have HPQ : Hid (PQ = fun (e : Ending) (w' : World) => Below w.heap.size w w' ∧ ((r = none ∧ e = .returned (.tuple #[.pointer none, .int .i64 4])) ∨ ∃ L gp, r = some L ∧ L.WF ∧ w.heap.size ≤ gp ∧ e = .returned (.tuple #[ptr gp, .int .i64 0]) ∧ Row w' gp 86 (pgCells g i n L L.used))) := hPQ
  have hn0 : decide ((n : Int) = 0) = false := decide_eq_false (by omega)
  rw [← hr, ← hPQ]
  clear hr hPQ h hd hn ht
  have R0 : Hid (Loc w w []) := Loc.nil (Below.refl _ w)
  go_enter Tryd.func13, Tryd.ntmps13
  go_upto_region 0 with fail
  refine wp_region_lit ?_
  refine wl rfl (.pointer none) _ (run_asZ (.const (.pointer none)) rfl (.pointer none) rfl) ?_
  simp only [Act.put, aS, aC, aZ]
  refine wl rfl (.int .i64 0) _ (run_asZ (.const (.int .i64 0)) rfl (.int .i64 0) rfl) ?_
  simp only [Act.put, aS, aC, aZ]
  refine wpList_nil ?_
  go_upto_region 1 with fail
  refine wp_region_lit ?_
  refine wl rfl (ptr g) _ (run_mvZ (.tmp 0) rfl (ptr g) rfl) ?_
  simp only [Act.put, aS, aC, aZ]
  refine wl rfl (.int .i64 (i : Nat)) _ (run_mvZ (.tmp 1) rfl (.int .i64 (i : Nat)) rfl) ?_
  simp only [Act.put, aS, aC, aZ]
  refine wpList_callW eN37 [.tmp 9, .tmp 10] _ rfl rfl [(ptr g), (.int .i64 (i : Nat))] rfl ?_
  refine (HPG.out w R0.out.below).mono ?_
  rintro e w1 ⟨rfl, b1⟩
  refine ⟨_, rfl, ?_⟩
  have Rw1 : Hid (Loc w w1 []) := R0.out.later b1
  clear R0 b1
  simp only [Act.put, aS, aC, aZ]
  refine wl rfl (.int .i64 (n : Nat)) _ (run_asZ (.tmp 11) rfl (.int .i64 (n : Nat)) rfl) ?_
  simp only [Act.put, aS, aC, aZ]
  refine wpList_nil ?_
  go_upto_region 2 with fail
  refine wp_region_lit ?_
  refine wl rfl (.int .i64 (n : Nat)) _ (run_mvZ (.tmp 6) rfl (.int .i64 (n : Nat)) rfl) ?_
  simp only [Act.put, aS, aC, aZ]
  refine wl rfl (.bool false) _ (run_eqZ (.tmp 12) (.const (.int .i64 0)) rfl (n : Nat) 0 rfl rfl false hn0) ?_
  simp only [Act.put, aS, aC, aZ]
  refine wpList_nil ?_
  go_upto_region 4 with fail
  refine wp_region_lit ?_
  refine wl rfl (ptr g) _ (run_mvZ (.tmp 0) rfl (ptr g) rfl) ?_
  simp only [Act.put, aS, aC, aZ]
  refine wl rfl (.int .i64 (i : Nat)) _ (run_mvZ (.tmp 1) rfl (.int .i64 (i : Nat)) rfl) ?_
  simp only [Act.put, aS, aC, aZ]
  refine wpList_callW eN38 [.tmp 15, .tmp 16] _ rfl rfl [(ptr g), (.int .i64 (i : Nat))] rfl ?_
  refine (HRL.out w1 Rw1.out.below).mono ?_
  rintro e w2 ⟨rfl, b2⟩
  refine ⟨_, rfl, ?_⟩
  have Rw2 : Hid (Loc w w2 []) := Rw1.out.later b2
  clear Rw1 b2
  simp only [Act.put, aS, aC, aZ]
  refine wl rfl (.tuple #[(.agg (hdRes r).toArray), (.int .i64 (hdErr r))]) _ (run_mvZ (.tmp 17) rfl (.tuple #[(.agg (hdRes r).toArray), (.int .i64 (hdErr r))]) rfl) ?_
  simp only [Act.put, aS, aC, aZ]
  refine wl rfl (.agg (hdRes r).toArray) _ (run_extZ (.tmp 14) 0 rfl #[(.agg (hdRes r).toArray), (.int .i64 (hdErr r))] rfl (.agg (hdRes r).toArray) rfl) ?_
  simp only [Act.put, aS, aC, aZ]
  refine wl rfl (.int .i64 (hdErr r)) _ (run_extZ (.tmp 14) 1 rfl #[(.agg (hdRes r).toArray), (.int .i64 (hdErr r))] rfl (.int .i64 (hdErr r)) rfl) ?_
  simp only [Act.put, aS, aC, aZ]
  refine wl rfl (ptr w2.heap.size) _ (run_allocA (hdCells zHd) zero78' rfl) ?_
  have k_ := Rw2.out.box 78 (hdCells zHd)
  obtain ⟨w3, hW_⟩ : ∃ W, W = w2.alloc (.cells (hdCells zHd).toArray 78) := ⟨_, rfl⟩
  obtain ⟨q1, hq_⟩ : ∃ q, q = w2.heap.size := ⟨_, rfl⟩
  rw [← hW_, ← hq_] at k_
  rw [← hW_, ← hq_]
  clear hq_
  have Rw3 : Hid (Loc w w3 [(q1, 78, hdCells zHd)]) := k_
  clear k_ hW_ Rw2
  simp only [Act.put, aS, aC, aZ]
  refine wlS rfl rfl _ (run_storeL ag78 (.tmp 7) (.tmp 18) rfl Rw3.out 0 rfl (0) rfl (hdRes r) rfl (hdRes_len HRW.out) (by rw [hdRes_len HRW.out, zHd_len]; decide) (hdRes_one r)).1 ?_
  have k_ := Rw3.out.lay 0 rfl (0) (hdRes r)
  rw [splice_all _ _ (by rw [hdRes_len HRW.out, zHd_len])] at k_ ⊢
  obtain ⟨w4, hW_⟩ : ∃ W, W = w3.setRow q1 (hdRes r).toArray := ⟨_, rfl⟩
  rw [← hW_] at k_ ⊢
  have Rw4 : Hid (Loc w w4 [(q1, 78, hdRes r)]) := k_
  clear k_ hW_ Rw3
  refine wl rfl (.int .i64 (hdErr r)) _ (run_asZ (.tmp 19) rfl (.int .i64 (hdErr r)) rfl) ?_
  simp only [Act.put, aS, aC, aZ]
  refine wpList_nil ?_
  cases r with
  | none =>
    go_upto_region 5 with fail
    refine wp_region_lit ?_
    refine wl rfl (.int .i64 4) _ (run_mvZ (.tmp 8) rfl (.int .i64 4) rfl) ?_
    simp only [Act.put, aS, aC, aZ]
    refine wl rfl (.bool true) _ (run_neZ (.tmp 20) (.const (.int .i64 0)) rfl (4) (0) rfl rfl true rfl) ?_
    simp only [Act.put, aS, aC, aZ]
    refine wpList_nil ?_
    go_wp2_with fail
    rw [HPQ.out]
    refine ⟨Rw4.out.below, Or.inl ⟨?_, rfl⟩⟩
    first | rfl | trivial
  | some L =>
    have HLW : Hid L.WF := HRW.out L rfl
    have Rw4x : Hid (Loc w w4 [(q1, 78, hdCells L)]) := Rw4.out
    clear Rw4
    go_upto_region 5 with fail
    refine wp_region_lit ?_
    refine wl rfl (.int .i64 0) _ (run_mvZ (.tmp 8) rfl (.int .i64 0) rfl) ?_
    simp only [Act.put, aS, aC, aZ]
    refine wl rfl (.bool false) _ (run_neZ (.tmp 20) (.const (.int .i64 0)) rfl (0) (0) rfl rfl false rfl) ?_
    simp only [Act.put, aS, aC, aZ]
    refine wpList_nil ?_
    go_upto_region 7 with fail
    refine wp_region_lit ?_
    refine wl rfl (ptr g) _ (run_mvZ (.tmp 0) rfl (ptr g) rfl) ?_
    simp only [Act.put, aS, aC, aZ]
    refine wl rfl (.int .i64 (i : Nat)) _ (run_mvZ (.tmp 1) rfl (.int .i64 (i : Nat)) rfl) ?_
    simp only [Act.put, aS, aC, aZ]
    refine wl rfl (.int .i64 (n : Nat)) _ (run_mvZ (.tmp 6) rfl (.int .i64 (n : Nat)) rfl) ?_
    simp only [Act.put, aS, aC, aZ]
    refine wl rfl (.agg (hdCells L).toArray) _ (run_loadA ag78 (.tmp 7) rfl q1 (0) rfl (hdCells L) (hd50 HLW.out) (rows_all Rw4x.out 0 rfl)) ?_
    simp only [Act.put, aS, aC, aZ]
    refine wl rfl (.pointer (some ⟨q1, 0 + 2, none⟩)) _ (run_fieldOp' f78_2 (.tmp 7) rfl q1 (0) rfl) ?_
    simp only [Act.put, aS, aC, aZ]
    refine wl rfl (.agg (bcells L.used).toArray) _ (run_loadA ag76 (.tmp 27) rfl q1 (0 + 2) rfl (bcells L.used) (by rw [bcells_length]; exact HLW.out.used.1) (fun j v hv => rows_at Rw4x.out 0 rfl (2 + j) v (hd_used j v hv))) ?_
    simp only [Act.put, aS, aC, aZ]
    refine wl rfl (.agg (pgCells g i n L L.used).toArray) _ (run_build86Op (.tmp 23) (.tmp 24) (.tmp 25) (.tmp 26) (.tmp 28) rfl g i n L L.used HLW.out HLW.out.used rfl rfl rfl rfl rfl) ?_
    simp only [Act.put, aS, aC, aZ]
    refine wl rfl (ptr w4.heap.size) _ (run_boxA (.tmp 29) rfl (pgCells g i n L L.used) rfl) ?_
    have k_ := Rw4x.out.box 86 (pgCells g i n L L.used)
    obtain ⟨w5, hW_⟩ : ∃ W, W = w4.alloc (.cells (pgCells g i n L L.used).toArray 86) := ⟨_, rfl⟩
    obtain ⟨q2, hq_⟩ : ∃ q, q = w4.heap.size := ⟨_, rfl⟩
    rw [← hW_, ← hq_] at k_
    rw [← hW_, ← hq_]
    clear hq_
    have Rw5 : Hid (Loc w w5 [(q1, 78, hdCells L), (q2, 86, pgCells g i n L L.used)]) := k_
    clear k_ hW_ Rw4x
    simp only [Act.put, aS, aC, aZ]
    refine wl rfl (ptr q2) _ (run_asZ (.tmp 30) rfl (ptr q2) rfl) ?_
    simp only [Act.put, aS, aC, aZ]
    refine wl rfl (.int .i64 0) _ (run_asZ (.const (.int .i64 0)) rfl (.int .i64 0) rfl) ?_
    simp only [Act.put, aS, aC, aZ]
    refine wpList_nil ?_
    go_wp2_with fail
    rw [HPQ.out]
    exact ⟨Rw5.out.below, Or.inr ⟨L, q2, rfl, HLW.out, Rw5.out.ge 1 rfl, rfl, Rw5.out.at 1 rfl⟩⟩
end Go.Proofs.YtkpnflgnhhfjoaaDoor

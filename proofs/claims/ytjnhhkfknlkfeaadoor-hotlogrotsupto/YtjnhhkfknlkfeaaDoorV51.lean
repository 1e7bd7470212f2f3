/- Layer 14: of an object of which one byte turned. -/
import Derived.Test.YtjnhhkfknlkfeaaDoorV49
import Derived.Test.YtjnhhkfknlkfeaaDoorV50
namespace Go.Proofs.YtjnhhkfknlkfeaaDoor
open Go.RowKit Go.Maps


theorem run_build33v {w : World} {a : Act} {o : Oper} (x : Operand) (ho : o.op = .build 33 #[(2, x)]) (v : Value) (hv : ∃ p k c, v = .slice p k c) (hx : a.eval x = v) : (execOp a.eval o).run Tryd.prog w = .ok (.value (.agg (opc 0 0 v).toArray)) w := by
  obtain ⟨p, k, c, rfl⟩ := hv
  have hr : (Instr.build 33 #[(2, .slice p k c)]).run Tryd.prog w = .ok (.agg (opc 0 0 (.slice p k c)).toArray) w := by kernel_rfl
  simp only [execOp, ho, List.map_toArray, List.map_cons, List.map_nil, hx, hr, Sem.run_bind, Sem.run_pure, Result.andThen_ok]
theorem run_eqSr {w : World} {a : Act} {o : Oper} (x y : Operand) (ho : o.op = .binOp .eql 9 x y 9) (s t : ByteArray) (hx : a.eval x = .string s) (hy : a.eval y = .string t) (r : Bool) (hr : decide (s.toList = t.toList) = r) : (execOp a.eval o).run Tryd.prog w = .ok (.value (.bool r)) w := by
  refine run_binOp' x y ho _ _ _ hx hy rfl ?_
  rw [← hr]
  by_cases h : s.toList = t.toList <;> simp [go_sem, h]
/-- an operation that may be left out -/
theorem wl_may {w : World} {ops : Array Oper} {rest : List Oper} {o : Oper} {a : Act} {Q : Exit → Act → World → Prop} (c1 : Bool) (hw : Region.wanted o (yielded ops a.tmps) = c1) (v : Value) (hrun : c1 = true → (execOp a.eval o).run Tryd.prog w = .ok (.value v) w) (h : ∀ s : Value, (c1 = true → s = v) → wpList Tryd.prog ops Q rest (a.put o.dst s) w) : wpList Tryd.prog ops Q (o :: rest) a w := by
  cases c1 with
  | true => exact wl hw v w (hrun rfl) (h v fun _ => rfl)
  | false => exact wpList_skip hw (h _ fun h => by cases h)
/-- what a Read tells of a place of which one byte turned -/
def OutR (u : Nat × List Nat) (a p : Nat) (er : Int) (b : List Nat) : Prop := (er = 0 ∧ b = u.2) ∨ (u.1 ≤ a ∧ a < u.1 + costN u.2.length ∧ er = 4 ∧ b = []) ∨ (u.1 = a ∧ p < 4 ∧ er = 0 ∧ b.length ≤ 512)
theorem HtX.readR {w W : World} {c : Nat → Colour} {gp gh gf gm : Nat} {m : Pl} {n K a p x : Nat} {us : List (Nat × List Nat)} (h : HtX w W c gp gh gf gm m n us K a p x) (hK : K ≤ 1000000000000) (hp : p < 64) (hx : x < 256) {u : Nat × List Nat} (hu : u ∈ us) : Calls Tryd.prog 25 #[ptr gh, .agg (toP u).cells.toArray] W fun e W' => Below W.heap.size W W' ∧ ∃ v er b, e = .returned (.tuple #[v, .int .i64 er]) ∧ SliceIn W' v b ∧ OutR u a p er b := by
  refine (h.read hK hp hx hu).mono ?_
  rintro e W' ⟨hb, ⟨v, h1, h2⟩ | ⟨h1, h2, h3⟩ | ⟨h1, h2, v, b, h3, h4, h5⟩⟩
  · exact ⟨hb, v, 0, u.2, h1, h2.1, Or.inl ⟨rfl, rfl⟩⟩
  · exact ⟨hb, _, 4, [], h3, ⟨none, 0, rfl, ⟨Nat.le_refl _, by decide⟩, Or.inl rfl⟩, Or.inr (Or.inl ⟨h1, h2, rfl, rfl⟩)⟩
  · exact ⟨hb, v, 0, b, h4, h5.1, Or.inr (Or.inr ⟨h1, h2, rfl, h3⟩)⟩
/-- what the law of rot holds while it appends -/
structure Rt (w W : World) (c : Nat → Colour) (gp gh gf gm gs gr : Nat) (m : Pl) (us : List (Nat × List Nat)) (K : Nat) (vu vb : Value) (bl : List Value) (ever i : Nat) : Prop where
  fu : m.fuse < 0
  h : HtW w W c gp gh gf gm m 200 us K
  d : Sd w W c gp gh gf gm gs gr 200 us vu vb bl ever 0
  inv : RoomInv (200 / 16) (us.map plc) ever
  k : K ≤ 20 * i
  e : ever ≤ 2000000 * i
set_option maxHeartbeats 40000000 in
set_option maxRecDepth 100000 in
theorem hotlogRots_any (w : World) (ht : Fr.TabIn w) (hz : TzIn w) (vl : Value) (L : List (List Nat)) (hl : RowsIn w vl L) (hL : ∀ i, i < L.length → (L.getD i []).length ≤ 100000000) (za zt zy : Int) (hza : -9223372036854775808 ≤ za ∧ za ≤ 9223372036854775807) (hzt : -9223372036854775808 ≤ zt ∧ zt ≤ 9223372036854775807) : Calls Tryd.prog 7 #[vl, .int .i64 za, .int .i64 zt, .int .i64 zy] w fun e w' => e = .returned (.bool true) ∧ Below w.heap.size w w' := by
  have HM : Hid (Fr.TabIn w ∧ TzIn w ∧ RowsIn w vl L ∧ (-9223372036854775808 ≤ za ∧ za ≤ 9223372036854775807) ∧ (-9223372036854775808 ≤ zt ∧ zt ≤ 9223372036854775807)) := ⟨ht, hz, hl, hza, hzt⟩
  have HL : Hid (∀ i, i < L.length → (L.getD i []).length ≤ 100000000) := hL
  have hLb : L.length ≤ 9223372036854775807 := (by obtain ⟨_, _, _, h, _⟩ := hl; exact h)
  obtain ⟨aw, haw⟩ : ∃ x, x = whichOf za 200 := ⟨_, rfl⟩
  obtain ⟨pw, hpw⟩ : ∃ x, x = whichOf zt 64 := ⟨_, rfl⟩
  have ha200 : aw < 200 := (by rw [haw]; exact whichOf_lt za 200 (by decide))
  have hp64 : pw < 64 := (by rw [hpw]; exact whichOf_lt zt 64 (by decide))
  have HW : Hid (whichOf za 200 = aw ∧ whichOf zt 64 = pw) := ⟨haw.symm, hpw.symm⟩
  obtain ⟨bt, hbt⟩ : ∃ b, b = true := ⟨_, rfl⟩
  have HBT : Hid (bt = true) := hbt
  obtain ⟨bf, hbf⟩ : ∃ b, b = false := ⟨_, rfl⟩
  have HBF : Hid (bf = false) := hbf
  clear ht hz hl hza hzt haw hpw hL hbt hbf
  obtain ⟨PQ, hPQ⟩ : ∃ PQ : Ending → World → Prop, PQ = fun (e : Ending) (w' : World) => e = .returned (.bool true) ∧ Below w.heap.size w w' := ⟨_, rfl⟩
  have HPQ : Hid (PQ = fun (e : Ending) (w' : World) => e = .returned (.bool true) ∧ Below w.heap.size w w') := hPQ
  rw [← hPQ]
  clear hPQ
  go_enter Tryd.func7, Tryd.ntmps7
  go_upto_region 0 with fail
  refine wp_region_lit ?_
  refine wl rfl (.bool false) _ (run_asZ (.const (.bool false)) rfl (.bool false) rfl) ?_
  simp only [Act.put, aS, aC, aZ]
  refine wpList_nil ?_
  go_upto_region 1 with fail
  refine wp_region_lit ?_
  refine wpList_callW eN9 [] _ rfl rfl [] rfl ?_
  refine (shown_any w HM.out.1 HM.out.2.1).mono ?_
  rintro e W1 ⟨rfl, hb_⟩
  refine ⟨_, rfl, ?_⟩
  have H1 : Hid (Below w.heap.size w W1) := hb_
  clear hb_
  simp only [Act.put, aS, aC, aZ]
  refine wl rfl (.bool true) _ (run_asZ (.tmp 20) rfl (.bool true) rfl) ?_
  simp only [Act.put, aS, aC, aZ]
  refine wpList_nil ?_
  go_upto_region 2 with fail
  refine wp_region_lit ?_
  refine wl rfl (.bool true) _ (run_mvZ (.tmp 9) rfl (.bool true) rfl) ?_
  simp only [Act.put, aS, aC, aZ]
  refine wl rfl (.bool false) _ (run_not (.tmp 21) 4 rfl true rfl) ?_
  simp only [Act.put, aS, aC, aZ]
  refine wpList_nil ?_
  go_upto_region 4 with fail
  refine wp_region_lit ?_
  refine wpList_callW eN10 [.const (.int .i64 200)] _ rfl rfl [.int .i64 200] rfl ?_
  refine (begun_any H1.out HM.out.1 HM.out.2.1 200 ⟨by decide, by decide⟩).mono ?_
  rintro e W2 ⟨gs, gp, gh, gf, gm, gr, c0, rfl, hb_, hh_, hs_, hr_, ho1, ho2⟩
  refine ⟨_, rfl, ?_⟩
  have H2 : Hid (Rt w W2 c0 gp gh gf gm gs gr (newPl [1, ((200 : Nat) : Int)] [9]) [] 0 (.slice none 0 0) (.slice none 0 0) [] 0 0) := ⟨(show (-1 : Int) < 0 by decide), hh_, Sd.new hs_ hr_ ho1 ho2, RoomInv.none _, Nat.le_refl _, Nat.zero_le _⟩
  clear hb_ hh_ hs_ hr_ ho1 ho2
  simp only [Act.put, aS, aC, aZ]
  refine wl rfl (ptr gs) _ (run_asZ (.tmp 23) rfl (ptr gs) rfl) ?_
  simp only [Act.put, aS, aC, aZ]
  refine wpList_nil ?_
  go_upto_region 5 with fail
  refine wp_region_lit ?_
  refine wl rfl (ptr gs) _ (run_mvZ (.tmp 10) rfl (ptr gs) rfl) ?_
  simp only [Act.put, aS, aC, aZ]
  refine wl rfl (.bool false) _ (run_binOp' (.tmp 24) (.const (.pointer none)) rfl _ _ _ rfl rfl rfl (by kernel_rfl)) ?_
  simp only [Act.put, aS, aC, aZ]
  refine wpList_nil ?_
  go_upto_region 7 with fail
  refine wp_region_lit ?_
  refine wl rfl (.int .i64 0) _ (run_asZ (.const (.int .i64 0)) rfl (.int .i64 0) rfl) ?_
  simp only [Act.put, aS, aC, aZ]
  refine wpList_nil ?_
  go_wp2_with fail
  go_loopw [11] (fun vi W => ∃ i : Nat, vi = .int .i64 (i : Nat) ∧ i ≤ 12 ∧ i ≤ L.length ∧ Hid (∃ c m us K vu vb bl ever, Rt w W c gp gh gf gm gs gr m us K vu vb bl ever i)) (fun vi _ => L.length - (intOf vi).toNat)
  case atStart => exact ⟨0, rfl, Nat.zero_le _, Nat.zero_le _, ⟨_, _, _, _, _, _, _, _, H2.out⟩⟩
  case round =>
    obtain ⟨i, rfl, hi12, hiL, HI0⟩ := hrel
    obtain ⟨c, m, us, K, vu, vb, bl, ever, hI⟩ := HI0.out
    have HR : Hid (Rt w wr c gp gh gf gm gs gr m us K vu vb bl ever i) := hI
    have hev := hI.e
    have hKe := hI.k
    clear hI HI0
    by_cases hlt : i < L.length ∧ i < 12
    · obtain ⟨hltL, hlt12⟩ := hlt
      go_upto_region 8 with fail
      refine wp_region_lit ?_
      refine wl rfl (.int .i64 (i : Nat)) _ (run_mvZ (.tmp 11) rfl (.int .i64 (i : Nat)) rfl) ?_
      simp only [Act.put, aS, aC, aZ]
      refine wl rfl vl _ (run_mvZ (.tmp 0) rfl vl rfl) ?_
      simp only [Act.put, aS, aC, aZ]
      refine wl rfl (.int .i64 (L.length : Nat)) _ (run_lenR HM.out.2.2.1 (.tmp 27) rfl rfl) ?_
      simp only [Act.put, aS, aC, aZ]
      refine wl rfl (.bool true) _ (run_lssZ (.tmp 26) (.tmp 28) rfl (i : Nat) (L.length : Nat) rfl rfl true (decide_eq_true (by omega))) ?_
      simp only [Act.put, aS, aC, aZ]
      refine wl rfl (.bool true) _ (run_mvZ (.tmp 29) rfl (.bool true) rfl) ?_
      simp only [Act.put, aS, aC, aZ]
      refine wl (by kernel_rfl) (.int .i64 (i : Nat)) _ (run_mvZ (.tmp 11) rfl (.int .i64 (i : Nat)) rfl) ?_
      simp only [Act.put, aS, aC, aZ]
      refine wl (by kernel_rfl) (.bool true) _ (run_lssZ (.tmp 31) (.const (.int .i64 12)) rfl (i : Nat) 12 rfl rfl true (decide_eq_true (by omega))) ?_
      simp only [Act.put, aS, aC, aZ]
      refine wl rfl (.bool true) _ (run_pickZ (.tmp 30) (.tmp 32) (.const (.bool false)) rfl true (.bool true) rfl rfl) ?_
      simp only [Act.put, aS, aC, aZ]
      refine wpList_nil ?_
      obtain ⟨bj, jj, ub, hx_, hc_⟩ := HM.out.2.2.1.ix i hltL
      obtain ⟨bs, hbs⟩ : ∃ b, b = L.getD i [] := ⟨_, rfl⟩
      have hbl : bs.length ≤ 100000000 := (by rw [hbs]; exact HL.out i hltL)
      rw [← hbs] at hc_
      have HXR : Hid ((∀ w', (Instr.indexAt 57 vl (.int .i64 (i : Nat))).run Tryd.prog w' = .ok (.pointer (some ⟨bj, jj, none⟩)) w') ∧ (∀ W, Below w.heap.size w W → W.cell? ⟨bj, jj, none⟩ = some ub ∧ SliceIn W ub bs)) := ⟨hx_, hc_⟩
      clear hx_ hc_ hbs
      go_upto_region 10 with fail
      refine wp_region_lit ?_
      refine wl rfl (ptr gs) _ (run_mvZ (.tmp 10) rfl (ptr gs) rfl) ?_
      simp only [Act.put, aS, aC, aZ]
      refine wl rfl vl _ (run_mvZ (.tmp 0) rfl vl rfl) ?_
      simp only [Act.put, aS, aC, aZ]
      refine wl rfl (.int .i64 (i : Nat)) _ (run_mvZ (.tmp 11) rfl (.int .i64 (i : Nat)) rfl) ?_
      simp only [Act.put, aS, aC, aZ]
      refine wl rfl (.pointer (some ⟨bj, jj, none⟩)) _ (run_idx (.tmp 37) (.tmp 38) rfl _ _ _ rfl rfl HXR.out.1) ?_
      simp only [Act.put, aS, aC, aZ]
      refine wl rfl ub _ (run_load1 o28 (.tmp 39) rfl bj (jj) rfl ub (HXR.out.2 _ HR.out.h.pl.below).1) ?_
      simp only [Act.put, aS, aC, aZ]
      refine wl rfl (.agg (opc 0 0 ub).toArray) _ (run_build33v (.tmp 40) rfl ub (by obtain ⟨p, c, e, _⟩ := (HXR.out.2 _ HR.out.h.pl.below).2; exact ⟨p, _, c, e⟩) rfl) ?_
      simp only [Act.put, aS, aC, aZ]
      refine wpList_callW eN23 [.tmp 36, .tmp 41] _ rfl rfl [(ptr gs), (.agg (opc 0 0 ub).toArray)] rfl ?_
      refine (sappend_any HR.out.h HR.out.d HR.out.fu (by omega) (by omega) HR.out.inv ub bs (HXR.out.2 _ HR.out.h.pl.below).2 (Or.inl fun W' hb => (HXR.out.2 W' hb).2) hbl (opc 0 0 ub) rfl).mono ?_
      rintro e V2 ⟨rfl, c2, m2, us2, vu2, vb2, bl2, ever2, hf_, hh_, hd_, hi_, _, hev_, _⟩
      refine ⟨_, rfl, ?_⟩
      have HR2 : Hid (Rt w V2 c2 gp gh gf gm gs gr m2 us2 (K + 20) vu2 vb2 bl2 ever2 (i + 1)) := ⟨hf_, hh_, hd_, hi_, by omega, (by have : costN bs.length ≤ 2000000 := (by unfold costN; omega); omega)⟩
      clear hf_ hh_ hd_ hi_ hev_ HR
      simp only [Act.put, aS, aC, aZ]
      refine wl rfl (.bool true) _ (run_asZ (.tmp 42) rfl (.bool true) rfl) ?_
      simp only [Act.put, aS, aC, aZ]
      refine wpList_nil ?_
      go_upto_region 11 with fail
      refine wp_region_lit ?_
      refine wl rfl (.bool true) _ (run_mvZ (.tmp 12) rfl (.bool true) rfl) ?_
      simp only [Act.put, aS, aC, aZ]
      refine wl rfl (.bool false) _ (run_not (.tmp 43) 4 rfl true rfl) ?_
      simp only [Act.put, aS, aC, aZ]
      refine wpList_nil ?_
      go_wp2_with fail
      refine ⟨⟨i + 1, by go_num, by omega, by omega, ⟨_, _, _, _, _, _, _, _, HR2.out⟩⟩, ?_⟩
      simp [intOf]; omega
    · obtain ⟨c1, hc1⟩ : ∃ r, decide ((i : Int) < (L.length : Int)) = r := ⟨_, rfl⟩
      have h12 : c1 = true → ¬ i < 12 := (fun h h2 => hlt ⟨by have := of_decide_eq_true (hc1.trans h); omega, h2⟩)
      go_upto_region 8 with fail
      refine wp_region_lit ?_
      refine wl rfl (.int .i64 (i : Nat)) _ (run_mvZ (.tmp 11) rfl (.int .i64 (i : Nat)) rfl) ?_
      simp only [Act.put, aS, aC, aZ]
      refine wl rfl vl _ (run_mvZ (.tmp 0) rfl vl rfl) ?_
      simp only [Act.put, aS, aC, aZ]
      refine wl rfl (.int .i64 (L.length : Nat)) _ (run_lenR HM.out.2.2.1 (.tmp 27) rfl rfl) ?_
      simp only [Act.put, aS, aC, aZ]
      refine wl rfl (.bool c1) _ (run_lssZ (.tmp 26) (.tmp 28) rfl (i : Nat) (L.length : Nat) rfl rfl c1 hc1) ?_
      simp only [Act.put, aS, aC, aZ]
      refine wl rfl (.bool c1) _ (run_mvZ (.tmp 29) rfl (.bool c1) rfl) ?_
      simp only [Act.put, aS, aC, aZ]
      refine wl_may c1 (by cases c1 <;> kernel_rfl) (.int .i64 (i : Nat)) (fun hc => run_mvZ (.tmp 11) rfl (.int .i64 (i : Nat)) rfl) ?_
      intro s31 hs31
      simp only [Act.put, aS, aC, aZ]
      refine wl_may c1 (by cases c1 <;> kernel_rfl) (.bool false) (fun hc => run_lssZ (.tmp 31) (.const (.int .i64 12)) rfl (i : Nat) 12 (by exact hs31 hc) rfl false (decide_eq_false (by have := h12 hc; omega))) ?_
      intro s32 hs32
      simp only [Act.put, aS, aC, aZ]
      refine wl rfl (.bool false) _ (run_pickZ (.tmp 30) (.tmp 32) (.const (.bool false)) rfl c1 (.bool false) rfl (by cases c1; rfl; exact hs32 rfl)) ?_
      simp only [Act.put, aS, aC, aZ]
      refine wpList_nil ?_
      go_upto_region 13 with fail
      refine wp_region_lit ?_
      refine wl rfl (.int .i64 za) _ (run_mvZ (.tmp 1) rfl (.int .i64 za) rfl) ?_
      simp only [Act.put, aS, aC, aZ]
      refine wpList_callW eN11 [.tmp 45, .const (.int .i64 200)] _ rfl rfl [(.int .i64 za), (.int .i64 200)] rfl ?_
      refine (which_any wr za 200 (by decide) HM.out.2.2.2.1.1 HM.out.2.2.2.1.2).mono ?_
      rintro e X_ ⟨he_, rfl⟩
      rw [HW.out.1] at he_
      subst he_
      refine ⟨_, rfl, ?_⟩
      simp only [Act.put, aS, aC, aZ]
      refine wl rfl (.int .i64 (aw : Nat)) _ (run_asZ (.tmp 46) rfl (.int .i64 (aw : Nat)) rfl) ?_
      simp only [Act.put, aS, aC, aZ]
      refine wpList_nil ?_
      go_upto_region 14 with fail
      refine wp_region_lit ?_
      refine wl rfl (.int .i64 zt) _ (run_mvZ (.tmp 2) rfl (.int .i64 zt) rfl) ?_
      simp only [Act.put, aS, aC, aZ]
      refine wpList_callW eN11 [.tmp 47, .const (.int .i64 64)] _ rfl rfl [(.int .i64 zt), (.int .i64 64)] rfl ?_
      refine (which_any wr zt 64 (by decide) HM.out.2.2.2.2.1 HM.out.2.2.2.2.2).mono ?_
      rintro e X_ ⟨he_, rfl⟩
      rw [HW.out.2] at he_
      subst he_
      refine ⟨_, rfl, ?_⟩
      simp only [Act.put, aS, aC, aZ]
      refine wl rfl (.int .i64 (pw : Nat)) _ (run_asZ (.tmp 48) rfl (.int .i64 (pw : Nat)) rfl) ?_
      simp only [Act.put, aS, aC, aZ]
      refine wpList_nil ?_
      go_upto_region 15 with fail
      refine wp_region_lit ?_
      refine wl rfl (ptr gs) _ (run_mvZ (.tmp 10) rfl (ptr gs) rfl) ?_
      simp only [Act.put, aS, aC, aZ]
      refine wl rfl (ptr gs) _ (run_nil (.tmp 49) rfl ⟨gs, 0, none⟩ rfl) ?_
      simp only [Act.put, aS, aC, aZ]
      refine wl rfl (.pointer (some ⟨gs, 0 + 0, none⟩)) _ (run_fieldOp' f38_0 (.tmp 50) rfl gs (0) rfl) ?_
      simp only [Act.put, aS, aC, aZ]
      refine wl rfl (ptr gp) _ (run_load1 o34 (.tmp 51) rfl gs (0 + 0) rfl (ptr gp) (HR.out.d.row.at 0 _ rfl)) ?_
      simp only [Act.put, aS, aC, aZ]
      refine wl rfl (.int .i64 (aw : Nat)) _ (run_mvZ (.tmp 1) rfl (.int .i64 (aw : Nat)) rfl) ?_
      simp only [Act.put, aS, aC, aZ]
      refine wl rfl (.int .i64 (pw : Nat)) _ (run_mvZ (.tmp 2) rfl (.int .i64 (pw : Nat)) rfl) ?_
      simp only [Act.put, aS, aC, aZ]
      refine wl rfl (.int .i64 zy) _ (run_mvZ (.tmp 3) rfl (.int .i64 zy) rfl) ?_
      simp only [Act.put, aS, aC, aZ]
      refine wpList_callW eN24 [.tmp 52, .const (.int .i64 1), .tmp 53, .tmp 54, .tmp 55] _ rfl rfl [(ptr gp), .int .i64 1, (.int .i64 (aw : Nat)), (.int .i64 (pw : Nat)), (.int .i64 zy)] rfl ?_
      refine (HR.out.h.rot aw pw zy ha200 hp64).mono ?_
      rintro e V3 ⟨rb, c3, m3, rfl, hs_, hx_⟩
      refine ⟨_, rfl, ?_⟩
      have H3 : Hid ((Sd w V3 c3 gp gh gf gm gs gr 200 us vu vb bl ever 0) ∧ (HtX w V3 c3 gp gh gf gm m3 200 us K aw pw (byte8 zy)) ∧ (us.map toP).length = us.length) := ⟨HR.out.d.sq hs_, hx_, List.length_map _⟩
      have hul := HR.out.h.ok.2
      clear hs_ hx_ HR
      simp only [Act.put, aS, aC, aZ]
      refine wpList_nil ?_
      go_upto_region 16 with fail
      refine wp_region_lit ?_
      refine wl rfl (.int .i64 0) _ (run_asZ (.const (.int .i64 0)) rfl (.int .i64 0) rfl) ?_
      simp only [Act.put, aS, aC, aZ]
      refine wpList_nil ?_
      go_wp2_with fail
      go_loopw [13] (fun vi W' => ∃ k : Nat, vi = .int .i64 (k : Nat) ∧ k ≤ us.length ∧ Hid (Below V3.heap.size V3 W')) (fun vi _ => us.length - (intOf vi).toNat)
      case atStart => exact ⟨0, rfl, Nat.zero_le _, Below.refl _ _⟩
      case round =>
        obtain ⟨k, rfl, hk, HI⟩ := hrel
        have HD : Hid ((Sd w wr c3 gp gh gf gm gs gr 200 us vu vb bl ever 0) ∧ (HtX w wr c3 gp gh gf gm m3 200 us K aw pw (byte8 zy))) := ⟨H3.out.1.bel HI.out, H3.out.2.1.bel HI.out⟩
        by_cases hlk : k < us.length
        · go_upto_region 17 with fail
          refine wp_region_lit ?_
          refine wl rfl (.int .i64 (k : Nat)) _ (run_mvZ (.tmp 13) rfl (.int .i64 (k : Nat)) rfl) ?_
          simp only [Act.put, aS, aC, aZ]
          refine wl rfl (ptr gs) _ (run_mvZ (.tmp 10) rfl (ptr gs) rfl) ?_
          simp only [Act.put, aS, aC, aZ]
          refine wl rfl (ptr gs) _ (run_nil (.tmp 58) rfl ⟨gs, 0, none⟩ rfl) ?_
          simp only [Act.put, aS, aC, aZ]
          refine wl rfl (.pointer (some ⟨gs, 0 + 2, none⟩)) _ (run_fieldOp' f38_2 (.tmp 59) rfl gs (0) rfl) ?_
          simp only [Act.put, aS, aC, aZ]
          refine wl rfl (ptr gr) _ (run_load1 o36 (.tmp 60) rfl gs (0 + 2) rfl (ptr gr) (HD.out.1.row.at 2 _ rfl)) ?_
          simp only [Act.put, aS, aC, aZ]
          refine wl rfl (ptr gr) _ (run_nil (.tmp 61) rfl ⟨gr, 0, none⟩ rfl) ?_
          simp only [Act.put, aS, aC, aZ]
          refine wl rfl (.pointer (some ⟨gr, 0 + 2, none⟩)) _ (run_fieldOp' f60_2 (.tmp 62) rfl gr (0) rfl) ?_
          simp only [Act.put, aS, aC, aZ]
          refine wl rfl vu _ (run_load1 o43 (.tmp 63) rfl gr (0 + 2) rfl vu (HD.out.1.r.row.at 2 _ rfl)) ?_
          simp only [Act.put, aS, aC, aZ]
          refine wl rfl (.int .i64 (us.length : Nat)) _ (run_lenPI H3.out.1.r.u H3.out.2.2 (.tmp 64) rfl rfl) ?_
          simp only [Act.put, aS, aC, aZ]
          refine wl rfl (.bool true) _ (run_lssZ (.tmp 57) (.tmp 65) rfl (k : Nat) (us.length : Nat) rfl rfl true (decide_eq_true (by omega))) ?_
          simp only [Act.put, aS, aC, aZ]
          refine wpList_nil ?_
          obtain ⟨u, hu⟩ : ∃ u, u = us.getD k default := ⟨_, rfl⟩
          obtain ⟨vi, hvi⟩ : ∃ v, v = bl.getD k default := ⟨_, rfl⟩
          have hum : u ∈ us := hu ▸ getD_in us k hlk
          obtain ⟨bu, _, hx_, hc_⟩ := H3.out.1.r.u.ix k (by rw [H3.out.2.2]; exact hlk)
          obtain ⟨bb, hxb, hcb⟩ := row57 H3.out.1.r.b k hlk
          have hsi := H3.out.1.r.s k hlk
          rw [toP_at us k hlk, ← hu] at hc_
          rw [← hvi] at hcb hsi
          rw [← hu] at hsi
          obtain ⟨hh1, hh2, _⟩ := H3.out.2.1.rots u hum
          have hc9 := costN_le hh1
          have hub : u.1 ≤ 100000 := (by obtain ⟨_, _, _, _, h2, _, h4⟩ := H3.out.2.1.hot; have h5 := h2.ok (plc u) (List.mem_map.2 ⟨u, hum, rfl⟩); have h6 : (plc u).1 = u.1 := rfl; rw [h4] at h5; omega)
          have HZ : Hid ((∀ w', (Instr.indexAt 43 vu (.int .i64 (k : Nat))).run Tryd.prog w' = .ok (.pointer (some ⟨bu, k * 4, none⟩)) w') ∧ (∀ W' : World, PlO W' vu (us.map toP) → ∀ j x, (toP u).cells[j]? = some x → W'.cell? ⟨bu, k * 4 + j, none⟩ = some x) ∧ (∀ w', (Instr.indexAt 57 vb (.int .i64 (k : Nat))).run Tryd.prog w' = .ok (.pointer (some ⟨bb, k * 1, none⟩)) w') ∧ (∀ W' : World, W'.ownsRow 0 28 1 vb us.length bl → W'.cell? ⟨bb, k * 1, none⟩ = some vi) ∧ SliceIn V3 vi u.2 ∧ u ∈ us) := ⟨hx_, hc_, hxb, hcb, BOwn.slice hsi.1 hh2 (by omega), hum⟩
          clear hu hvi hum hx_ hc_ hxb hcb hsi hh1 hh2
          go_upto_region 19 with fail
          refine wp_region_lit ?_
          refine wl rfl (ptr gs) _ (run_mvZ (.tmp 10) rfl (ptr gs) rfl) ?_
          simp only [Act.put, aS, aC, aZ]
          refine wl rfl (ptr gs) _ (run_nil (.tmp 69) rfl ⟨gs, 0, none⟩ rfl) ?_
          simp only [Act.put, aS, aC, aZ]
          refine wl rfl (.pointer (some ⟨gs, 0 + 2, none⟩)) _ (run_fieldOp' f38_2 (.tmp 70) rfl gs (0) rfl) ?_
          simp only [Act.put, aS, aC, aZ]
          refine wl rfl (ptr gr) _ (run_load1 o36 (.tmp 71) rfl gs (0 + 2) rfl (ptr gr) (HD.out.1.row.at 2 _ rfl)) ?_
          simp only [Act.put, aS, aC, aZ]
          refine wl rfl (ptr gr) _ (run_nil (.tmp 72) rfl ⟨gr, 0, none⟩ rfl) ?_
          simp only [Act.put, aS, aC, aZ]
          refine wl rfl (.pointer (some ⟨gr, 0 + 2, none⟩)) _ (run_fieldOp' f60_2 (.tmp 73) rfl gr (0) rfl) ?_
          simp only [Act.put, aS, aC, aZ]
          refine wl rfl vu _ (run_load1 o43 (.tmp 74) rfl gr (0 + 2) rfl vu (HD.out.1.r.row.at 2 _ rfl)) ?_
          simp only [Act.put, aS, aC, aZ]
          refine wl rfl (.int .i64 (k : Nat)) _ (run_mvZ (.tmp 13) rfl (.int .i64 (k : Nat)) rfl) ?_
          simp only [Act.put, aS, aC, aZ]
          refine wl rfl (.pointer (some ⟨bu, k * 4, none⟩)) _ (run_idx (.tmp 75) (.tmp 76) rfl _ _ _ rfl rfl HZ.out.1) ?_
          simp only [Act.put, aS, aC, aZ]
          refine wl rfl (.agg ((toP u).cells).toArray) _ (run_loadA ag30 (.tmp 77) rfl bu (k * 4) rfl ((toP u).cells) rfl (HZ.out.2.1 _ HD.out.1.r.u)) ?_
          simp only [Act.put, aS, aC, aZ]
          refine wl rfl (ptr wr.heap.size) _ (run_allocA (plC 0 0 0 false) zero30 rfl) ?_
          have hb_ := below_alloc wr (.cells (plC 0 0 0 false).toArray 30)
          have r_ := Row.new wr 30 (plC 0 0 0 false)
          obtain ⟨X1, hW_⟩ : ∃ U_ : World, U_ = wr.alloc (.cells (plC 0 0 0 false).toArray 30) := ⟨_, rfl⟩
          obtain ⟨q14, hq_⟩ : ∃ q, q = wr.heap.size := ⟨_, rfl⟩
          rw [← hW_] at hb_
          rw [← hW_, ← hq_] at r_
          rw [← hW_, ← hq_]
          have HQ0 : Hid (Row X1 q14 30 (plC 0 0 0 false) ∧ Below wr.heap.size wr X1 ∧ wr.heap.size ≤ q14) := ⟨r_, hb_, by omega⟩
          clear r_ hb_ hW_ hq_
          simp only [Act.put, aS, aC, aZ]
          refine wlS rfl rfl _ (run_storeA ag30 (.tmp 14) (.tmp 78) rfl q14 30 rfl (toP u).cells _ rfl rfl HQ0.out.1 rfl (plC_one _ _ _ _)) ?_
          have hb_ := (Ch.setRow (S := (· = q14)) (Ch.refl _ X1) (Or.inl rfl) (toP u).cells.toArray)
          have r_ := HQ0.out.1.setRow (toP u).cells
          obtain ⟨X2, hW_⟩ : ∃ U_ : World, U_ = X1.setRow q14 (toP u).cells.toArray := ⟨_, rfl⟩
          rw [← hW_] at hb_ r_ ⊢
          have hbb := HQ0.out.2.1.trans (hb_.below HQ0.out.2.1.size fun j hj e => by have := HQ0.out.2.2; omega)
          have HQ : Hid (Row X2 q14 30 (toP u).cells) := r_
          replace HI : Hid (Below V3.heap.size V3 X2) := HI.out.trans (hbb.mono HI.out.size)
          replace HD : Hid ((Sd w X2 c3 gp gh gf gm gs gr 200 us vu vb bl ever 0) ∧ (HtX w X2 c3 gp gh gf gm m3 200 us K aw pw (byte8 zy))) := ⟨HD.out.1.bel hbb, HD.out.2.bel hbb⟩
          clear hbb hW_ r_ hb_ HQ0
          refine wpList_nil ?_
          go_upto_region 20 with fail
          refine wp_region_held (S := fun X => Row X gs 38 (scells gp gh gr (ever : Nat) (0 : Nat)) ∧ Row X q14 30 (toP u).cells) (by kernel_rfl) ?_
          show wpAnyH _ _ _ _ _ 11 (Array.replicate 11 false) _ _
          obtain ⟨X, hX⟩ : ∃ X : World, X = { X2 with drawn := X2.drawn + 1 } := ⟨_, rfl⟩
          rw [← hX]
          have HBX : Hid (Below X2.heap.size X2 X) := (by rw [hX]; exact ⟨rfl, rfl, rfl, Nat.le_refl _, fun _ _ => rfl⟩)
          replace HI : Hid (Below V3.heap.size V3 X) := HI.out.trans (HBX.out.mono HI.out.size)
          replace HD : Hid ((Sd w X c3 gp gh gf gm gs gr 200 us vu vb bl ever 0) ∧ (HtX w X c3 gp gh gf gm m3 200 us K aw pw (byte8 zy))) := ⟨HD.out.1.bel HBX.out, HD.out.2.bel HBX.out⟩
          replace HQ : Hid (Row X q14 30 (toP u).cells) := HQ.out.later HBX.out HQ.out.lt
          clear HBX
          have HS_ : Row X gs 38 (scells gp gh gr (ever : Nat) (0 : Nat)) ∧ Row X q14 30 (toP u).cells := ⟨HD.out.1.row, HQ.out⟩
          clear hX
          refine takeH (i := 0) (some 80) rfl rfl (by kernel_rfl) (by kernel_rfl) (by kernel_rfl) (fun _ _ _ h => h) (gRun rfl (ptr gs) fun _ h => run_mvZ (.tmp 10) rfl (ptr gs) rfl) HS_ ?_
          simp only [Act.put, aS, aC, aZ]
          refine takeH (i := 1) (some 81) rfl rfl (by kernel_rfl) (by kernel_rfl) (by kernel_rfl) (fun _ _ _ h => h) (gRun rfl (ptr gs) fun _ h => run_nil (.tmp 80) rfl ⟨gs, 0, none⟩ rfl) HS_ ?_
          simp only [Act.put, aS, aC, aZ]
          refine takeH (i := 2) (some 82) rfl rfl (by kernel_rfl) (by kernel_rfl) (by kernel_rfl) (fun _ _ _ h => h) (gRun rfl (.pointer (some ⟨gs, 0 + 1, none⟩)) fun _ h => run_fieldOp' f38_1 (.tmp 81) rfl gs (0) rfl) HS_ ?_
          simp only [Act.put, aS, aC, aZ]
          refine takeH (i := 3) (some 83) rfl rfl (by kernel_rfl) (by kernel_rfl) (by kernel_rfl) (fun _ _ _ h => h) (gRun rfl (ptr gh) fun _ h => run_load1 o35 (.tmp 82) rfl gs (0 + 1) rfl (ptr gh) (h.1.at 1 _ rfl)) HS_ ?_
          simp only [Act.put, aS, aC, aZ]
          refine takeH (i := 4) (some 84) rfl rfl (by kernel_rfl) (by kernel_rfl) (by kernel_rfl) (fun _ _ _ h => h) (gRun rfl (.agg ((toP u).cells).toArray) fun _ h => run_loadA ag30 (.tmp 14) rfl q14 (0) rfl ((toP u).cells) rfl (rows_one h.2)) HS_ ?_
          simp only [Act.put, aS, aC, aZ]
          refine oneH (i := 5) (by kernel_rfl) ?_
          refine opCallG (some 85) rfl rfl rfl 25 _ (run_call eN25 [.tmp 83, .tmp 84] _ rfl [(ptr gh), (.agg ((toP u).cells).toArray)] rfl) ?_
          refine (HD.out.2.readR (by omega) hp64 (byte8_lt zy) HZ.out.2.2.2.2.2).mono ?_
          rintro e Y1 ⟨hb_, v, er, b, rfl, hv_, ho_⟩
          refine ⟨_, rfl, ?_⟩
          have HV : Hid (SliceIn Y1 v b ∧ OutR u aw pw er b) := ⟨hv_, ho_⟩
          replace HI : Hid (Below V3.heap.size V3 Y1) := HI.out.trans (hb_.mono HI.out.size)
          replace HD : Hid ((Sd w Y1 c3 gp gh gf gm gs gr 200 us vu vb bl ever 0) ∧ (HtX w Y1 c3 gp gh gf gm m3 200 us K aw pw (byte8 zy))) := ⟨HD.out.1.bel hb_, HD.out.2.bel hb_⟩
          replace HQ : Hid (Row Y1 q14 30 (toP u).cells) := HQ.out.later hb_ HQ.out.lt
          replace HS_ : Row Y1 gs 38 (scells gp gh gr (ever : Nat) (0 : Nat)) ∧ Row Y1 q14 30 (toP u).cells := ⟨HD.out.1.row, HQ.out⟩
          clear hv_ hb_ ho_
          refine ⟨HS_, ?_⟩
          simp only [Act.put, aS, aC, aZ]
          refine takeH (i := 6) (some 79) rfl rfl (by kernel_rfl) (by kernel_rfl) (by kernel_rfl) (fun _ _ _ h => h) (gRun rfl (.tuple #[v, (.int .i64 er)]) fun _ h => run_mvZ (.tmp 85) rfl (.tuple #[v, (.int .i64 er)]) rfl) HS_ ?_
          simp only [Act.put, aS, aC, aZ]
          refine takeH (i := 7) (some 86) rfl rfl (by kernel_rfl) (by kernel_rfl) (by kernel_rfl) (fun _ _ _ h => h) (gRun rfl v fun _ h => run_extZ (.tmp 79) 0 rfl #[v, (.int .i64 er)] rfl v rfl) HS_ ?_
          simp only [Act.put, aS, aC, aZ]
          refine takeH (i := 8) (some 87) rfl rfl (by kernel_rfl) (by kernel_rfl) (by kernel_rfl) (fun _ _ _ h => h) (gRun rfl (.int .i64 er) fun _ h => run_extZ (.tmp 79) 1 rfl #[v, (.int .i64 er)] rfl (.int .i64 er) rfl) HS_ ?_
          simp only [Act.put, aS, aC, aZ]
          refine takeH (i := 9) (some 15) rfl rfl (by kernel_rfl) (by kernel_rfl) (by kernel_rfl) (fun _ _ _ h => h) (gRun rfl v fun _ h => run_asZ (.tmp 86) rfl v rfl) HS_ ?_
          simp only [Act.put, aS, aC, aZ]
          refine takeH (i := 10) (some 16) rfl rfl (by kernel_rfl) (by kernel_rfl) (by kernel_rfl) (fun _ _ _ h => h) (gRun rfl (.int .i64 er) fun _ h => run_asZ (.tmp 87) rfl (.int .i64 er) rfl) HS_ ?_
          simp only [Act.put, aS, aC, aZ]
          refine wpAnyH_done (by kernel_rfl) ?_ _
          clear HS_
          obtain ⟨sb, hsb⟩ : ∃ r, decide ((strOfNums (b.map Int.ofNat)).toList = (strOfNums (u.2.map Int.ofNat)).toList) = r := ⟨_, rfl⟩
          have ho := HV.out.2
          have HOK : Hid (er = 4 → b = []) := (fun e => by rcases ho with h | h | h; (have := h.1; omega); exact h.2.2.2; (have := h.2.2.1; omega))
          clear HOK
          rcases (show (er = 0 ∧ sb = true) ∨ (er = 4 ∧ b.length = 0 ∧ u.1 ≤ aw ∧ aw < u.1 + costN u.2.length) ∨ (er = 0 ∧ sb = false ∧ u.1 = aw ∧ pw < 4 ∧ b.length ≤ 512) from (by
            rcases ho with ⟨h1, h2⟩ | ⟨h1, h2, h3, h4⟩ | ⟨h1, h2, h3, h4⟩
            · exact Or.inl ⟨h1, by rw [← hsb, h2]; exact decide_eq_true rfl⟩
            · exact Or.inr (Or.inl ⟨h3, by rw [h4]; rfl, h1, h2⟩)
            · cases sb
              · exact Or.inr (Or.inr ⟨h3, rfl, h1, h2, h4⟩)
              · exact Or.inl ⟨h3, rfl⟩)) with ⟨he0, hsb1⟩ | ⟨he4, hb0, hh1, hh2⟩ | ⟨he0, hsb0, hh1, hh2, hh3⟩
          · subst he0
            replace hsb := hsb.trans (hsb1.trans HBT.out.symm)
            clear hsb1 ho
            go_upto_region 21 with fail
            refine wp_region_held (S := fun X => Row X gs 38 (scells gp gh gr (ever : Nat) (0 : Nat)) ∧ Row X gr 60 [.int .i64 1, .int .i64 ((200 : Nat) : Int), vu, vb] ∧ X.ownsRow 0 28 1 vb us.length bl ∧ SliceIn X v b ∧ SliceIn X vi u.2) (by kernel_rfl) ?_
            show wpAnyH _ _ _ _ _ 19 (Array.replicate 19 false) _ _
            obtain ⟨X, hX⟩ : ∃ X : World, X = { Y1 with drawn := Y1.drawn + 1 } := ⟨_, rfl⟩
            rw [← hX]
            have HBX : Hid (Below Y1.heap.size Y1 X) := (by rw [hX]; exact ⟨rfl, rfl, rfl, Nat.le_refl _, fun _ _ => rfl⟩)
            replace HI : Hid (Below V3.heap.size V3 X) := HI.out.trans (HBX.out.mono HI.out.size)
            replace HD : Hid ((Sd w X c3 gp gh gf gm gs gr 200 us vu vb bl ever 0) ∧ (HtX w X c3 gp gh gf gm m3 200 us K aw pw (byte8 zy))) := ⟨HD.out.1.bel HBX.out, HD.out.2.bel HBX.out⟩
            replace HQ : Hid (Row X q14 30 (toP u).cells) := HQ.out.later HBX.out HQ.out.lt
            replace HV : Hid (SliceIn X v b) := sliceK HV.out.1 fun g _ hlt => HBX.out.block g hlt
            clear HBX
            have HS_ : Row X gs 38 (scells gp gh gr (ever : Nat) (0 : Nat)) ∧ Row X gr 60 [.int .i64 1, .int .i64 ((200 : Nat) : Int), vu, vb] ∧ X.ownsRow 0 28 1 vb us.length bl ∧ SliceIn X v b ∧ SliceIn X vi u.2 := ⟨HD.out.1.row, HD.out.1.r.row, HD.out.1.r.b, HV.out, sliceK HZ.out.2.2.2.2.1 fun g _ hlt => HI.out.block g hlt⟩
            clear hX
            refine takeH (i := 0) (some 88) rfl rfl (by kernel_rfl) (by kernel_rfl) (by kernel_rfl) (fun _ _ _ h => h) (gRun rfl (.int .i64 0) fun _ h => run_mvZ (.tmp 16) rfl (.int .i64 0) rfl) HS_ ?_
            simp only [Act.put, aS, aC, aZ]
            refine takeH (i := 1) (some 89) rfl rfl (by kernel_rfl) (by kernel_rfl) (by kernel_rfl) (fun _ _ _ h => h) (gRun rfl (.bool true) fun _ h => run_eqZ (.tmp 88) (.const (.int .i64 0)) rfl (0) (0) rfl rfl true rfl) HS_ ?_
            simp only [Act.put, aS, aC, aZ]
            refine takeH (i := 2) (some 90) rfl rfl (by kernel_rfl) (by kernel_rfl) (by kernel_rfl) (fun _ _ _ h => h) (gRun rfl (.bool true) fun _ h => run_mvZ (.tmp 89) rfl (.bool true) rfl) HS_ ?_
            simp only [Act.put, aS, aC, aZ]
            refine takeH (i := 3) (some 91) rfl rfl (by kernel_rfl) (by kernel_rfl) (by kernel_rfl) (fun _ _ _ h => h) (gRun (by kernel_rfl) v fun _ h => run_mvZ (.tmp 15) rfl v rfl) HS_ ?_
            simp only [Act.put, aS, aC, aZ]
            refine takeH (i := 4) (some 92) rfl rfl (by kernel_rfl) (by kernel_rfl) (by kernel_rfl) (fun _ _ _ h => h) (gRun (by kernel_rfl) (.string (strOfNums (b.map Int.ofNat))) fun _ h => run_str (.tmp 91) rfl v b rfl h.2.2.2.1) HS_ ?_
            simp only [Act.put, aS, aC, aZ]
            refine takeH (i := 5) (some 93) rfl rfl (by kernel_rfl) (by kernel_rfl) (by kernel_rfl) (fun _ _ _ h => h) (gRun (by kernel_rfl) (ptr gs) fun _ h => run_mvZ (.tmp 10) rfl (ptr gs) rfl) HS_ ?_
            simp only [Act.put, aS, aC, aZ]
            refine takeH (i := 6) (some 94) rfl rfl (by kernel_rfl) (by kernel_rfl) (by kernel_rfl) (fun _ _ _ h => h) (gRun (by kernel_rfl) (ptr gs) fun _ h => run_nil (.tmp 93) rfl ⟨gs, 0, none⟩ rfl) HS_ ?_
            simp only [Act.put, aS, aC, aZ]
            refine takeH (i := 7) (some 95) rfl rfl (by kernel_rfl) (by kernel_rfl) (by kernel_rfl) (fun _ _ _ h => h) (gRun (by kernel_rfl) (.pointer (some ⟨gs, 0 + 2, none⟩)) fun _ h => run_fieldOp' f38_2 (.tmp 94) rfl gs (0) rfl) HS_ ?_
            simp only [Act.put, aS, aC, aZ]
            refine takeH (i := 8) (some 96) rfl rfl (by kernel_rfl) (by kernel_rfl) (by kernel_rfl) (fun _ _ _ h => h) (gRun (by kernel_rfl) (ptr gr) fun _ h => run_load1 o36 (.tmp 95) rfl gs (0 + 2) rfl (ptr gr) (h.1.at 2 _ rfl)) HS_ ?_
            simp only [Act.put, aS, aC, aZ]
            refine takeH (i := 9) (some 97) rfl rfl (by kernel_rfl) (by kernel_rfl) (by kernel_rfl) (fun _ _ _ h => h) (gRun (by kernel_rfl) (ptr gr) fun _ h => run_nil (.tmp 96) rfl ⟨gr, 0, none⟩ rfl) HS_ ?_
            simp only [Act.put, aS, aC, aZ]
            refine takeH (i := 10) (some 98) rfl rfl (by kernel_rfl) (by kernel_rfl) (by kernel_rfl) (fun _ _ _ h => h) (gRun (by kernel_rfl) (.pointer (some ⟨gr, 0 + 3, none⟩)) fun _ h => run_fieldOp' f60_3 (.tmp 97) rfl gr (0) rfl) HS_ ?_
            simp only [Act.put, aS, aC, aZ]
            refine takeH (i := 11) (some 99) rfl rfl (by kernel_rfl) (by kernel_rfl) (by kernel_rfl) (fun _ _ _ h => h) (gRun (by kernel_rfl) vb fun _ h => run_load1 o57 (.tmp 98) rfl gr (0 + 3) rfl vb (h.2.1.at 3 _ rfl)) HS_ ?_
            simp only [Act.put, aS, aC, aZ]
            refine takeH (i := 12) (some 100) rfl rfl (by kernel_rfl) (by kernel_rfl) (by kernel_rfl) (fun _ _ _ h => h) (gRun (by kernel_rfl) (.int .i64 (k : Nat)) fun _ h => run_mvZ (.tmp 13) rfl (.int .i64 (k : Nat)) rfl) HS_ ?_
            simp only [Act.put, aS, aC, aZ]
            refine takeH (i := 13) (some 101) rfl rfl (by kernel_rfl) (by kernel_rfl) (by kernel_rfl) (fun _ _ _ h => h) (gRun (by kernel_rfl) (.pointer (some ⟨bb, k * 1, none⟩)) fun _ h => run_idx (.tmp 99) (.tmp 100) rfl _ _ _ rfl rfl HZ.out.2.2.1) HS_ ?_
            simp only [Act.put, aS, aC, aZ]
            refine takeH (i := 14) (some 102) rfl rfl (by kernel_rfl) (by kernel_rfl) (by kernel_rfl) (fun _ _ _ h => h) (gRun (by kernel_rfl) vi fun _ h => run_load1 o28 (.tmp 101) rfl bb (k * 1) rfl vi (HZ.out.2.2.2.1 _ h.2.2.1)) HS_ ?_
            simp only [Act.put, aS, aC, aZ]
            refine takeH (i := 15) (some 103) rfl rfl (by kernel_rfl) (by kernel_rfl) (by kernel_rfl) (fun _ _ _ h => h) (gRun (by kernel_rfl) (.string (strOfNums (u.2.map Int.ofNat))) fun _ h => run_str (.tmp 102) rfl vi u.2 rfl h.2.2.2.2) HS_ ?_
            simp only [Act.put, aS, aC, aZ]
            refine takeH (i := 16) (some 104) rfl rfl (by kernel_rfl) (by kernel_rfl) (by kernel_rfl) (fun _ _ _ h => h) (gRun (by kernel_rfl) (.bool bt) fun _ h => run_eqSr (.tmp 92) (.tmp 103) rfl _ _ rfl rfl bt hsb) HS_ ?_
            simp only [Act.put, aS, aC, aZ]
            refine takeH (i := 17) (some 105) rfl rfl (by kernel_rfl) (by kernel_rfl) (by kernel_rfl) (fun _ _ _ h => h) (gRun rfl (.bool bt) fun _ h => run_pickZ (.tmp 90) (.tmp 104) (.const (.bool false)) rfl true (.bool bt) rfl rfl) HS_ ?_
            simp only [Act.put, aS, aC, aZ]
            refine takeH (i := 18) (some 17) rfl rfl (by kernel_rfl) (by kernel_rfl) (by kernel_rfl) (fun _ _ _ h => h) (gRun rfl (.bool bt) fun _ h => run_asZ (.tmp 105) rfl (.bool bt) rfl) HS_ ?_
            simp only [Act.put, aS, aC, aZ]
            refine wpAnyH_done (by kernel_rfl) ?_ _
            clear HS_
            obtain ⟨h1, hh1_⟩ : ∃ r, decide (((u.1 : Nat) : Int) ≤ (aw : Nat)) = r := ⟨_, rfl⟩
            obtain ⟨h2, hh2_⟩ : ∃ r, decide (((aw : Nat) : Int) < ((u.1 + costN u.2.length : Nat) : Int)) = r := ⟨_, rfl⟩
            obtain ⟨hb, hhb_⟩ : ∃ r, (if h1 = true then h2 else false) = r := ⟨_, rfl⟩
            obtain ⟨b1, hb1_⟩ : ∃ r, decide (((aw : Nat) : Int) = (u.1 : Nat)) = r := ⟨_, rfl⟩
            obtain ⟨b2, hb2_⟩ : ∃ r, decide (((pw : Nat) : Int) < 4) = r := ⟨_, rfl⟩
            obtain ⟨eb, heb_⟩ : ∃ r, (if b1 = true then b2 else false) = r := ⟨_, rfl⟩
            go_upto_region 22 with fail
            refine wp_region_lit ?_
            refine wl rfl (.pointer (some ⟨q14, 0 + 1, none⟩)) _ (run_fieldOp' f30_1 (.tmp 14) rfl q14 (0) rfl) ?_
            simp only [Act.put, aS, aC, aZ]
            refine wl rfl (.int .i64 (u.1 : Nat)) _ (run_load1 o3 (.tmp 106) rfl q14 (0 + 1) rfl (.int .i64 (u.1 : Nat)) (HQ.out.at 1 _ rfl)) ?_
            simp only [Act.put, aS, aC, aZ]
            refine wl rfl (.int .i64 (aw : Nat)) _ (run_mvZ (.tmp 1) rfl (.int .i64 (aw : Nat)) rfl) ?_
            simp only [Act.put, aS, aC, aZ]
            refine wl rfl (.bool h1) _ (run_leqZ (.tmp 107) (.tmp 108) rfl (u.1 : Nat) (aw : Nat) rfl rfl h1 hh1_) ?_
            simp only [Act.put, aS, aC, aZ]
            refine wl rfl (.bool h1) _ (run_mvZ (.tmp 109) rfl (.bool h1) rfl) ?_
            simp only [Act.put, aS, aC, aZ]
            refine wl_may h1 (by cases h1 <;> kernel_rfl) (.int .i64 (aw : Nat)) (fun hc => run_mvZ (.tmp 1) rfl (.int .i64 (aw : Nat)) rfl) ?_
            intro s111 hs111
            simp only [Act.put, aS, aC, aZ]
            refine wl_may h1 (by cases h1 <;> kernel_rfl) (.pointer (some ⟨q14, 0 + 1, none⟩)) (fun hc => run_fieldOp' f30_1 (.tmp 14) rfl q14 (0) rfl) ?_
            intro s112 hs112
            simp only [Act.put, aS, aC, aZ]
            refine wl_may h1 (by cases h1 <;> kernel_rfl) (.int .i64 (u.1 : Nat)) (fun hc => run_load1 o3 (.tmp 112) rfl q14 (0 + 1) (by exact hs112 hc) _ (HQ.out.at 1 _ rfl)) ?_
            intro s113 hs113
            simp only [Act.put, aS, aC, aZ]
            refine wl_may h1 (by cases h1 <;> kernel_rfl) (.pointer (some ⟨q14, 0 + 2, none⟩)) (fun hc => run_fieldOp' f30_2 (.tmp 14) rfl q14 (0) rfl) ?_
            intro s114 hs114
            simp only [Act.put, aS, aC, aZ]
            refine wl_may h1 (by cases h1 <;> kernel_rfl) (.int .i64 (costN u.2.length : Nat)) (fun hc => run_load1 o3 (.tmp 114) rfl q14 (0 + 2) (by exact hs114 hc) _ (HQ.out.at 2 _ rfl)) ?_
            intro s115 hs115
            simp only [Act.put, aS, aC, aZ]
            refine wl_may h1 (by cases h1 <;> kernel_rfl) (.int .i64 ((u.1 + costN u.2.length : Nat) : Int)) (fun hc => run_addZ (.tmp 113) (.tmp 115) rfl (u.1 : Nat) (costN u.2.length : Nat) _ (by exact hs113 hc) (by exact hs115 hc) (by omega) (by omega) (by omega)) ?_
            intro s116 hs116
            simp only [Act.put, aS, aC, aZ]
            refine wl_may h1 (by cases h1 <;> kernel_rfl) (.bool h2) (fun hc => run_lssZ (.tmp 111) (.tmp 116) rfl (aw : Nat) ((u.1 + costN u.2.length : Nat) : Int) (by exact hs111 hc) (by exact hs116 hc) h2 hh2_) ?_
            intro s117 hs117
            simp only [Act.put, aS, aC, aZ]
            refine wl rfl (.bool hb) _ (run_pickZ (.tmp 110) (.tmp 117) (.const (.bool false)) rfl h1 (.bool hb) rfl (by rw [← hhb_]; cases h1; rfl; exact hs117 rfl)) ?_
            simp only [Act.put, aS, aC, aZ]
            refine wl rfl (.bool hb) _ (run_asZ (.tmp 118) rfl (.bool hb) rfl) ?_
            simp only [Act.put, aS, aC, aZ]
            refine wpList_nil ?_
            go_upto_region 23 with fail
            refine wp_region_lit ?_
            refine wl rfl (.int .i64 (aw : Nat)) _ (run_mvZ (.tmp 1) rfl (.int .i64 (aw : Nat)) rfl) ?_
            simp only [Act.put, aS, aC, aZ]
            refine wl rfl (.pointer (some ⟨q14, 0 + 1, none⟩)) _ (run_fieldOp' f30_1 (.tmp 14) rfl q14 (0) rfl) ?_
            simp only [Act.put, aS, aC, aZ]
            refine wl rfl (.int .i64 (u.1 : Nat)) _ (run_load1 o3 (.tmp 120) rfl q14 (0 + 1) rfl (.int .i64 (u.1 : Nat)) (HQ.out.at 1 _ rfl)) ?_
            simp only [Act.put, aS, aC, aZ]
            refine wl rfl (.bool b1) _ (run_eqZ (.tmp 119) (.tmp 121) rfl (aw : Nat) (u.1 : Nat) rfl rfl b1 hb1_) ?_
            simp only [Act.put, aS, aC, aZ]
            refine wl rfl (.bool b1) _ (run_mvZ (.tmp 122) rfl (.bool b1) rfl) ?_
            simp only [Act.put, aS, aC, aZ]
            refine wl_may b1 (by cases b1 <;> kernel_rfl) (.int .i64 (pw : Nat)) (fun hc => run_mvZ (.tmp 2) rfl (.int .i64 (pw : Nat)) rfl) ?_
            intro s124 hs124
            simp only [Act.put, aS, aC, aZ]
            refine wl_may b1 (by cases b1 <;> kernel_rfl) (.bool b2) (fun hc => run_lssZ (.tmp 124) (.const (.int .i64 4)) rfl (pw : Nat) 4 (by exact hs124 hc) rfl b2 hb2_) ?_
            intro s125 hs125
            simp only [Act.put, aS, aC, aZ]
            refine wl rfl (.bool eb) _ (run_pickZ (.tmp 123) (.tmp 125) (.const (.bool false)) rfl b1 (.bool eb) rfl (by rw [← heb_]; cases b1; rfl; exact hs125 rfl)) ?_
            simp only [Act.put, aS, aC, aZ]
            refine wl rfl (.bool eb) _ (run_asZ (.tmp 126) rfl (.bool eb) rfl) ?_
            simp only [Act.put, aS, aC, aZ]
            refine wpList_nil ?_
            obtain rfl : bt = true := HBT.out
            go_wp2_with fail
            refine ⟨⟨k + 1, by go_num, by omega, HI⟩, ?_⟩
            simp [intOf]; omega
          · subst he4
            clear ho
            go_upto_region 21 with fail
            refine wp_region_held (S := fun X => Row X gs 38 (scells gp gh gr (ever : Nat) (0 : Nat)) ∧ Row X gr 60 [.int .i64 1, .int .i64 ((200 : Nat) : Int), vu, vb] ∧ X.ownsRow 0 28 1 vb us.length bl ∧ SliceIn X v b ∧ SliceIn X vi u.2) (by kernel_rfl) ?_
            show wpAnyH _ _ _ _ _ 19 (Array.replicate 19 false) _ _
            obtain ⟨X, hX⟩ : ∃ X : World, X = { Y1 with drawn := Y1.drawn + 1 } := ⟨_, rfl⟩
            rw [← hX]
            have HBX : Hid (Below Y1.heap.size Y1 X) := (by rw [hX]; exact ⟨rfl, rfl, rfl, Nat.le_refl _, fun _ _ => rfl⟩)
            replace HI : Hid (Below V3.heap.size V3 X) := HI.out.trans (HBX.out.mono HI.out.size)
            replace HD : Hid ((Sd w X c3 gp gh gf gm gs gr 200 us vu vb bl ever 0) ∧ (HtX w X c3 gp gh gf gm m3 200 us K aw pw (byte8 zy))) := ⟨HD.out.1.bel HBX.out, HD.out.2.bel HBX.out⟩
            replace HQ : Hid (Row X q14 30 (toP u).cells) := HQ.out.later HBX.out HQ.out.lt
            replace HV : Hid (SliceIn X v b) := sliceK HV.out.1 fun g _ hlt => HBX.out.block g hlt
            clear HBX
            have HS_ : Row X gs 38 (scells gp gh gr (ever : Nat) (0 : Nat)) ∧ Row X gr 60 [.int .i64 1, .int .i64 ((200 : Nat) : Int), vu, vb] ∧ X.ownsRow 0 28 1 vb us.length bl ∧ SliceIn X v b ∧ SliceIn X vi u.2 := ⟨HD.out.1.row, HD.out.1.r.row, HD.out.1.r.b, HV.out, sliceK HZ.out.2.2.2.2.1 fun g _ hlt => HI.out.block g hlt⟩
            clear hX
            refine takeH (i := 0) (some 88) rfl rfl (by kernel_rfl) (by kernel_rfl) (by kernel_rfl) (fun _ _ _ h => h) (gRun rfl (.int .i64 4) fun _ h => run_mvZ (.tmp 16) rfl (.int .i64 4) rfl) HS_ ?_
            simp only [Act.put, aS, aC, aZ]
            refine takeH (i := 1) (some 89) rfl rfl (by kernel_rfl) (by kernel_rfl) (by kernel_rfl) (fun _ _ _ h => h) (gRun rfl (.bool false) fun _ h => run_eqZ (.tmp 88) (.const (.int .i64 0)) rfl (4) (0) rfl rfl false rfl) HS_ ?_
            simp only [Act.put, aS, aC, aZ]
            refine takeH (i := 2) (some 90) rfl rfl (by kernel_rfl) (by kernel_rfl) (by kernel_rfl) (fun _ _ _ h => h) (gRun rfl (.bool false) fun _ h => run_mvZ (.tmp 89) rfl (.bool false) rfl) HS_ ?_
            simp only [Act.put, aS, aC, aZ]
            refine takeH (i := 3) (some 91) rfl rfl (by kernel_rfl) (by kernel_rfl) (by kernel_rfl) (fun _ _ _ h => h) (Or.inr ⟨by kernel_rfl, rfl⟩) HS_ ?_
            simp only [Act.put, aS, aC, aZ]
            refine takeH (i := 4) (some 92) rfl rfl (by kernel_rfl) (by kernel_rfl) (by kernel_rfl) (fun _ _ _ h => h) (Or.inr ⟨by kernel_rfl, rfl⟩) HS_ ?_
            simp only [Act.put, aS, aC, aZ]
            refine takeH (i := 5) (some 93) rfl rfl (by kernel_rfl) (by kernel_rfl) (by kernel_rfl) (fun _ _ _ h => h) (Or.inr ⟨by kernel_rfl, rfl⟩) HS_ ?_
            simp only [Act.put, aS, aC, aZ]
            refine takeH (i := 6) (some 94) rfl rfl (by kernel_rfl) (by kernel_rfl) (by kernel_rfl) (fun _ _ _ h => h) (Or.inr ⟨by kernel_rfl, rfl⟩) HS_ ?_
            simp only [Act.put, aS, aC, aZ]
            refine takeH (i := 7) (some 95) rfl rfl (by kernel_rfl) (by kernel_rfl) (by kernel_rfl) (fun _ _ _ h => h) (Or.inr ⟨by kernel_rfl, rfl⟩) HS_ ?_
            simp only [Act.put, aS, aC, aZ]
            refine takeH (i := 8) (some 96) rfl rfl (by kernel_rfl) (by kernel_rfl) (by kernel_rfl) (fun _ _ _ h => h) (Or.inr ⟨by kernel_rfl, rfl⟩) HS_ ?_
            simp only [Act.put, aS, aC, aZ]
            refine takeH (i := 9) (some 97) rfl rfl (by kernel_rfl) (by kernel_rfl) (by kernel_rfl) (fun _ _ _ h => h) (Or.inr ⟨by kernel_rfl, rfl⟩) HS_ ?_
            simp only [Act.put, aS, aC, aZ]
            refine takeH (i := 10) (some 98) rfl rfl (by kernel_rfl) (by kernel_rfl) (by kernel_rfl) (fun _ _ _ h => h) (Or.inr ⟨by kernel_rfl, rfl⟩) HS_ ?_
            simp only [Act.put, aS, aC, aZ]
            refine takeH (i := 11) (some 99) rfl rfl (by kernel_rfl) (by kernel_rfl) (by kernel_rfl) (fun _ _ _ h => h) (Or.inr ⟨by kernel_rfl, rfl⟩) HS_ ?_
            simp only [Act.put, aS, aC, aZ]
            refine takeH (i := 12) (some 100) rfl rfl (by kernel_rfl) (by kernel_rfl) (by kernel_rfl) (fun _ _ _ h => h) (Or.inr ⟨by kernel_rfl, rfl⟩) HS_ ?_
            simp only [Act.put, aS, aC, aZ]
            refine takeH (i := 13) (some 101) rfl rfl (by kernel_rfl) (by kernel_rfl) (by kernel_rfl) (fun _ _ _ h => h) (Or.inr ⟨by kernel_rfl, rfl⟩) HS_ ?_
            simp only [Act.put, aS, aC, aZ]
            refine takeH (i := 14) (some 102) rfl rfl (by kernel_rfl) (by kernel_rfl) (by kernel_rfl) (fun _ _ _ h => h) (Or.inr ⟨by kernel_rfl, rfl⟩) HS_ ?_
            simp only [Act.put, aS, aC, aZ]
            refine takeH (i := 15) (some 103) rfl rfl (by kernel_rfl) (by kernel_rfl) (by kernel_rfl) (fun _ _ _ h => h) (Or.inr ⟨by kernel_rfl, rfl⟩) HS_ ?_
            simp only [Act.put, aS, aC, aZ]
            refine takeH (i := 16) (some 104) rfl rfl (by kernel_rfl) (by kernel_rfl) (by kernel_rfl) (fun _ _ _ h => h) (Or.inr ⟨by kernel_rfl, rfl⟩) HS_ ?_
            simp only [Act.put, aS, aC, aZ]
            refine takeH (i := 17) (some 105) rfl rfl (by kernel_rfl) (by kernel_rfl) (by kernel_rfl) (fun _ _ _ h => h) (gRun rfl (.bool false) fun _ h => run_pickZ (.tmp 90) (.tmp 104) (.const (.bool false)) rfl false (.bool false) rfl rfl) HS_ ?_
            simp only [Act.put, aS, aC, aZ]
            refine takeH (i := 18) (some 17) rfl rfl (by kernel_rfl) (by kernel_rfl) (by kernel_rfl) (fun _ _ _ h => h) (gRun rfl (.bool false) fun _ h => run_asZ (.tmp 105) rfl (.bool false) rfl) HS_ ?_
            simp only [Act.put, aS, aC, aZ]
            refine wpAnyH_done (by kernel_rfl) ?_ _
            clear HS_
            obtain ⟨h1, hh1_⟩ : ∃ r, decide (((u.1 : Nat) : Int) ≤ (aw : Nat)) = r := ⟨_, rfl⟩
            obtain ⟨h2, hh2_⟩ : ∃ r, decide (((aw : Nat) : Int) < ((u.1 + costN u.2.length : Nat) : Int)) = r := ⟨_, rfl⟩
            obtain ⟨hb, hhb_⟩ : ∃ r, (if h1 = true then h2 else false) = r := ⟨_, rfl⟩
            obtain ⟨b1, hb1_⟩ : ∃ r, decide (((aw : Nat) : Int) = (u.1 : Nat)) = r := ⟨_, rfl⟩
            obtain ⟨b2, hb2_⟩ : ∃ r, decide (((pw : Nat) : Int) < 4) = r := ⟨_, rfl⟩
            obtain ⟨eb, heb_⟩ : ∃ r, (if b1 = true then b2 else false) = r := ⟨_, rfl⟩
            go_upto_region 22 with fail
            refine wp_region_lit ?_
            refine wl rfl (.pointer (some ⟨q14, 0 + 1, none⟩)) _ (run_fieldOp' f30_1 (.tmp 14) rfl q14 (0) rfl) ?_
            simp only [Act.put, aS, aC, aZ]
            refine wl rfl (.int .i64 (u.1 : Nat)) _ (run_load1 o3 (.tmp 106) rfl q14 (0 + 1) rfl (.int .i64 (u.1 : Nat)) (HQ.out.at 1 _ rfl)) ?_
            simp only [Act.put, aS, aC, aZ]
            refine wl rfl (.int .i64 (aw : Nat)) _ (run_mvZ (.tmp 1) rfl (.int .i64 (aw : Nat)) rfl) ?_
            simp only [Act.put, aS, aC, aZ]
            refine wl rfl (.bool h1) _ (run_leqZ (.tmp 107) (.tmp 108) rfl (u.1 : Nat) (aw : Nat) rfl rfl h1 hh1_) ?_
            simp only [Act.put, aS, aC, aZ]
            refine wl rfl (.bool h1) _ (run_mvZ (.tmp 109) rfl (.bool h1) rfl) ?_
            simp only [Act.put, aS, aC, aZ]
            refine wl_may h1 (by cases h1 <;> kernel_rfl) (.int .i64 (aw : Nat)) (fun hc => run_mvZ (.tmp 1) rfl (.int .i64 (aw : Nat)) rfl) ?_
            intro s111 hs111
            simp only [Act.put, aS, aC, aZ]
            refine wl_may h1 (by cases h1 <;> kernel_rfl) (.pointer (some ⟨q14, 0 + 1, none⟩)) (fun hc => run_fieldOp' f30_1 (.tmp 14) rfl q14 (0) rfl) ?_
            intro s112 hs112
            simp only [Act.put, aS, aC, aZ]
            refine wl_may h1 (by cases h1 <;> kernel_rfl) (.int .i64 (u.1 : Nat)) (fun hc => run_load1 o3 (.tmp 112) rfl q14 (0 + 1) (by exact hs112 hc) _ (HQ.out.at 1 _ rfl)) ?_
            intro s113 hs113
            simp only [Act.put, aS, aC, aZ]
            refine wl_may h1 (by cases h1 <;> kernel_rfl) (.pointer (some ⟨q14, 0 + 2, none⟩)) (fun hc => run_fieldOp' f30_2 (.tmp 14) rfl q14 (0) rfl) ?_
            intro s114 hs114
            simp only [Act.put, aS, aC, aZ]
            refine wl_may h1 (by cases h1 <;> kernel_rfl) (.int .i64 (costN u.2.length : Nat)) (fun hc => run_load1 o3 (.tmp 114) rfl q14 (0 + 2) (by exact hs114 hc) _ (HQ.out.at 2 _ rfl)) ?_
            intro s115 hs115
            simp only [Act.put, aS, aC, aZ]
            refine wl_may h1 (by cases h1 <;> kernel_rfl) (.int .i64 ((u.1 + costN u.2.length : Nat) : Int)) (fun hc => run_addZ (.tmp 113) (.tmp 115) rfl (u.1 : Nat) (costN u.2.length : Nat) _ (by exact hs113 hc) (by exact hs115 hc) (by omega) (by omega) (by omega)) ?_
            intro s116 hs116
            simp only [Act.put, aS, aC, aZ]
            refine wl_may h1 (by cases h1 <;> kernel_rfl) (.bool h2) (fun hc => run_lssZ (.tmp 111) (.tmp 116) rfl (aw : Nat) ((u.1 + costN u.2.length : Nat) : Int) (by exact hs111 hc) (by exact hs116 hc) h2 hh2_) ?_
            intro s117 hs117
            simp only [Act.put, aS, aC, aZ]
            refine wl rfl (.bool hb) _ (run_pickZ (.tmp 110) (.tmp 117) (.const (.bool false)) rfl h1 (.bool hb) rfl (by rw [← hhb_]; cases h1; rfl; exact hs117 rfl)) ?_
            simp only [Act.put, aS, aC, aZ]
            refine wl rfl (.bool hb) _ (run_asZ (.tmp 118) rfl (.bool hb) rfl) ?_
            simp only [Act.put, aS, aC, aZ]
            refine wpList_nil ?_
            go_upto_region 23 with fail
            refine wp_region_lit ?_
            refine wl rfl (.int .i64 (aw : Nat)) _ (run_mvZ (.tmp 1) rfl (.int .i64 (aw : Nat)) rfl) ?_
            simp only [Act.put, aS, aC, aZ]
            refine wl rfl (.pointer (some ⟨q14, 0 + 1, none⟩)) _ (run_fieldOp' f30_1 (.tmp 14) rfl q14 (0) rfl) ?_
            simp only [Act.put, aS, aC, aZ]
            refine wl rfl (.int .i64 (u.1 : Nat)) _ (run_load1 o3 (.tmp 120) rfl q14 (0 + 1) rfl (.int .i64 (u.1 : Nat)) (HQ.out.at 1 _ rfl)) ?_
            simp only [Act.put, aS, aC, aZ]
            refine wl rfl (.bool b1) _ (run_eqZ (.tmp 119) (.tmp 121) rfl (aw : Nat) (u.1 : Nat) rfl rfl b1 hb1_) ?_
            simp only [Act.put, aS, aC, aZ]
            refine wl rfl (.bool b1) _ (run_mvZ (.tmp 122) rfl (.bool b1) rfl) ?_
            simp only [Act.put, aS, aC, aZ]
            refine wl_may b1 (by cases b1 <;> kernel_rfl) (.int .i64 (pw : Nat)) (fun hc => run_mvZ (.tmp 2) rfl (.int .i64 (pw : Nat)) rfl) ?_
            intro s124 hs124
            simp only [Act.put, aS, aC, aZ]
            refine wl_may b1 (by cases b1 <;> kernel_rfl) (.bool b2) (fun hc => run_lssZ (.tmp 124) (.const (.int .i64 4)) rfl (pw : Nat) 4 (by exact hs124 hc) rfl b2 hb2_) ?_
            intro s125 hs125
            simp only [Act.put, aS, aC, aZ]
            refine wl rfl (.bool eb) _ (run_pickZ (.tmp 123) (.tmp 125) (.const (.bool false)) rfl b1 (.bool eb) rfl (by rw [← heb_]; cases b1; rfl; exact hs125 rfl)) ?_
            simp only [Act.put, aS, aC, aZ]
            refine wl rfl (.bool eb) _ (run_asZ (.tmp 126) rfl (.bool eb) rfl) ?_
            simp only [Act.put, aS, aC, aZ]
            refine wpList_nil ?_
            obtain rfl : hb = true := (by rw [← hhb_, ← hh1_, if_pos (decide_eq_true (by omega)), ← hh2_]; exact decide_eq_true (by omega))
            go_upto_region 24 with fail
            refine wp_region_lit ?_
            refine wl rfl (.bool false) _ (run_mvZ (.tmp 17) rfl (.bool false) rfl) ?_
            simp only [Act.put, aS, aC, aZ]
            refine wl rfl (.bool bt) _ ((by rw [HBT.out]; exact run_not (.tmp 127) 4 rfl false rfl)) ?_
            simp only [Act.put, aS, aC, aZ]
            refine wl rfl (.bool bt) _ (run_mvZ (.tmp 128) rfl (.bool bt) rfl) ?_
            simp only [Act.put, aS, aC, aZ]
            refine wl (by rw [HBT.out]; kernel_rfl) (.bool true) _ (run_mvZ (.tmp 18) rfl (.bool true) rfl) ?_
            simp only [Act.put, aS, aC, aZ]
            refine wl (by rw [HBT.out]; kernel_rfl) (.bool true) _ (run_mvZ (.tmp 130) rfl (.bool true) rfl) ?_
            simp only [Act.put, aS, aC, aZ]
            refine wl (by kernel_rfl) (.int .i64 4) _ (run_mvZ (.tmp 16) rfl (.int .i64 4) rfl) ?_
            simp only [Act.put, aS, aC, aZ]
            refine wl (by kernel_rfl) (.bool bt) _ ((by rw [HBT.out]; exact run_eqZ (.tmp 132) (.const (.int .i64 4)) rfl 4 4 rfl rfl true rfl)) ?_
            simp only [Act.put, aS, aC, aZ]
            refine wl (by kernel_rfl) (.bool bt) _ (run_mvZ (.tmp 133) rfl (.bool bt) rfl) ?_
            simp only [Act.put, aS, aC, aZ]
            refine wl (by rw [HBT.out]; kernel_rfl) v _ (run_mvZ (.tmp 15) rfl v rfl) ?_
            simp only [Act.put, aS, aC, aZ]
            refine wl (by rw [HBT.out]; kernel_rfl) (.int .i64 (b.length : Nat)) _ (run_lenS HV.out (.tmp 135) rfl rfl) ?_
            simp only [Act.put, aS, aC, aZ]
            refine wl (by rw [HBT.out]; kernel_rfl) (.bool bt) _ ((by rw [HBT.out]; exact run_eqZ (.tmp 136) (.const (.int .i64 0)) rfl (b.length : Nat) 0 rfl rfl true (decide_eq_true (by omega)))) ?_
            simp only [Act.put, aS, aC, aZ]
            refine wl (by kernel_rfl) (.bool bt) _ (run_pickZ (.tmp 134) (.tmp 137) (.const (.bool false)) rfl bt (.bool bt) rfl (by rw [HBT.out]; rfl)) ?_
            simp only [Act.put, aS, aC, aZ]
            refine wl (by kernel_rfl) (.bool bt) _ (run_mvZ (.tmp 138) rfl (.bool bt) rfl) ?_
            simp only [Act.put, aS, aC, aZ]
            refine wpList_skip (by rw [HBT.out]; kernel_rfl) ?_
            simp only [Act.put, aS, aC, aZ]
            refine wpList_skip (by rw [HBT.out]; kernel_rfl) ?_
            simp only [Act.put, aS, aC, aZ]
            refine wpList_skip (by kernel_rfl) ?_
            simp only [Act.put, aS, aC, aZ]
            refine wpList_skip (by kernel_rfl) ?_
            simp only [Act.put, aS, aC, aZ]
            refine wpList_skip (by rw [HBT.out]; kernel_rfl) ?_
            simp only [Act.put, aS, aC, aZ]
            refine wpList_skip (by rw [HBT.out]; kernel_rfl) ?_
            simp only [Act.put, aS, aC, aZ]
            refine wpList_skip (by kernel_rfl) ?_
            simp only [Act.put, aS, aC, aZ]
            refine wpList_skip (by kernel_rfl) ?_
            simp only [Act.put, aS, aC, aZ]
            refine wpList_skip (by kernel_rfl) ?_
            simp only [Act.put, aS, aC, aZ]
            refine wpList_skip (by rw [HBT.out]; kernel_rfl) ?_
            simp only [Act.put, aS, aC, aZ]
            refine wl (by kernel_rfl) (.bool bt) _ (run_pickZ (.tmp 139) (.const (.bool true)) (.tmp 149) rfl bt (.bool bt) rfl (by rw [HBT.out]; rfl)) ?_
            simp only [Act.put, aS, aC, aZ]
            refine wl (by rw [HBT.out]; kernel_rfl) (.bool bt) _ (run_pickZ (.tmp 131) (.tmp 150) (.const (.bool false)) rfl true (.bool bt) rfl rfl) ?_
            simp only [Act.put, aS, aC, aZ]
            refine wl (by rw [HBT.out]; kernel_rfl) (.bool false) _ ((by have e := HBT.out; subst e; exact run_not (.tmp 151) 4 rfl true rfl)) ?_
            simp only [Act.put, aS, aC, aZ]
            refine wl rfl (.bool false) _ (run_pickZ (.tmp 129) (.tmp 152) (.const (.bool false)) rfl bt (.bool false) rfl (by rw [HBT.out]; rfl)) ?_
            simp only [Act.put, aS, aC, aZ]
            refine wpList_nil ?_
            go_wp2_with fail
            refine ⟨⟨k + 1, by go_num, by omega, HI⟩, ?_⟩
            simp [intOf]; omega
          · subst he0
            subst hsb0
            clear ho
            go_upto_region 21 with fail
            refine wp_region_held (S := fun X => Row X gs 38 (scells gp gh gr (ever : Nat) (0 : Nat)) ∧ Row X gr 60 [.int .i64 1, .int .i64 ((200 : Nat) : Int), vu, vb] ∧ X.ownsRow 0 28 1 vb us.length bl ∧ SliceIn X v b ∧ SliceIn X vi u.2) (by kernel_rfl) ?_
            show wpAnyH _ _ _ _ _ 19 (Array.replicate 19 false) _ _
            obtain ⟨X, hX⟩ : ∃ X : World, X = { Y1 with drawn := Y1.drawn + 1 } := ⟨_, rfl⟩
            rw [← hX]
            have HBX : Hid (Below Y1.heap.size Y1 X) := (by rw [hX]; exact ⟨rfl, rfl, rfl, Nat.le_refl _, fun _ _ => rfl⟩)
            replace HI : Hid (Below V3.heap.size V3 X) := HI.out.trans (HBX.out.mono HI.out.size)
            replace HD : Hid ((Sd w X c3 gp gh gf gm gs gr 200 us vu vb bl ever 0) ∧ (HtX w X c3 gp gh gf gm m3 200 us K aw pw (byte8 zy))) := ⟨HD.out.1.bel HBX.out, HD.out.2.bel HBX.out⟩
            replace HQ : Hid (Row X q14 30 (toP u).cells) := HQ.out.later HBX.out HQ.out.lt
            replace HV : Hid (SliceIn X v b) := sliceK HV.out.1 fun g _ hlt => HBX.out.block g hlt
            clear HBX
            have HS_ : Row X gs 38 (scells gp gh gr (ever : Nat) (0 : Nat)) ∧ Row X gr 60 [.int .i64 1, .int .i64 ((200 : Nat) : Int), vu, vb] ∧ X.ownsRow 0 28 1 vb us.length bl ∧ SliceIn X v b ∧ SliceIn X vi u.2 := ⟨HD.out.1.row, HD.out.1.r.row, HD.out.1.r.b, HV.out, sliceK HZ.out.2.2.2.2.1 fun g _ hlt => HI.out.block g hlt⟩
            clear hX
            refine takeH (i := 0) (some 88) rfl rfl (by kernel_rfl) (by kernel_rfl) (by kernel_rfl) (fun _ _ _ h => h) (gRun rfl (.int .i64 0) fun _ h => run_mvZ (.tmp 16) rfl (.int .i64 0) rfl) HS_ ?_
            simp only [Act.put, aS, aC, aZ]
            refine takeH (i := 1) (some 89) rfl rfl (by kernel_rfl) (by kernel_rfl) (by kernel_rfl) (fun _ _ _ h => h) (gRun rfl (.bool true) fun _ h => run_eqZ (.tmp 88) (.const (.int .i64 0)) rfl (0) (0) rfl rfl true rfl) HS_ ?_
            simp only [Act.put, aS, aC, aZ]
            refine takeH (i := 2) (some 90) rfl rfl (by kernel_rfl) (by kernel_rfl) (by kernel_rfl) (fun _ _ _ h => h) (gRun rfl (.bool true) fun _ h => run_mvZ (.tmp 89) rfl (.bool true) rfl) HS_ ?_
            simp only [Act.put, aS, aC, aZ]
            refine takeH (i := 3) (some 91) rfl rfl (by kernel_rfl) (by kernel_rfl) (by kernel_rfl) (fun _ _ _ h => h) (gRun (by kernel_rfl) v fun _ h => run_mvZ (.tmp 15) rfl v rfl) HS_ ?_
            simp only [Act.put, aS, aC, aZ]
            refine takeH (i := 4) (some 92) rfl rfl (by kernel_rfl) (by kernel_rfl) (by kernel_rfl) (fun _ _ _ h => h) (gRun (by kernel_rfl) (.string (strOfNums (b.map Int.ofNat))) fun _ h => run_str (.tmp 91) rfl v b rfl h.2.2.2.1) HS_ ?_
            simp only [Act.put, aS, aC, aZ]
            refine takeH (i := 5) (some 93) rfl rfl (by kernel_rfl) (by kernel_rfl) (by kernel_rfl) (fun _ _ _ h => h) (gRun (by kernel_rfl) (ptr gs) fun _ h => run_mvZ (.tmp 10) rfl (ptr gs) rfl) HS_ ?_
            simp only [Act.put, aS, aC, aZ]
            refine takeH (i := 6) (some 94) rfl rfl (by kernel_rfl) (by kernel_rfl) (by kernel_rfl) (fun _ _ _ h => h) (gRun (by kernel_rfl) (ptr gs) fun _ h => run_nil (.tmp 93) rfl ⟨gs, 0, none⟩ rfl) HS_ ?_
            simp only [Act.put, aS, aC, aZ]
            refine takeH (i := 7) (some 95) rfl rfl (by kernel_rfl) (by kernel_rfl) (by kernel_rfl) (fun _ _ _ h => h) (gRun (by kernel_rfl) (.pointer (some ⟨gs, 0 + 2, none⟩)) fun _ h => run_fieldOp' f38_2 (.tmp 94) rfl gs (0) rfl) HS_ ?_
            simp only [Act.put, aS, aC, aZ]
            refine takeH (i := 8) (some 96) rfl rfl (by kernel_rfl) (by kernel_rfl) (by kernel_rfl) (fun _ _ _ h => h) (gRun (by kernel_rfl) (ptr gr) fun _ h => run_load1 o36 (.tmp 95) rfl gs (0 + 2) rfl (ptr gr) (h.1.at 2 _ rfl)) HS_ ?_
            simp only [Act.put, aS, aC, aZ]
            refine takeH (i := 9) (some 97) rfl rfl (by kernel_rfl) (by kernel_rfl) (by kernel_rfl) (fun _ _ _ h => h) (gRun (by kernel_rfl) (ptr gr) fun _ h => run_nil (.tmp 96) rfl ⟨gr, 0, none⟩ rfl) HS_ ?_
            simp only [Act.put, aS, aC, aZ]
            refine takeH (i := 10) (some 98) rfl rfl (by kernel_rfl) (by kernel_rfl) (by kernel_rfl) (fun _ _ _ h => h) (gRun (by kernel_rfl) (.pointer (some ⟨gr, 0 + 3, none⟩)) fun _ h => run_fieldOp' f60_3 (.tmp 97) rfl gr (0) rfl) HS_ ?_
            simp only [Act.put, aS, aC, aZ]
            refine takeH (i := 11) (some 99) rfl rfl (by kernel_rfl) (by kernel_rfl) (by kernel_rfl) (fun _ _ _ h => h) (gRun (by kernel_rfl) vb fun _ h => run_load1 o57 (.tmp 98) rfl gr (0 + 3) rfl vb (h.2.1.at 3 _ rfl)) HS_ ?_
            simp only [Act.put, aS, aC, aZ]
            refine takeH (i := 12) (some 100) rfl rfl (by kernel_rfl) (by kernel_rfl) (by kernel_rfl) (fun _ _ _ h => h) (gRun (by kernel_rfl) (.int .i64 (k : Nat)) fun _ h => run_mvZ (.tmp 13) rfl (.int .i64 (k : Nat)) rfl) HS_ ?_
            simp only [Act.put, aS, aC, aZ]
            refine takeH (i := 13) (some 101) rfl rfl (by kernel_rfl) (by kernel_rfl) (by kernel_rfl) (fun _ _ _ h => h) (gRun (by kernel_rfl) (.pointer (some ⟨bb, k * 1, none⟩)) fun _ h => run_idx (.tmp 99) (.tmp 100) rfl _ _ _ rfl rfl HZ.out.2.2.1) HS_ ?_
            simp only [Act.put, aS, aC, aZ]
            refine takeH (i := 14) (some 102) rfl rfl (by kernel_rfl) (by kernel_rfl) (by kernel_rfl) (fun _ _ _ h => h) (gRun (by kernel_rfl) vi fun _ h => run_load1 o28 (.tmp 101) rfl bb (k * 1) rfl vi (HZ.out.2.2.2.1 _ h.2.2.1)) HS_ ?_
            simp only [Act.put, aS, aC, aZ]
            refine takeH (i := 15) (some 103) rfl rfl (by kernel_rfl) (by kernel_rfl) (by kernel_rfl) (fun _ _ _ h => h) (gRun (by kernel_rfl) (.string (strOfNums (u.2.map Int.ofNat))) fun _ h => run_str (.tmp 102) rfl vi u.2 rfl h.2.2.2.2) HS_ ?_
            simp only [Act.put, aS, aC, aZ]
            refine takeH (i := 16) (some 104) rfl rfl (by kernel_rfl) (by kernel_rfl) (by kernel_rfl) (fun _ _ _ h => h) (gRun (by kernel_rfl) (.bool false) fun _ h => run_eqSr (.tmp 92) (.tmp 103) rfl _ _ rfl rfl false hsb) HS_ ?_
            simp only [Act.put, aS, aC, aZ]
            refine takeH (i := 17) (some 105) rfl rfl (by kernel_rfl) (by kernel_rfl) (by kernel_rfl) (fun _ _ _ h => h) (gRun rfl (.bool false) fun _ h => run_pickZ (.tmp 90) (.tmp 104) (.const (.bool false)) rfl true (.bool false) rfl rfl) HS_ ?_
            simp only [Act.put, aS, aC, aZ]
            refine takeH (i := 18) (some 17) rfl rfl (by kernel_rfl) (by kernel_rfl) (by kernel_rfl) (fun _ _ _ h => h) (gRun rfl (.bool false) fun _ h => run_asZ (.tmp 105) rfl (.bool false) rfl) HS_ ?_
            simp only [Act.put, aS, aC, aZ]
            refine wpAnyH_done (by kernel_rfl) ?_ _
            clear HS_
            obtain ⟨h1, hh1_⟩ : ∃ r, decide (((u.1 : Nat) : Int) ≤ (aw : Nat)) = r := ⟨_, rfl⟩
            obtain ⟨h2, hh2_⟩ : ∃ r, decide (((aw : Nat) : Int) < ((u.1 + costN u.2.length : Nat) : Int)) = r := ⟨_, rfl⟩
            obtain ⟨hb, hhb_⟩ : ∃ r, (if h1 = true then h2 else false) = r := ⟨_, rfl⟩
            obtain ⟨b1, hb1_⟩ : ∃ r, decide (((aw : Nat) : Int) = (u.1 : Nat)) = r := ⟨_, rfl⟩
            obtain ⟨b2, hb2_⟩ : ∃ r, decide (((pw : Nat) : Int) < 4) = r := ⟨_, rfl⟩
            obtain ⟨eb, heb_⟩ : ∃ r, (if b1 = true then b2 else false) = r := ⟨_, rfl⟩
            go_upto_region 22 with fail
            refine wp_region_lit ?_
            refine wl rfl (.pointer (some ⟨q14, 0 + 1, none⟩)) _ (run_fieldOp' f30_1 (.tmp 14) rfl q14 (0) rfl) ?_
            simp only [Act.put, aS, aC, aZ]
            refine wl rfl (.int .i64 (u.1 : Nat)) _ (run_load1 o3 (.tmp 106) rfl q14 (0 + 1) rfl (.int .i64 (u.1 : Nat)) (HQ.out.at 1 _ rfl)) ?_
            simp only [Act.put, aS, aC, aZ]
            refine wl rfl (.int .i64 (aw : Nat)) _ (run_mvZ (.tmp 1) rfl (.int .i64 (aw : Nat)) rfl) ?_
            simp only [Act.put, aS, aC, aZ]
            refine wl rfl (.bool h1) _ (run_leqZ (.tmp 107) (.tmp 108) rfl (u.1 : Nat) (aw : Nat) rfl rfl h1 hh1_) ?_
            simp only [Act.put, aS, aC, aZ]
            refine wl rfl (.bool h1) _ (run_mvZ (.tmp 109) rfl (.bool h1) rfl) ?_
            simp only [Act.put, aS, aC, aZ]
            refine wl_may h1 (by cases h1 <;> kernel_rfl) (.int .i64 (aw : Nat)) (fun hc => run_mvZ (.tmp 1) rfl (.int .i64 (aw : Nat)) rfl) ?_
            intro s111 hs111
            simp only [Act.put, aS, aC, aZ]
            refine wl_may h1 (by cases h1 <;> kernel_rfl) (.pointer (some ⟨q14, 0 + 1, none⟩)) (fun hc => run_fieldOp' f30_1 (.tmp 14) rfl q14 (0) rfl) ?_
            intro s112 hs112
            simp only [Act.put, aS, aC, aZ]
            refine wl_may h1 (by cases h1 <;> kernel_rfl) (.int .i64 (u.1 : Nat)) (fun hc => run_load1 o3 (.tmp 112) rfl q14 (0 + 1) (by exact hs112 hc) _ (HQ.out.at 1 _ rfl)) ?_
            intro s113 hs113
            simp only [Act.put, aS, aC, aZ]
            refine wl_may h1 (by cases h1 <;> kernel_rfl) (.pointer (some ⟨q14, 0 + 2, none⟩)) (fun hc => run_fieldOp' f30_2 (.tmp 14) rfl q14 (0) rfl) ?_
            intro s114 hs114
            simp only [Act.put, aS, aC, aZ]
            refine wl_may h1 (by cases h1 <;> kernel_rfl) (.int .i64 (costN u.2.length : Nat)) (fun hc => run_load1 o3 (.tmp 114) rfl q14 (0 + 2) (by exact hs114 hc) _ (HQ.out.at 2 _ rfl)) ?_
            intro s115 hs115
            simp only [Act.put, aS, aC, aZ]
            refine wl_may h1 (by cases h1 <;> kernel_rfl) (.int .i64 ((u.1 + costN u.2.length : Nat) : Int)) (fun hc => run_addZ (.tmp 113) (.tmp 115) rfl (u.1 : Nat) (costN u.2.length : Nat) _ (by exact hs113 hc) (by exact hs115 hc) (by omega) (by omega) (by omega)) ?_
            intro s116 hs116
            simp only [Act.put, aS, aC, aZ]
            refine wl_may h1 (by cases h1 <;> kernel_rfl) (.bool h2) (fun hc => run_lssZ (.tmp 111) (.tmp 116) rfl (aw : Nat) ((u.1 + costN u.2.length : Nat) : Int) (by exact hs111 hc) (by exact hs116 hc) h2 hh2_) ?_
            intro s117 hs117
            simp only [Act.put, aS, aC, aZ]
            refine wl rfl (.bool hb) _ (run_pickZ (.tmp 110) (.tmp 117) (.const (.bool false)) rfl h1 (.bool hb) rfl (by rw [← hhb_]; cases h1; rfl; exact hs117 rfl)) ?_
            simp only [Act.put, aS, aC, aZ]
            refine wl rfl (.bool hb) _ (run_asZ (.tmp 118) rfl (.bool hb) rfl) ?_
            simp only [Act.put, aS, aC, aZ]
            refine wpList_nil ?_
            go_upto_region 23 with fail
            refine wp_region_lit ?_
            refine wl rfl (.int .i64 (aw : Nat)) _ (run_mvZ (.tmp 1) rfl (.int .i64 (aw : Nat)) rfl) ?_
            simp only [Act.put, aS, aC, aZ]
            refine wl rfl (.pointer (some ⟨q14, 0 + 1, none⟩)) _ (run_fieldOp' f30_1 (.tmp 14) rfl q14 (0) rfl) ?_
            simp only [Act.put, aS, aC, aZ]
            refine wl rfl (.int .i64 (u.1 : Nat)) _ (run_load1 o3 (.tmp 120) rfl q14 (0 + 1) rfl (.int .i64 (u.1 : Nat)) (HQ.out.at 1 _ rfl)) ?_
            simp only [Act.put, aS, aC, aZ]
            refine wl rfl (.bool b1) _ (run_eqZ (.tmp 119) (.tmp 121) rfl (aw : Nat) (u.1 : Nat) rfl rfl b1 hb1_) ?_
            simp only [Act.put, aS, aC, aZ]
            refine wl rfl (.bool b1) _ (run_mvZ (.tmp 122) rfl (.bool b1) rfl) ?_
            simp only [Act.put, aS, aC, aZ]
            refine wl_may b1 (by cases b1 <;> kernel_rfl) (.int .i64 (pw : Nat)) (fun hc => run_mvZ (.tmp 2) rfl (.int .i64 (pw : Nat)) rfl) ?_
            intro s124 hs124
            simp only [Act.put, aS, aC, aZ]
            refine wl_may b1 (by cases b1 <;> kernel_rfl) (.bool b2) (fun hc => run_lssZ (.tmp 124) (.const (.int .i64 4)) rfl (pw : Nat) 4 (by exact hs124 hc) rfl b2 hb2_) ?_
            intro s125 hs125
            simp only [Act.put, aS, aC, aZ]
            refine wl rfl (.bool eb) _ (run_pickZ (.tmp 123) (.tmp 125) (.const (.bool false)) rfl b1 (.bool eb) rfl (by rw [← heb_]; cases b1; rfl; exact hs125 rfl)) ?_
            simp only [Act.put, aS, aC, aZ]
            refine wl rfl (.bool eb) _ (run_asZ (.tmp 126) rfl (.bool eb) rfl) ?_
            simp only [Act.put, aS, aC, aZ]
            refine wpList_nil ?_
            obtain rfl : hb = true := (by rw [← hhb_, ← hh1_, if_pos (decide_eq_true (by omega)), ← hh2_]; exact decide_eq_true (by omega))
            obtain rfl : eb = true := (by rw [← heb_, ← hb1_, if_pos (decide_eq_true (by omega)), ← hb2_]; exact decide_eq_true (by omega))
            go_upto_region 24 with fail
            refine wp_region_lit ?_
            refine wl rfl (.bool false) _ (run_mvZ (.tmp 17) rfl (.bool false) rfl) ?_
            simp only [Act.put, aS, aC, aZ]
            refine wl rfl (.bool bt) _ ((by rw [HBT.out]; exact run_not (.tmp 127) 4 rfl false rfl)) ?_
            simp only [Act.put, aS, aC, aZ]
            refine wl rfl (.bool bt) _ (run_mvZ (.tmp 128) rfl (.bool bt) rfl) ?_
            simp only [Act.put, aS, aC, aZ]
            refine wl (by rw [HBT.out]; kernel_rfl) (.bool true) _ (run_mvZ (.tmp 18) rfl (.bool true) rfl) ?_
            simp only [Act.put, aS, aC, aZ]
            refine wl (by rw [HBT.out]; kernel_rfl) (.bool true) _ (run_mvZ (.tmp 130) rfl (.bool true) rfl) ?_
            simp only [Act.put, aS, aC, aZ]
            refine wl (by kernel_rfl) (.int .i64 0) _ (run_mvZ (.tmp 16) rfl (.int .i64 0) rfl) ?_
            simp only [Act.put, aS, aC, aZ]
            refine wl (by kernel_rfl) (.bool false) _ (run_eqZ (.tmp 132) (.const (.int .i64 4)) rfl 0 4 rfl rfl false rfl) ?_
            simp only [Act.put, aS, aC, aZ]
            refine wl (by kernel_rfl) (.bool false) _ (run_mvZ (.tmp 133) rfl (.bool false) rfl) ?_
            simp only [Act.put, aS, aC, aZ]
            refine wpList_skip (by kernel_rfl) ?_
            simp only [Act.put, aS, aC, aZ]
            refine wpList_skip (by kernel_rfl) ?_
            simp only [Act.put, aS, aC, aZ]
            refine wpList_skip (by kernel_rfl) ?_
            simp only [Act.put, aS, aC, aZ]
            refine wl (by kernel_rfl) (.bool false) _ (run_pickZ (.tmp 134) (.tmp 137) (.const (.bool false)) rfl false (.bool false) rfl rfl) ?_
            simp only [Act.put, aS, aC, aZ]
            refine wl (by kernel_rfl) (.bool false) _ (run_mvZ (.tmp 138) rfl (.bool false) rfl) ?_
            simp only [Act.put, aS, aC, aZ]
            refine wl (by kernel_rfl) (.bool true) _ (run_mvZ (.tmp 19) rfl (.bool true) rfl) ?_
            simp only [Act.put, aS, aC, aZ]
            refine wl (by kernel_rfl) (.bool true) _ (run_mvZ (.tmp 140) rfl (.bool true) rfl) ?_
            simp only [Act.put, aS, aC, aZ]
            refine wl (by kernel_rfl) (.int .i64 0) _ (run_mvZ (.tmp 16) rfl (.int .i64 0) rfl) ?_
            simp only [Act.put, aS, aC, aZ]
            refine wl (by kernel_rfl) (.bool bt) _ ((by rw [HBT.out]; exact run_eqZ (.tmp 142) (.const (.int .i64 0)) rfl 0 0 rfl rfl true rfl)) ?_
            simp only [Act.put, aS, aC, aZ]
            refine wl (by kernel_rfl) (.bool bt) _ (run_pickZ (.tmp 141) (.tmp 143) (.const (.bool false)) rfl true (.bool bt) rfl rfl) ?_
            simp only [Act.put, aS, aC, aZ]
            refine wl (by kernel_rfl) (.bool bt) _ (run_mvZ (.tmp 144) rfl (.bool bt) rfl) ?_
            simp only [Act.put, aS, aC, aZ]
            refine wl (by rw [HBT.out]; kernel_rfl) v _ (run_mvZ (.tmp 15) rfl v rfl) ?_
            simp only [Act.put, aS, aC, aZ]
            refine wl (by rw [HBT.out]; kernel_rfl) (.int .i64 (b.length : Nat)) _ (run_lenS HV.out (.tmp 146) rfl rfl) ?_
            simp only [Act.put, aS, aC, aZ]
            refine wl (by rw [HBT.out]; kernel_rfl) (.bool bt) _ ((by rw [HBT.out]; exact run_leqZ (.tmp 147) (.const (.int .i64 512)) rfl (b.length : Nat) 512 rfl rfl true (decide_eq_true (by omega)))) ?_
            simp only [Act.put, aS, aC, aZ]
            refine wl (by kernel_rfl) (.bool bt) _ (run_pickZ (.tmp 145) (.tmp 148) (.const (.bool false)) rfl bt (.bool bt) rfl (by rw [HBT.out]; rfl)) ?_
            simp only [Act.put, aS, aC, aZ]
            refine wl (by kernel_rfl) (.bool bt) _ (run_pickZ (.tmp 139) (.const (.bool true)) (.tmp 149) rfl false (.bool bt) rfl rfl) ?_
            simp only [Act.put, aS, aC, aZ]
            refine wl (by rw [HBT.out]; kernel_rfl) (.bool bt) _ (run_pickZ (.tmp 131) (.tmp 150) (.const (.bool false)) rfl true (.bool bt) rfl rfl) ?_
            simp only [Act.put, aS, aC, aZ]
            refine wl (by rw [HBT.out]; kernel_rfl) (.bool false) _ ((by have e := HBT.out; subst e; exact run_not (.tmp 151) 4 rfl true rfl)) ?_
            simp only [Act.put, aS, aC, aZ]
            refine wl rfl (.bool false) _ (run_pickZ (.tmp 129) (.tmp 152) (.const (.bool false)) rfl bt (.bool false) rfl (by rw [HBT.out]; rfl)) ?_
            simp only [Act.put, aS, aC, aZ]
            refine wpList_nil ?_
            go_wp2_with fail
            refine ⟨⟨k + 1, by go_num, by omega, HI⟩, ?_⟩
            simp [intOf]; omega
        · go_upto_region 17 with fail
          refine wp_region_lit ?_
          refine wl rfl (.int .i64 (k : Nat)) _ (run_mvZ (.tmp 13) rfl (.int .i64 (k : Nat)) rfl) ?_
          simp only [Act.put, aS, aC, aZ]
          refine wl rfl (ptr gs) _ (run_mvZ (.tmp 10) rfl (ptr gs) rfl) ?_
          simp only [Act.put, aS, aC, aZ]
          refine wl rfl (ptr gs) _ (run_nil (.tmp 58) rfl ⟨gs, 0, none⟩ rfl) ?_
          simp only [Act.put, aS, aC, aZ]
          refine wl rfl (.pointer (some ⟨gs, 0 + 2, none⟩)) _ (run_fieldOp' f38_2 (.tmp 59) rfl gs (0) rfl) ?_
          simp only [Act.put, aS, aC, aZ]
          refine wl rfl (ptr gr) _ (run_load1 o36 (.tmp 60) rfl gs (0 + 2) rfl (ptr gr) (HD.out.1.row.at 2 _ rfl)) ?_
          simp only [Act.put, aS, aC, aZ]
          refine wl rfl (ptr gr) _ (run_nil (.tmp 61) rfl ⟨gr, 0, none⟩ rfl) ?_
          simp only [Act.put, aS, aC, aZ]
          refine wl rfl (.pointer (some ⟨gr, 0 + 2, none⟩)) _ (run_fieldOp' f60_2 (.tmp 62) rfl gr (0) rfl) ?_
          simp only [Act.put, aS, aC, aZ]
          refine wl rfl vu _ (run_load1 o43 (.tmp 63) rfl gr (0 + 2) rfl vu (HD.out.1.r.row.at 2 _ rfl)) ?_
          simp only [Act.put, aS, aC, aZ]
          refine wl rfl (.int .i64 (us.length : Nat)) _ (run_lenPI H3.out.1.r.u H3.out.2.2 (.tmp 64) rfl rfl) ?_
          simp only [Act.put, aS, aC, aZ]
          refine wl rfl (.bool false) _ (run_lssZ (.tmp 57) (.tmp 65) rfl (k : Nat) (us.length : Nat) rfl rfl false (decide_eq_false (by omega))) ?_
          simp only [Act.put, aS, aC, aZ]
          refine wpList_nil ?_
          go_upto_region 26 with fail
          refine wp_region_lit ?_
          refine wl rfl (.bool true) _ (run_mvZ (.tmp 9) rfl (.bool true) rfl) ?_
          simp only [Act.put, aS, aC, aZ]
          refine wl rfl (.bool true) _ (run_asZ (.tmp 154) rfl (.bool true) rfl) ?_
          simp only [Act.put, aS, aC, aZ]
          refine wpList_nil ?_
          go_wp2_with fail
          rw [HPQ.out]
          exact ⟨rfl, (H3.out.2.1.bel HI.out).pl.below⟩

end Go.Proofs.YtjnhhkfknlkfeaaDoor

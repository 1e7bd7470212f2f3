/- Layer 14: with which places a disk is opened. -/
import Derived.Test.YtofocpmpnjjnkaaDoorY45
namespace Go.Proofs.YtofocpmpnjjnkaaDoor
open Go.RowKit Go.Maps


theorem papp_in {w : World} (ty : TypeId) (v : Value) (l m : List Pq) (hown : PlO w v l) (vx : Value) (hx : PlsIn w vx m) (hsz : l.length + m.length ≤ 4398046511104) :
    ∃ v' w', (Builtin.append_ #[43, 43] ty #[v, vx]).run Tryd.prog w = .ok v' w' ∧ PlO w' v' (l ++ m) ∧ w.grownBy w' v.ownBlock := by
  obtain ⟨i, hi, hz0, hz1, hz2⟩ := info_parts info30z
  have key : ∀ (ad : Addr) (c : Nat), vx = .slice (some ad) m.length c → (∀ j u, (pcl m)[j]? = some u → w.cell? (ad.add j) = some u) → ∃ v' w', (Builtin.append_ #[43, 43] ty #[v, vx]).run Tryd.prog w = .ok v' w' ∧ PlO w' v' (l ++ m) ∧ w.grownBy w' v.ownBlock := by
    rintro ad c rfl hc
    obtain ⟨v', w', hr, ho', hg, _⟩ := run_append_own_at (P := Tryd.prog) (w := w) 0 43 ty 30 i (.agg (plC 0 0 0 false).toArray) 4 32 und43 hi hz0 hz1 hz2 rfl (by decide) v l.length (pcl l) hown
        ad m.length c (pcl m) (pcl_length m) hc (pcl_one m) (by unfold maxLen; omega) (by omega) (Nat.zero_le _)
    refine ⟨v', w', hr, ?_, hg⟩
    unfold PlO
    rw [pcl_append, List.length_append]
    exact ho'
  obtain ⟨p, cap, e, h1, _, h3, _⟩ := hx
  rcases h3 with rfl | ⟨b, off, rfl, h3⟩
  · cases p with
    | some ad => exact key ad cap e (fun j u hu => by simp [pcl] at hu)
    | none =>
      refine ⟨v, w, ?_, by simpa using hown, World.grownBy.refl _ _⟩
      rw [e]
      rcases hown.2 with ⟨rfl, h0⟩ | ⟨g, cap', cur, rfl, _, hg, hcap, hmax, hsz, htake⟩
      · simp [Builtin.append_, run_underlying und43, sizeOf, typeInfo, hi, Builtin.lenOf, Builtin.firstCells]
      · simp [Builtin.append_, run_underlying und43, sizeOf, typeInfo, hi, Builtin.lenOf, Builtin.firstCells, hcap, storeCells]
  · refine key ⟨b, off, none⟩ cap e fun j u hu => ?_
    have hj : j < m.length * 4 := by
      have := (List.getElem?_eq_some_iff.1 hu).1
      rwa [pcl_length] at this
    rw [add_none]
    have h4 := h3 (j / 4) (by omega) (j % 4) (Nat.mod_lt _ (by decide))
    rw [← pcl_at m (j / 4) (j % 4) (by omega) (Nat.mod_lt _ (by decide)), show j / 4 * 4 + j % 4 = j by omega, hu] at h4
    exact h4
theorem plo_pls {W : World} {v : Value} {ps : List Pq} (h : PlO W v ps) (hok : ∀ x ∈ ps, x.ok) (hl : ps.length ≤ 140737488355328) : PlsIn W v ps := by
  rcases h.2 with ⟨rfl, h0⟩ | ⟨g, cap, cur, rfl, _, hg, hcap, _⟩
  · have : ps = [] := List.length_eq_zero_iff.1 h0
    subst this
    exact plsNil W
  · refine ⟨some ⟨g, 0, none⟩, cap, rfl, hcap, hl, Or.inr ⟨g, 0, rfl, fun i hi j hj => ?_⟩, hok⟩
    rw [Nat.zero_add, own_cellAt h (i * 4 + j) (by omega), pcl_at ps i j hi hj]
/-- what Fit and Append tell alike -/
def Fx (k d : Nat) (us : List (Nat × Nat)) (x : Pq) (fb : Bool) : Prop := (fb = true ∧ ∃ a : Nat, Fits k us a 3 ∧ x = ⟨(d : Nat), (a : Nat), 3, false⟩) ∨ (fb = false ∧ (∀ a, ¬ Room1 k us a 3) ∧ x = zP)
theorem fitX {w : World} {gr d n : Nat} {vu vb : Value} {us : List (Nat × Nat)} (h : RfU w gr d n vu vb (us.map (pqOf d))) (hn : n ≤ 4096) (ha : Apt (n / 16) us) : Calls Tryd.prog 20 #[ptr gr, .int .i64 100] w fun e w' => ∃ x fb, e = .returned (.tuple #[.agg x.cells.toArray, .bool fb]) ∧ Below w.heap.size w w' ∧ Fx (n / 16) d us x fb := by
  have hl := ha.len
  refine (rfit_any h hn (fun u hu => by have := ha.ok u hu; omega) (by omega) 100 3 (by decide) rfl).mono ?_
  rintro e w' ⟨hb, ⟨a, h1, h2⟩ | ⟨h1, h2⟩⟩
  · exact ⟨⟨(d : Nat), (a : Nat), 3, false⟩, true, h2, hb, Or.inl ⟨rfl, a, h1, rfl⟩⟩
  · exact ⟨zP, false, h2, hb, Or.inr ⟨rfl, h1, rfl⟩⟩
theorem appX {w W : World} {c : Nat → Colour} {gp gh gf gm d q n kd : Nat} {m : Pl} {fr : List Nat} {f : Int → Option Int} {us : List (Nat × Nat)} {x : Pq} {fb : Bool} (hp : PlW w W c gp m n 0) (hon : m.on = true) (hfu : m.fuse < 0) (hd : d < 2) (hk : kd = [1, n].getD d 0 / 16) (h : HotM W gh gp gf gm d q fr f) (hs : SegInv fr us) (hl : fr.length = kd) (hq : q ≤ 9007199254740992) (hc : HotC c gh gf gm) (hnw : w.heap.size ≤ gf ∧ w.heap.size ≤ gm) (hx : Fx kd d us x fb) (vb : Value) (hin : SliceIn W vb (zr 100)) : Calls Tryd.prog 21 #[ptr gh, vb] W fun e W' => ∃ er, e = .returned (.tuple #[.agg x.cells.toArray, .int .i64 er]) ∧ decide (er = 0) = fb ∧ Below w.heap.size w W' ∧ Ch (fun b => (c b).1 = 2 ∨ b = gf ∨ b = gm) W W' := by
  have hn := hp.hn
  have hle := hp.le
  have hkb : kd ≤ 1000 := by
    rw [hk]
    rcases (by omega : d = 0 ∨ d = 1) with rfl | rfl
    · show 1 / 16 ≤ 1000
      decide
    · show n / 16 ≤ 1000
      omega
  have hz : (zr 100).length ≤ 512 := by rw [zr_length]; decide
  have hz3 : costN (zr 100).length = 3 := by rw [zr_length]; rfl
  refine (appendH_any h hp.tabW hp.tzW hp.live hc hs.lt (by omega) hq (by omega) (by omega) vb (zr 100) hin hz).mono ?_
  rintro e W' ⟨c', hsq, hr⟩
  rw [hz3] at hr
  have hbel : Below w.heap.size w W' := hp.below.trans (hsq.ch.below hp.below.size fun i hi e => by
    rcases e with e | rfl | rfl
    · rw [hp.cc i hi] at e
      cases e
    · omega
    · omega)
  rcases hr with ⟨r1, r2, _⟩ | ⟨a, r1, _, r3⟩
  · rcases hx with ⟨_, a, ha, _⟩ | ⟨rfl, _, rfl⟩
    · exact absurd ((hs.free (by decide)).2 (by rw [hl]; exact ha.1)) (r1 a)
    · exact ⟨3, r2, rfl, hbel, hsq.ch⟩
  · have hfit := FirstFit.fits hs (by decide) r1
    rw [hl] at hfit
    rcases hx with ⟨rfl, a', ha, rfl⟩ | ⟨_, hno, _⟩
    · obtain rfl : a = a' := hfit.uniq ha
      have hd1 : d = 1 := by
        rcases (by omega : d = 0 ∨ d = 1) with rfl | rfl
        · have h1 := hfit.1.1
          rw [hk] at h1
          exact absurd h1 (by show ¬ a / 16 < 1 / 16; omega)
        · rfl
      subst hd1
      have hsz : a + (imgP 1 a m.steps (zr 100)).length ≤ m.size 1 := by
        rw [hp.dev.2.2.1, imgP_length, hz3]
        have h8 := hfit.1.1
        have h9 := hfit.1.2.1
        rw [hk] at h8
        have h8 : a / 16 < n / 16 := h8
        omega
      rcases Lv.lay (i := 1) (imgP 1 a m.steps (zr 100)) a m (hp.lv hon) (imgP_sec 1 a m.steps (zr_lt 100)) hsz with ⟨l1, _⟩ | ⟨_, l2⟩
      · rcases r3 with ⟨q1, _⟩ | ⟨_, q2, _⟩
        · exact absurd l1 q1
        · exact ⟨0, q2, rfl, hbel, hsq.ch⟩
      · have := l2.fuse
        omega
    · exact absurd hfit.1 (hno a)
theorem run_eqB {w : World} {a : Act} {o : Oper} (x y : Operand) (ho : o.op = .binOp .eql 4 x y 4) (b : Bool) (hx : a.eval x = .bool b) (hy : a.eval y = .bool b) : (execOp a.eval o).run Tryd.prog w = .ok (.value (.bool true)) w := by
  refine run_binOp' x y ho (.bool b) (.bool b) _ hx hy rfl ?_
  cases b <;> kernel_rfl
set_option maxHeartbeats 4000000 in
set_option maxRecDepth 100000 in
theorem hotlogOpens_any (w : World) (ht : Fr.TabIn w) (hz : TzIn w) (z : Int) (hz0 : -9223372036854775808 ≤ z ∧ z ≤ 9223372036854775807) (dv : Int) (vu : Value) (us : List Pq) (hu : PlsIn w vu us) (hL : us.length ≤ 4398046511104) : Calls Tryd.prog 5 #[.int .i64 z, .int .i64 dv, vu] w fun e w' => e = .returned (.bool true) ∧ Below w.heap.size w w' := by
  have HM : Hid (Fr.TabIn w ∧ TzIn w ∧ PlsIn w vu us ∧ ∀ x ∈ us, x.ok) := ⟨ht, hz, hu, (by obtain ⟨_, _, _, _, _, _, h⟩ := hu; exact h)⟩
  obtain ⟨wz, hwz⟩ : ∃ x, x = whichOf z 120 := ⟨_, rfl⟩
  have hwl := whichOf_lt z 120 (by decide)
  obtain ⟨n, hn⟩ : ∃ n, n = 1 + wz := ⟨_, rfl⟩
  have hn1 : 1 ≤ n := (by omega)
  have hn120 : n ≤ 120 := (by omega)
  have HN : Hid (n = 1 + wz ∧ wz = whichOf z 120) := ⟨hn, hwz⟩
  have HZ : Hid (-9223372036854775808 ≤ z ∧ z ≤ 9223372036854775807) := hz0
  obtain ⟨bt, hbt⟩ : ∃ b, b = true := ⟨_, rfl⟩
  have HBT : Hid (bt = true) := hbt
  clear ht hz hu hn hwl hwz hz0 hbt
  obtain ⟨PQ, hPQ⟩ : ∃ PQ : Ending → World → Prop, PQ = fun (e : Ending) (w' : World) => e = .returned (.bool true) ∧ Below w.heap.size w w' := ⟨_, rfl⟩
  have HPQ : Hid (PQ = fun (e : Ending) (w' : World) => e = .returned (.bool true) ∧ Below w.heap.size w w') := hPQ
  rw [← hPQ]
  clear hPQ
  go_enter Tryd.func5, Tryd.ntmps5
  go_upto_region 0 with fail
  refine wp_region_lit ?_
  refine wl rfl (.bool false) _ (run_asZ (.const (.bool false)) rfl (.bool false) rfl) ?_
  simp only [Act.put, aS, aC, aZ]
  refine wpList_nil ?_
  go_upto_region 1 with fail
  refine wp_region_lit ?_
  refine wpList_callW eN9 [] _ rfl rfl [] rfl ?_
  refine (shown_any w HM.out.1 HM.out.2.1).mono ?_
  rintro e W1 ⟨rfl, hb_⟩
  refine ⟨_, rfl, ?_⟩
  have H1 : Hid (Below w.heap.size w W1) := hb_
  clear hb_
  simp only [Act.put, aS, aC, aZ]
  refine wl rfl (.bool true) _ (run_asZ (.tmp 20) rfl (.bool true) rfl) ?_
  simp only [Act.put, aS, aC, aZ]
  refine wpList_nil ?_
  go_upto_region 2 with fail
  refine wp_region_lit ?_
  refine wl rfl (.bool true) _ (run_mvZ (.tmp 7) rfl (.bool true) rfl) ?_
  simp only [Act.put, aS, aC, aZ]
  refine wl rfl (.bool false) _ (run_not (.tmp 21) 4 rfl true rfl) ?_
  simp only [Act.put, aS, aC, aZ]
  refine wpList_nil ?_
  go_upto_region 4 with fail
  refine wp_region_lit ?_
  refine wl rfl (.int .i64 z) _ (run_mvZ (.tmp 0) rfl (.int .i64 z) rfl) ?_
  simp only [Act.put, aS, aC, aZ]
  refine wpList_callW eN11 [.tmp 23, .const (.int .i64 120)] _ rfl rfl [(.int .i64 z), .int .i64 120] rfl ?_
  refine (which_any W1 z 120 (by decide) HZ.out.1 HZ.out.2).mono ?_
  rintro e W_ ⟨he_, rfl⟩
  rw [← HN.out.2] at he_
  subst he_
  refine ⟨_, rfl, ?_⟩
  simp only [Act.put, aS, aC, aZ]
  refine wl rfl (.int .i64 (n : Nat)) _ (run_addZ (.const (.int .i64 1)) (.tmp 24) rfl 1 (wz : Nat) _ rfl rfl (by have := HN.out.1; omega) (by omega) (by omega)) ?_
  simp only [Act.put, aS, aC, aZ]
  refine wl rfl (.int .i64 (n : Nat)) _ (run_asZ (.tmp 25) rfl (.int .i64 (n : Nat)) rfl) ?_
  simp only [Act.put, aS, aC, aZ]
  refine wpList_nil ?_
  go_upto_region 5 with fail
  refine wp_region_lit ?_
  refine wl rfl (.int .i64 (n : Nat)) _ (run_mvZ (.tmp 8) rfl (.int .i64 (n : Nat)) rfl) ?_
  simp only [Act.put, aS, aC, aZ]
  refine wpList_callW eN17 [.tmp 26] _ rfl rfl [(.int .i64 (n : Nat))] rfl ?_
  refine (made_any H1.out HM.out.1 HM.out.2.1 n ⟨by omega, by omega⟩).mono ?_
  rintro e W2 ⟨gp, c, rfl, hb_, hp_⟩
  refine ⟨_, rfl, ?_⟩
  have H2 : Hid (PlW w W2 c gp (newPl [1, (n : Int)] [9]) n 0) := hp_
  clear hb_ hp_
  simp only [Act.put, aS, aC, aZ]
  refine wl rfl (ptr gp) _ (run_asZ (.tmp 27) rfl (ptr gp) rfl) ?_
  simp only [Act.put, aS, aC, aZ]
  refine wpList_nil ?_
  go_upto_region 6 with fail
  refine wp_region_lit ?_
  refine wl rfl (ptr gp) _ (run_mvZ (.tmp 9) rfl (ptr gp) rfl) ?_
  simp only [Act.put, aS, aC, aZ]
  refine wl rfl (.bool false) _ (run_binOp' (.tmp 28) (.const (.pointer none)) rfl _ _ _ rfl rfl rfl (by kernel_rfl)) ?_
  simp only [Act.put, aS, aC, aZ]
  refine wpList_nil ?_
  go_upto_region 8 with fail
  refine wp_region_lit ?_
  refine wl rfl (.slice (some ⟨W2.heap.size, 0, none⟩) 0 0) _ (run_plit0 rfl) ?_
  have hb_ := below_alloc W2 (.cells #[] 30)
  have p_ := plit0_row W2
  obtain ⟨W3, hW_⟩ : ∃ U_ : World, U_ = W2.alloc (.cells #[] 30) := ⟨_, rfl⟩
  obtain ⟨v0, hv_⟩ : ∃ v : Value, v = .slice (some ⟨W2.heap.size, 0, none⟩) 0 0 := ⟨_, rfl⟩
  have ob_ : v0.ownBlock = some W2.heap.size := (by rw [hv_]; rfl)
  rw [← hW_] at hb_ p_ ⊢
  rw [← hv_] at p_ ⊢
  have H3 : Hid (PlO W3 v0 [] ∧ PlW w W3 c gp (newPl [1, (n : Int)] [9]) n 0 ∧ Below W2.heap.size W2 W3 ∧ v0.ownBlock = some W2.heap.size) := ⟨p_, H2.out.bel hb_, hb_, ob_⟩
  clear hb_ p_ hW_ hv_ ob_
  simp only [Act.put, aS, aC, aZ]
  refine wl rfl vu _ (run_mvZ (.tmp 2) rfl vu rfl) ?_
  simp only [Act.put, aS, aC, aZ]
  obtain ⟨vO, W4, hr_, hp_, hg_⟩ := papp_in (w := W3) 43 v0 [] us H3.out.1 vu (HM.out.2.2.1.later H3.out.2.1.below) (by have hll : ([] : List Pq).length = 0 := rfl; omega)
  refine wl rfl vO W4 (run_append (.tmp 30) (.tmp 31) rfl v0 vu vO rfl rfl ((appTy _ 43 _ _).trans hr_)) ?_
  have hc_ : Ch (fun b => v0.ownBlock = some b) W3 W4 := (Ch.refl _ W3).grown hg_ fun k e => Or.inl e
  have hbb : Below W2.heap.size W2 W4 := H3.out.2.2.1.trans (hc_.below H3.out.2.2.1.size fun k hk e => by rw [H3.out.2.2.2] at e; injection e with e; omega)
  have H4 : Hid (PlO W4 vO us ∧ PlW w W4 c gp (newPl [1, (n : Int)] [9]) n 0) := ⟨hp_, H2.out.bel hbb⟩
  clear hr_ hp_ hg_ hc_ hbb
  simp only [Act.put, aS, aC, aZ]
  refine wl rfl vO _ (run_asZ (.tmp 32) rfl vO rfl) ?_
  simp only [Act.put, aS, aC, aZ]
  refine wpList_nil ?_
  by_cases hbad : dv < 0 ∨ 2 ≤ dv
  · go_upto_region 9 with fail
    refine wp_region_lit ?_
    refine wl rfl (ptr gp) _ (run_mvZ (.tmp 9) rfl (ptr gp) rfl) ?_
    simp only [Act.put, aS, aC, aZ]
    refine wl rfl (.int .i64 dv) _ (run_mvZ (.tmp 1) rfl (.int .i64 dv) rfl) ?_
    simp only [Act.put, aS, aC, aZ]
    refine wl rfl vO _ (run_mvZ (.tmp 10) rfl vO rfl) ?_
    simp only [Act.put, aS, aC, aZ]
    refine wpList_callW eN18 [.tmp 34, .tmp 35, .tmp 36] _ rfl rfl [(ptr gp), (.int .i64 dv), vO] rfl ?_
    refine (openArg_any H4.out.2.live H4.out.2.shape dv (by rcases hbad with h | h; exact Or.inl h; exact Or.inr (by simpa using h)) vO).mono ?_
    rintro e W5 ⟨rfl, hb_⟩
    refine ⟨_, rfl, ?_⟩
    have H5 : Hid (PlO W5 vO us ∧ PlW w W5 c gp (newPl [1, (n : Int)] [9]) n 0) := ⟨H4.out.1.kept fun b e => hb_.block b (H4.out.1.lt e), H4.out.2.bel hb_⟩
    clear hb_
    simp only [Act.put, aS, aC, aZ]
    refine wl rfl (.tuple #[(.pointer none), (.int .i64 1)]) _ (run_mvZ (.tmp 37) rfl (.tuple #[(.pointer none), (.int .i64 1)]) rfl) ?_
    simp only [Act.put, aS, aC, aZ]
    refine wl rfl (.pointer none) _ (run_extZ (.tmp 33) 0 rfl #[(.pointer none), (.int .i64 1)] rfl (.pointer none) rfl) ?_
    simp only [Act.put, aS, aC, aZ]
    refine wl rfl (.int .i64 1) _ (run_extZ (.tmp 33) 1 rfl #[(.pointer none), (.int .i64 1)] rfl (.int .i64 1) rfl) ?_
    simp only [Act.put, aS, aC, aZ]
    refine wl rfl (.pointer none) _ (run_asZ (.tmp 38) rfl (.pointer none) rfl) ?_
    simp only [Act.put, aS, aC, aZ]
    refine wl rfl (.int .i64 1) _ (run_asZ (.tmp 39) rfl (.int .i64 1) rfl) ?_
    simp only [Act.put, aS, aC, aZ]
    refine wpList_nil ?_
    go_upto_region 10 with fail
    refine wp_region_lit ?_
    refine wl rfl (.int .i64 (n : Nat)) _ (run_mvZ (.tmp 8) rfl (.int .i64 (n : Nat)) rfl) ?_
    simp only [Act.put, aS, aC, aZ]
    refine wl rfl (whole W5.heap.size 2) _ (run_lit2 (.const (.int .i64 1)) (.tmp 41) rfl 1 (n : Nat) rfl rfl) ?_
    have hb_ := below_alloc W5 (.cells (lit2 1 (n : Nat)).toArray 3)
    have r_ := Row.new W5 3 (lit2 1 (n : Nat))
    obtain ⟨W6, hW_⟩ : ∃ U_ : World, U_ = W5.alloc (.cells (lit2 1 (n : Nat)).toArray 3) := ⟨_, rfl⟩
    obtain ⟨ql, hq_⟩ : ∃ q, q = W5.heap.size := ⟨_, rfl⟩
    rw [← hW_] at hb_
    rw [← hW_, ← hq_] at r_
    rw [← hW_, ← hq_]
    have H6 : Hid (PlO W6 vO us ∧ PlW w W6 c gp (newPl [1, (n : Int)] [9]) n 0 ∧ Row W6 ql 3 (lit2 1 (n : Nat))) := ⟨H5.out.1.kept fun b e => hb_.block b (H5.out.1.lt e), H5.out.2.bel hb_, r_⟩
    clear r_ hb_ hW_ hq_
    simp only [Act.put, aS, aC, aZ]
    refine wl rfl (.int .i64 dv) _ (run_mvZ (.tmp 1) rfl (.int .i64 dv) rfl) ?_
    simp only [Act.put, aS, aC, aZ]
    refine wl rfl vu _ (run_mvZ (.tmp 2) rfl vu rfl) ?_
    simp only [Act.put, aS, aC, aZ]
    refine wpList_callW eN19 [.tmp 42, .tmp 43, .tmp 44] _ rfl rfl [(whole ql 2), (.int .i64 dv), vu] rfl ?_
    refine (ropenArg_any W6 ql dv hbad vu).mono ?_
    rintro e W7 ⟨rfl, hb_⟩
    refine ⟨_, rfl, ?_⟩
    have H7 : Hid (PlO W7 vO us ∧ PlW w W7 c gp (newPl [1, (n : Int)] [9]) n 0 ∧ True) := ⟨H6.out.1.kept fun b e => hb_.block b (H6.out.1.lt e), H6.out.2.1.bel hb_, trivial⟩
    clear hb_
    simp only [Act.put, aS, aC, aZ]
    refine wl rfl (.tuple #[(.pointer none), (.int .i64 1)]) _ (run_mvZ (.tmp 45) rfl (.tuple #[(.pointer none), (.int .i64 1)]) rfl) ?_
    simp only [Act.put, aS, aC, aZ]
    refine wl rfl (.pointer none) _ (run_extZ (.tmp 40) 0 rfl #[(.pointer none), (.int .i64 1)] rfl (.pointer none) rfl) ?_
    simp only [Act.put, aS, aC, aZ]
    refine wl rfl (.int .i64 1) _ (run_extZ (.tmp 40) 1 rfl #[(.pointer none), (.int .i64 1)] rfl (.int .i64 1) rfl) ?_
    simp only [Act.put, aS, aC, aZ]
    refine wl rfl (.pointer none) _ (run_asZ (.tmp 46) rfl (.pointer none) rfl) ?_
    simp only [Act.put, aS, aC, aZ]
    refine wl rfl (.int .i64 1) _ (run_asZ (.tmp 47) rfl (.int .i64 1) rfl) ?_
    simp only [Act.put, aS, aC, aZ]
    refine wpList_nil ?_
    go_upto_region 11 with fail
    refine wp_region_lit ?_
    refine wl rfl (.int .i64 1) _ (run_mvZ (.tmp 12) rfl (.int .i64 1) rfl) ?_
    simp only [Act.put, aS, aC, aZ]
    refine wl rfl (.int .i64 1) _ (run_mvZ (.tmp 14) rfl (.int .i64 1) rfl) ?_
    simp only [Act.put, aS, aC, aZ]
    refine wl rfl (.bool false) _ (run_neZ (.tmp 48) (.tmp 49) rfl 1 1 rfl rfl false rfl) ?_
    simp only [Act.put, aS, aC, aZ]
    refine wl rfl (.bool false) _ (run_mvZ (.tmp 50) rfl (.bool false) rfl) ?_
    simp only [Act.put, aS, aC, aZ]
    refine wl (by kernel_rfl) (.pointer none) _ (run_mvZ (.tmp 11) rfl (.pointer none) rfl) ?_
    simp only [Act.put, aS, aC, aZ]
    refine wl (by kernel_rfl) (.bool bt) _ ((by rw [HBT.out]; exact run_binOp' (.tmp 52) (.const (.pointer none)) rfl _ _ _ rfl rfl rfl (by kernel_rfl))) ?_
    simp only [Act.put, aS, aC, aZ]
    refine wl (by kernel_rfl) (.pointer none) _ (run_mvZ (.tmp 13) rfl (.pointer none) rfl) ?_
    simp only [Act.put, aS, aC, aZ]
    refine wl (by kernel_rfl) (.bool bt) _ ((by rw [HBT.out]; exact run_binOp' (.tmp 54) (.const (.pointer none)) rfl _ _ _ rfl rfl rfl (by kernel_rfl))) ?_
    simp only [Act.put, aS, aC, aZ]
    refine wl (by kernel_rfl) (.bool false) _ (run_neB (.tmp 53) (.tmp 55) rfl bt rfl rfl) ?_
    simp only [Act.put, aS, aC, aZ]
    refine wl rfl (.bool false) _ (run_pickZ (.tmp 51) (.const (.bool true)) (.tmp 56) rfl false (.bool false) rfl rfl) ?_
    simp only [Act.put, aS, aC, aZ]
    refine wpList_nil ?_
    go_upto_region 13 with fail
    refine wp_region_lit ?_
    refine wl rfl (.int .i64 0) _ (run_asZ (.const (.int .i64 0)) rfl (.int .i64 0) rfl) ?_
    simp only [Act.put, aS, aC, aZ]
    refine wpList_nil ?_
    go_wp2_with fail
    go_loopw [15] (fun vi W => ∃ i : Nat, vi = .int .i64 (i : Nat) ∧ i ≤ us.length ∧ Hid (Below W7.heap.size W7 W)) (fun vi _ => us.length - (intOf vi).toNat)
    case atStart => exact ⟨0, rfl, Nat.zero_le _, Below.refl _ _⟩
    case round =>
      obtain ⟨i, rfl, hi, HI⟩ := hrel
      by_cases hlt : i < us.length
      · go_upto_region 14 with fail
        refine wp_region_lit ?_
        refine wl rfl (.int .i64 (i : Nat)) _ (run_mvZ (.tmp 15) rfl (.int .i64 (i : Nat)) rfl) ?_
        simp only [Act.put, aS, aC, aZ]
        refine wl rfl vu _ (run_mvZ (.tmp 2) rfl vu rfl) ?_
        simp only [Act.put, aS, aC, aZ]
        refine wl rfl (.int .i64 (us.length : Nat)) _ (run_lenP HM.out.2.2.1 (.tmp 59) rfl rfl) ?_
        simp only [Act.put, aS, aC, aZ]
        refine wl rfl (.bool true) _ (run_lssZ (.tmp 58) (.tmp 60) rfl (i : Nat) (us.length : Nat) rfl rfl true (decide_eq_true (by omega))) ?_
        simp only [Act.put, aS, aC, aZ]
        refine wpList_nil ?_
        obtain ⟨bu, ju, hxu, hok, hcu⟩ := ix_pl HM.out.2.2.1 i hlt
        obtain ⟨bO, _, hx_, hc_⟩ := H7.out.1.ix i hlt
        obtain ⟨x, hx⟩ : ∃ x, x = us.getD i default := ⟨_, rfl⟩
        rw [← hx] at hok hcu hc_
        have HX : Hid ((∀ w', (Instr.indexAt 43 vu (.int .i64 (i : Nat))).run Tryd.prog w' = .ok (.pointer (some ⟨bu, ju, none⟩)) w') ∧ (∀ W, Below w.heap.size w W → ∀ (j : Nat) u, x.cells[j]? = some u → W.cell? ⟨bu, ju + j, none⟩ = some u) ∧ (∀ w', (Instr.indexAt 43 vO (.int .i64 (i : Nat))).run Tryd.prog w' = .ok (.pointer (some ⟨bO, i * 4, none⟩)) w') ∧ (∀ W' : World, PlO W' vO us → ∀ j u, x.cells[j]? = some u → W'.cell? ⟨bO, i * 4 + j, none⟩ = some u)) := ⟨hxu, hcu, hx_, hc_⟩
        clear hx hok hxu hcu hx_ hc_
        go_upto_region 16 with fail
        refine wp_region_held (S := fun X => PlO X vO us ∧ Below w.heap.size w X) (by kernel_rfl) ?_
        show wpAnyH _ _ _ _ _ 9 (Array.replicate 9 false) _ _
        obtain ⟨X, hX⟩ : ∃ X : World, X = { wr with drawn := wr.drawn + 1 } := ⟨_, rfl⟩
        rw [← hX]
        have HBX : Hid (Below W7.heap.size W7 X) := (by rw [hX]; exact HI.out.trans ⟨rfl, rfl, rfl, Nat.le_refl _, fun _ _ => rfl⟩)
        have HS_ : PlO X vO us ∧ Below w.heap.size w X := ⟨H7.out.1.kept fun b e => HBX.out.block b (H7.out.1.lt e), (H7.out.2.1.bel HBX.out).below⟩
        clear hX
        refine takeH (i := 0) (some 64) rfl rfl (by kernel_rfl) (by kernel_rfl) (by kernel_rfl) (fun _ _ _ h => h) (gRun rfl vO fun _ h => run_mvZ (.tmp 10) rfl vO rfl) HS_ ?_
        simp only [Act.put, aS, aC, aZ]
        refine takeH (i := 1) (some 65) rfl rfl (by kernel_rfl) (by kernel_rfl) (by kernel_rfl) (fun _ _ _ h => h) (gRun rfl (.int .i64 (i : Nat)) fun _ h => run_mvZ (.tmp 15) rfl (.int .i64 (i : Nat)) rfl) HS_ ?_
        simp only [Act.put, aS, aC, aZ]
        refine takeH (i := 2) (some 66) rfl rfl (by kernel_rfl) (by kernel_rfl) (by kernel_rfl) (fun _ _ _ h => h) (gRun rfl (.pointer (some ⟨bO, i * 4, none⟩)) fun _ h => run_idx (.tmp 64) (.tmp 65) rfl _ _ _ rfl rfl HX.out.2.2.1) HS_ ?_
        simp only [Act.put, aS, aC, aZ]
        refine takeH (i := 3) (some 67) rfl rfl (by kernel_rfl) (by kernel_rfl) (by kernel_rfl) (fun _ _ _ h => h) (gRun rfl (.agg (x.cells).toArray) fun _ h => run_loadA ag30 (.tmp 66) rfl bO (i * 4) rfl (x.cells) rfl (HX.out.2.2.2 _ h.1)) HS_ ?_
        simp only [Act.put, aS, aC, aZ]
        refine takeH (i := 4) (some 68) rfl rfl (by kernel_rfl) (by kernel_rfl) (by kernel_rfl) (fun _ _ _ h => h) (gRun rfl vu fun _ h => run_mvZ (.tmp 2) rfl vu rfl) HS_ ?_
        simp only [Act.put, aS, aC, aZ]
        refine takeH (i := 5) (some 69) rfl rfl (by kernel_rfl) (by kernel_rfl) (by kernel_rfl) (fun _ _ _ h => h) (gRun rfl (.int .i64 (i : Nat)) fun _ h => run_mvZ (.tmp 15) rfl (.int .i64 (i : Nat)) rfl) HS_ ?_
        simp only [Act.put, aS, aC, aZ]
        refine takeH (i := 6) (some 70) rfl rfl (by kernel_rfl) (by kernel_rfl) (by kernel_rfl) (fun _ _ _ h => h) (gRun rfl (.pointer (some ⟨bu, ju, none⟩)) fun _ h => run_idx (.tmp 68) (.tmp 69) rfl _ _ _ rfl rfl HX.out.1) HS_ ?_
        simp only [Act.put, aS, aC, aZ]
        refine takeH (i := 7) (some 71) rfl rfl (by kernel_rfl) (by kernel_rfl) (by kernel_rfl) (fun _ _ _ h => h) (gRun rfl (.agg (x.cells).toArray) fun _ h => run_loadA ag30 (.tmp 70) rfl bu (ju) rfl (x.cells) rfl (HX.out.2.1 _ h.2)) HS_ ?_
        simp only [Act.put, aS, aC, aZ]
        refine takeH (i := 8) (some 72) rfl rfl (by kernel_rfl) (by kernel_rfl) (by kernel_rfl) (fun _ _ _ h => h) (gRun rfl (.bool false) fun _ h => run_nePl (.tmp 67) (.tmp 71) rfl x.dv x.at_ x.ln x.dv x.at_ x.ln x.bd x.bd rfl rfl false (by simp)) HS_ ?_
        simp only [Act.put, aS, aC, aZ]
        refine wpAnyH_done (by kernel_rfl) ?_ _
        go_wp2_with fail
        refine ⟨⟨i + 1, by go_num, by omega, HBX.out⟩, ?_⟩
        simp [intOf]; omega
      · go_upto_region 14 with fail
        refine wp_region_lit ?_
        refine wl rfl (.int .i64 (i : Nat)) _ (run_mvZ (.tmp 15) rfl (.int .i64 (i : Nat)) rfl) ?_
        simp only [Act.put, aS, aC, aZ]
        refine wl rfl vu _ (run_mvZ (.tmp 2) rfl vu rfl) ?_
        simp only [Act.put, aS, aC, aZ]
        refine wl rfl (.int .i64 (us.length : Nat)) _ (run_lenP HM.out.2.2.1 (.tmp 59) rfl rfl) ?_
        simp only [Act.put, aS, aC, aZ]
        refine wl rfl (.bool false) _ (run_lssZ (.tmp 58) (.tmp 60) rfl (i : Nat) (us.length : Nat) rfl rfl false (decide_eq_false (by omega))) ?_
        simp only [Act.put, aS, aC, aZ]
        refine wpList_nil ?_
        obtain ⟨W8, hW8⟩ : ∃ U_ : World, U_ = wr := ⟨_, rfl⟩
        rw [← hW8]
        have H8 : Hid (Below W7.heap.size W7 W8) := (by rw [hW8]; exact HI.out)
        clear HI hW8
        go_upto_region 18 with fail
        refine wp_region_lit ?_
        refine wl rfl (.pointer none) _ (run_mvZ (.tmp 11) rfl (.pointer none) rfl) ?_
        simp only [Act.put, aS, aC, aZ]
        refine wl rfl (.bool true) _ (run_binOp' (.tmp 73) (.const (.pointer none)) rfl _ _ _ rfl rfl rfl (by kernel_rfl)) ?_
        simp only [Act.put, aS, aC, aZ]
        refine wpList_nil ?_
        go_upto_region 19 with fail
        refine wp_region_lit ?_
        refine wl rfl (.bool true) _ (run_mvZ (.tmp 7) rfl (.bool true) rfl) ?_
        simp only [Act.put, aS, aC, aZ]
        refine wl rfl (.bool true) _ (run_asZ (.tmp 75) rfl (.bool true) rfl) ?_
        simp only [Act.put, aS, aC, aZ]
        refine wpList_nil ?_
        go_wp2_with fail
        rw [HPQ.out]
        exact ⟨rfl, (H7.out.2.1.bel H8.out).below⟩
  · obtain ⟨d, rfl⟩ : ∃ d : Nat, dv = (d : Nat) := ⟨dv.toNat, by omega⟩
    have hd : d < 2 := (by omega)
    clear hbad
    obtain ⟨nd, hnd⟩ : ∃ x, x = [1, n].getD d 0 := ⟨_, rfl⟩
    have hnd1 : nd ≤ 4096 := (by rw [hnd]; rcases (by omega : d = 0 ∨ d = 1) with rfl | rfl; exact (by decide : 1 ≤ 4096); exact (by omega : n ≤ 4096))
    have hcs : (lit2 1 (n : Nat))[d]? = some (.int .i64 (nd : Nat)) := (by rw [hnd]; rcases (by omega : d = 0 ∨ d = 1) with rfl | rfl <;> rfl)
    have HND : Hid (nd = [1, n].getD d 0 ∧ (lit2 1 (n : Nat))[d]? = some (.int .i64 (nd : Nat)) ∧ ∀ x ∈ [1, n], x ≤ 4096) := ⟨hnd, hcs, fun x hx => (by simp at hx; omega)⟩
    clear hnd hcs
    have HSP := opn_spec d (nd / 16) us [] (List.replicate (nd / 16) 65535) (fun _ => none) 0 (SegInv.new _) FM.nil List.length_replicate
    by_cases hnone : opr d (nd / 16) us [] = none
    · have hno : opn d us (List.replicate (nd / 16) 65535) (fun _ => none) 0 = none := (by rcases HSP with ⟨_, _, _, _, _, h, _⟩ | h; (rw [hnone] at h; cases h); exact h.1)
      have HNO : Hid (opr d (nd / 16) us [] = none ∧ opn d us (List.replicate (nd / 16) 65535) (fun _ => none) 0 = none) := ⟨hnone, hno⟩
      clear hnone hno HSP
      go_upto_region 9 with fail
      refine wp_region_lit ?_
      refine wl rfl (ptr gp) _ (run_mvZ (.tmp 9) rfl (ptr gp) rfl) ?_
      simp only [Act.put, aS, aC, aZ]
      refine wl rfl (.int .i64 (d : Nat)) _ (run_mvZ (.tmp 1) rfl (.int .i64 (d : Nat)) rfl) ?_
      simp only [Act.put, aS, aC, aZ]
      refine wl rfl vO _ (run_mvZ (.tmp 10) rfl vO rfl) ?_
      simp only [Act.put, aS, aC, aZ]
      refine wpList_callW eN18 [.tmp 34, .tmp 35, .tmp 36] _ rfl rfl [(ptr gp), (.int .i64 (d : Nat)), vO] rfl ?_
      refine (openH_any H4.out.2.live H4.out.2.shape HND.out.2.2 d (nd / 16) (by simpa using hd) (by rw [HND.out.1]) vO us (plo_pls H4.out.1 HM.out.2.2.2 (by omega))).mono ?_
      rintro e W5 ⟨hb_, h_⟩
      have he_ : e = .returned (.tuple #[.pointer none, .int .i64 31]) := (by
        rcases h_ with ⟨_, h_⟩ | ⟨_, _, _, _, _, _, h_, _⟩
        · exact h_
        · rw [HNO.out.2] at h_
          cases h_)
      subst he_
      clear h_
      refine ⟨_, rfl, ?_⟩
      have H5 : Hid (PlO W5 vO us ∧ PlW w W5 c gp (newPl [1, (n : Int)] [9]) n 0) := ⟨H4.out.1.kept fun b e => hb_.block b (H4.out.1.lt e), H4.out.2.bel hb_⟩
      clear hb_
      simp only [Act.put, aS, aC, aZ]
      refine wl rfl (.tuple #[(.pointer none), (.int .i64 31)]) _ (run_mvZ (.tmp 37) rfl (.tuple #[(.pointer none), (.int .i64 31)]) rfl) ?_
      simp only [Act.put, aS, aC, aZ]
      refine wl rfl (.pointer none) _ (run_extZ (.tmp 33) 0 rfl #[(.pointer none), (.int .i64 31)] rfl (.pointer none) rfl) ?_
      simp only [Act.put, aS, aC, aZ]
      refine wl rfl (.int .i64 31) _ (run_extZ (.tmp 33) 1 rfl #[(.pointer none), (.int .i64 31)] rfl (.int .i64 31) rfl) ?_
      simp only [Act.put, aS, aC, aZ]
      refine wl rfl (.pointer none) _ (run_asZ (.tmp 38) rfl (.pointer none) rfl) ?_
      simp only [Act.put, aS, aC, aZ]
      refine wl rfl (.int .i64 31) _ (run_asZ (.tmp 39) rfl (.int .i64 31) rfl) ?_
      simp only [Act.put, aS, aC, aZ]
      refine wpList_nil ?_
      go_upto_region 10 with fail
      refine wp_region_lit ?_
      refine wl rfl (.int .i64 (n : Nat)) _ (run_mvZ (.tmp 8) rfl (.int .i64 (n : Nat)) rfl) ?_
      simp only [Act.put, aS, aC, aZ]
      refine wl rfl (whole W5.heap.size 2) _ (run_lit2 (.const (.int .i64 1)) (.tmp 41) rfl 1 (n : Nat) rfl rfl) ?_
      have hb_ := below_alloc W5 (.cells (lit2 1 (n : Nat)).toArray 3)
      have r_ := Row.new W5 3 (lit2 1 (n : Nat))
      obtain ⟨W6, hW_⟩ : ∃ U_ : World, U_ = W5.alloc (.cells (lit2 1 (n : Nat)).toArray 3) := ⟨_, rfl⟩
      obtain ⟨ql, hq_⟩ : ∃ q, q = W5.heap.size := ⟨_, rfl⟩
      rw [← hW_] at hb_
      rw [← hW_, ← hq_] at r_
      rw [← hW_, ← hq_]
      have H6 : Hid (PlO W6 vO us ∧ PlW w W6 c gp (newPl [1, (n : Int)] [9]) n 0 ∧ Row W6 ql 3 (lit2 1 (n : Nat))) := ⟨H5.out.1.kept fun b e => hb_.block b (H5.out.1.lt e), H5.out.2.bel hb_, r_⟩
      clear r_ hb_ hW_ hq_
      simp only [Act.put, aS, aC, aZ]
      refine wl rfl (.int .i64 (d : Nat)) _ (run_mvZ (.tmp 1) rfl (.int .i64 (d : Nat)) rfl) ?_
      simp only [Act.put, aS, aC, aZ]
      refine wl rfl vu _ (run_mvZ (.tmp 2) rfl vu rfl) ?_
      simp only [Act.put, aS, aC, aZ]
      refine wpList_callW eN19 [.tmp 42, .tmp 43, .tmp 44] _ rfl rfl [(whole ql 2), (.int .i64 (d : Nat)), vu] rfl ?_
      refine (ropen_any H6.out.2.2 hd HND.out.2.1 hnd1 (HM.out.2.2.1.later H6.out.2.1.below)).mono ?_
      rintro e W7 ⟨hb_, h_⟩
      have he_ : e = .returned (.tuple #[.pointer none, .int .i64 31]) := (by
        rcases h_ with ⟨_, h_⟩ | ⟨_, _, _, _, h_, _⟩
        · exact h_
        · rw [HNO.out.1] at h_
          cases h_)
      subst he_
      clear h_
      refine ⟨_, rfl, ?_⟩
      have H7 : Hid (PlO W7 vO us ∧ PlW w W7 c gp (newPl [1, (n : Int)] [9]) n 0 ∧ True) := ⟨H6.out.1.kept fun b e => hb_.block b (H6.out.1.lt e), H6.out.2.1.bel hb_, trivial⟩
      clear hb_
      simp only [Act.put, aS, aC, aZ]
      refine wl rfl (.tuple #[(.pointer none), (.int .i64 31)]) _ (run_mvZ (.tmp 45) rfl (.tuple #[(.pointer none), (.int .i64 31)]) rfl) ?_
      simp only [Act.put, aS, aC, aZ]
      refine wl rfl (.pointer none) _ (run_extZ (.tmp 40) 0 rfl #[(.pointer none), (.int .i64 31)] rfl (.pointer none) rfl) ?_
      simp only [Act.put, aS, aC, aZ]
      refine wl rfl (.int .i64 31) _ (run_extZ (.tmp 40) 1 rfl #[(.pointer none), (.int .i64 31)] rfl (.int .i64 31) rfl) ?_
      simp only [Act.put, aS, aC, aZ]
      refine wl rfl (.pointer none) _ (run_asZ (.tmp 46) rfl (.pointer none) rfl) ?_
      simp only [Act.put, aS, aC, aZ]
      refine wl rfl (.int .i64 31) _ (run_asZ (.tmp 47) rfl (.int .i64 31) rfl) ?_
      simp only [Act.put, aS, aC, aZ]
      refine wpList_nil ?_
      go_upto_region 11 with fail
      refine wp_region_lit ?_
      refine wl rfl (.int .i64 31) _ (run_mvZ (.tmp 12) rfl (.int .i64 31) rfl) ?_
      simp only [Act.put, aS, aC, aZ]
      refine wl rfl (.int .i64 31) _ (run_mvZ (.tmp 14) rfl (.int .i64 31) rfl) ?_
      simp only [Act.put, aS, aC, aZ]
      refine wl rfl (.bool false) _ (run_neZ (.tmp 48) (.tmp 49) rfl 31 31 rfl rfl false rfl) ?_
      simp only [Act.put, aS, aC, aZ]
      refine wl rfl (.bool false) _ (run_mvZ (.tmp 50) rfl (.bool false) rfl) ?_
      simp only [Act.put, aS, aC, aZ]
      refine wl (by kernel_rfl) (.pointer none) _ (run_mvZ (.tmp 11) rfl (.pointer none) rfl) ?_
      simp only [Act.put, aS, aC, aZ]
      refine wl (by kernel_rfl) (.bool bt) _ ((by rw [HBT.out]; exact run_binOp' (.tmp 52) (.const (.pointer none)) rfl _ _ _ rfl rfl rfl (by kernel_rfl))) ?_
      simp only [Act.put, aS, aC, aZ]
      refine wl (by kernel_rfl) (.pointer none) _ (run_mvZ (.tmp 13) rfl (.pointer none) rfl) ?_
      simp only [Act.put, aS, aC, aZ]
      refine wl (by kernel_rfl) (.bool bt) _ ((by rw [HBT.out]; exact run_binOp' (.tmp 54) (.const (.pointer none)) rfl _ _ _ rfl rfl rfl (by kernel_rfl))) ?_
      simp only [Act.put, aS, aC, aZ]
      refine wl (by kernel_rfl) (.bool false) _ (run_neB (.tmp 53) (.tmp 55) rfl bt rfl rfl) ?_
      simp only [Act.put, aS, aC, aZ]
      refine wl rfl (.bool false) _ (run_pickZ (.tmp 51) (.const (.bool true)) (.tmp 56) rfl false (.bool false) rfl rfl) ?_
      simp only [Act.put, aS, aC, aZ]
      refine wpList_nil ?_
      go_upto_region 13 with fail
      refine wp_region_lit ?_
      refine wl rfl (.int .i64 0) _ (run_asZ (.const (.int .i64 0)) rfl (.int .i64 0) rfl) ?_
      simp only [Act.put, aS, aC, aZ]
      refine wpList_nil ?_
      go_wp2_with fail
      go_loopw [15] (fun vi W => ∃ i : Nat, vi = .int .i64 (i : Nat) ∧ i ≤ us.length ∧ Hid (Below W7.heap.size W7 W)) (fun vi _ => us.length - (intOf vi).toNat)
      case atStart => exact ⟨0, rfl, Nat.zero_le _, Below.refl _ _⟩
      case round =>
        obtain ⟨i, rfl, hi, HI⟩ := hrel
        by_cases hlt : i < us.length
        · go_upto_region 14 with fail
          refine wp_region_lit ?_
          refine wl rfl (.int .i64 (i : Nat)) _ (run_mvZ (.tmp 15) rfl (.int .i64 (i : Nat)) rfl) ?_
          simp only [Act.put, aS, aC, aZ]
          refine wl rfl vu _ (run_mvZ (.tmp 2) rfl vu rfl) ?_
          simp only [Act.put, aS, aC, aZ]
          refine wl rfl (.int .i64 (us.length : Nat)) _ (run_lenP HM.out.2.2.1 (.tmp 59) rfl rfl) ?_
          simp only [Act.put, aS, aC, aZ]
          refine wl rfl (.bool true) _ (run_lssZ (.tmp 58) (.tmp 60) rfl (i : Nat) (us.length : Nat) rfl rfl true (decide_eq_true (by omega))) ?_
          simp only [Act.put, aS, aC, aZ]
          refine wpList_nil ?_
          obtain ⟨bu, ju, hxu, hok, hcu⟩ := ix_pl HM.out.2.2.1 i hlt
          obtain ⟨bO, _, hx_, hc_⟩ := H7.out.1.ix i hlt
          obtain ⟨x, hx⟩ : ∃ x, x = us.getD i default := ⟨_, rfl⟩
          rw [← hx] at hok hcu hc_
          have HX : Hid ((∀ w', (Instr.indexAt 43 vu (.int .i64 (i : Nat))).run Tryd.prog w' = .ok (.pointer (some ⟨bu, ju, none⟩)) w') ∧ (∀ W, Below w.heap.size w W → ∀ (j : Nat) u, x.cells[j]? = some u → W.cell? ⟨bu, ju + j, none⟩ = some u) ∧ (∀ w', (Instr.indexAt 43 vO (.int .i64 (i : Nat))).run Tryd.prog w' = .ok (.pointer (some ⟨bO, i * 4, none⟩)) w') ∧ (∀ W' : World, PlO W' vO us → ∀ j u, x.cells[j]? = some u → W'.cell? ⟨bO, i * 4 + j, none⟩ = some u)) := ⟨hxu, hcu, hx_, hc_⟩
          clear hx hok hxu hcu hx_ hc_
          go_upto_region 16 with fail
          refine wp_region_held (S := fun X => PlO X vO us ∧ Below w.heap.size w X) (by kernel_rfl) ?_
          show wpAnyH _ _ _ _ _ 9 (Array.replicate 9 false) _ _
          obtain ⟨X, hX⟩ : ∃ X : World, X = { wr with drawn := wr.drawn + 1 } := ⟨_, rfl⟩
          rw [← hX]
          have HBX : Hid (Below W7.heap.size W7 X) := (by rw [hX]; exact HI.out.trans ⟨rfl, rfl, rfl, Nat.le_refl _, fun _ _ => rfl⟩)
          have HS_ : PlO X vO us ∧ Below w.heap.size w X := ⟨H7.out.1.kept fun b e => HBX.out.block b (H7.out.1.lt e), (H7.out.2.1.bel HBX.out).below⟩
          clear hX
          refine takeH (i := 0) (some 64) rfl rfl (by kernel_rfl) (by kernel_rfl) (by kernel_rfl) (fun _ _ _ h => h) (gRun rfl vO fun _ h => run_mvZ (.tmp 10) rfl vO rfl) HS_ ?_
          simp only [Act.put, aS, aC, aZ]
          refine takeH (i := 1) (some 65) rfl rfl (by kernel_rfl) (by kernel_rfl) (by kernel_rfl) (fun _ _ _ h => h) (gRun rfl (.int .i64 (i : Nat)) fun _ h => run_mvZ (.tmp 15) rfl (.int .i64 (i : Nat)) rfl) HS_ ?_
          simp only [Act.put, aS, aC, aZ]
          refine takeH (i := 2) (some 66) rfl rfl (by kernel_rfl) (by kernel_rfl) (by kernel_rfl) (fun _ _ _ h => h) (gRun rfl (.pointer (some ⟨bO, i * 4, none⟩)) fun _ h => run_idx (.tmp 64) (.tmp 65) rfl _ _ _ rfl rfl HX.out.2.2.1) HS_ ?_
          simp only [Act.put, aS, aC, aZ]
          refine takeH (i := 3) (some 67) rfl rfl (by kernel_rfl) (by kernel_rfl) (by kernel_rfl) (fun _ _ _ h => h) (gRun rfl (.agg (x.cells).toArray) fun _ h => run_loadA ag30 (.tmp 66) rfl bO (i * 4) rfl (x.cells) rfl (HX.out.2.2.2 _ h.1)) HS_ ?_
          simp only [Act.put, aS, aC, aZ]
          refine takeH (i := 4) (some 68) rfl rfl (by kernel_rfl) (by kernel_rfl) (by kernel_rfl) (fun _ _ _ h => h) (gRun rfl vu fun _ h => run_mvZ (.tmp 2) rfl vu rfl) HS_ ?_
          simp only [Act.put, aS, aC, aZ]
          refine takeH (i := 5) (some 69) rfl rfl (by kernel_rfl) (by kernel_rfl) (by kernel_rfl) (fun _ _ _ h => h) (gRun rfl (.int .i64 (i : Nat)) fun _ h => run_mvZ (.tmp 15) rfl (.int .i64 (i : Nat)) rfl) HS_ ?_
          simp only [Act.put, aS, aC, aZ]
          refine takeH (i := 6) (some 70) rfl rfl (by kernel_rfl) (by kernel_rfl) (by kernel_rfl) (fun _ _ _ h => h) (gRun rfl (.pointer (some ⟨bu, ju, none⟩)) fun _ h => run_idx (.tmp 68) (.tmp 69) rfl _ _ _ rfl rfl HX.out.1) HS_ ?_
          simp only [Act.put, aS, aC, aZ]
          refine takeH (i := 7) (some 71) rfl rfl (by kernel_rfl) (by kernel_rfl) (by kernel_rfl) (fun _ _ _ h => h) (gRun rfl (.agg (x.cells).toArray) fun _ h => run_loadA ag30 (.tmp 70) rfl bu (ju) rfl (x.cells) rfl (HX.out.2.1 _ h.2)) HS_ ?_
          simp only [Act.put, aS, aC, aZ]
          refine takeH (i := 8) (some 72) rfl rfl (by kernel_rfl) (by kernel_rfl) (by kernel_rfl) (fun _ _ _ h => h) (gRun rfl (.bool false) fun _ h => run_nePl (.tmp 67) (.tmp 71) rfl x.dv x.at_ x.ln x.dv x.at_ x.ln x.bd x.bd rfl rfl false (by simp)) HS_ ?_
          simp only [Act.put, aS, aC, aZ]
          refine wpAnyH_done (by kernel_rfl) ?_ _
          go_wp2_with fail
          refine ⟨⟨i + 1, by go_num, by omega, HBX.out⟩, ?_⟩
          simp [intOf]; omega
        · go_upto_region 14 with fail
          refine wp_region_lit ?_
          refine wl rfl (.int .i64 (i : Nat)) _ (run_mvZ (.tmp 15) rfl (.int .i64 (i : Nat)) rfl) ?_
          simp only [Act.put, aS, aC, aZ]
          refine wl rfl vu _ (run_mvZ (.tmp 2) rfl vu rfl) ?_
          simp only [Act.put, aS, aC, aZ]
          refine wl rfl (.int .i64 (us.length : Nat)) _ (run_lenP HM.out.2.2.1 (.tmp 59) rfl rfl) ?_
          simp only [Act.put, aS, aC, aZ]
          refine wl rfl (.bool false) _ (run_lssZ (.tmp 58) (.tmp 60) rfl (i : Nat) (us.length : Nat) rfl rfl false (decide_eq_false (by omega))) ?_
          simp only [Act.put, aS, aC, aZ]
          refine wpList_nil ?_
          obtain ⟨W8, hW8⟩ : ∃ U_ : World, U_ = wr := ⟨_, rfl⟩
          rw [← hW8]
          have H8 : Hid (Below W7.heap.size W7 W8) := (by rw [hW8]; exact HI.out)
          clear HI hW8
          go_upto_region 18 with fail
          refine wp_region_lit ?_
          refine wl rfl (.pointer none) _ (run_mvZ (.tmp 11) rfl (.pointer none) rfl) ?_
          simp only [Act.put, aS, aC, aZ]
          refine wl rfl (.bool true) _ (run_binOp' (.tmp 73) (.const (.pointer none)) rfl _ _ _ rfl rfl rfl (by kernel_rfl)) ?_
          simp only [Act.put, aS, aC, aZ]
          refine wpList_nil ?_
          go_upto_region 19 with fail
          refine wp_region_lit ?_
          refine wl rfl (.bool true) _ (run_mvZ (.tmp 7) rfl (.bool true) rfl) ?_
          simp only [Act.put, aS, aC, aZ]
          refine wl rfl (.bool true) _ (run_asZ (.tmp 75) rfl (.bool true) rfl) ?_
          simp only [Act.put, aS, aC, aZ]
          refine wpList_nil ?_
          go_wp2_with fail
          rw [HPQ.out]
          exact ⟨rfl, (H7.out.2.1.bel H8.out).below⟩
    · obtain ⟨fr, f, q, qs, ho1, ho2, ho3, ho4, ho5, ho6⟩ : ∃ fr' f' n' us', opn d us (List.replicate (nd / 16) 65535) (fun _ => none) 0 = some (fr', f', n') ∧ opr d (nd / 16) us [] = some us' ∧ SegInv fr' us' ∧ FM f' us' ∧ fr'.length = nd / 16 ∧ n' ≤ 0 + us.length := (by rcases HSP with h | h; exact h; exact absurd h.2 hnone)
      have HYS : Hid (opn d us (List.replicate (nd / 16) 65535) (fun _ => none) 0 = some (fr, f, q) ∧ opr d (nd / 16) us [] = some qs ∧ SegInv fr qs ∧ fr.length = nd / 16 ∧ q ≤ us.length) := ⟨ho1, ho2, ho3, ho5, by omega⟩
      clear ho1 ho2 ho3 ho4 ho5 ho6 HSP hnone
      go_upto_region 9 with fail
      refine wp_region_lit ?_
      refine wl rfl (ptr gp) _ (run_mvZ (.tmp 9) rfl (ptr gp) rfl) ?_
      simp only [Act.put, aS, aC, aZ]
      refine wl rfl (.int .i64 (d : Nat)) _ (run_mvZ (.tmp 1) rfl (.int .i64 (d : Nat)) rfl) ?_
      simp only [Act.put, aS, aC, aZ]
      refine wl rfl vO _ (run_mvZ (.tmp 10) rfl vO rfl) ?_
      simp only [Act.put, aS, aC, aZ]
      refine wpList_callW eN18 [.tmp 34, .tmp 35, .tmp 36] _ rfl rfl [(ptr gp), (.int .i64 (d : Nat)), vO] rfl ?_
      refine (openH_any H4.out.2.live H4.out.2.shape HND.out.2.2 d (nd / 16) (by simpa using hd) (by rw [HND.out.1]) vO us (plo_pls H4.out.1 HM.out.2.2.2 (by omega))).mono ?_
      rintro e W5 ⟨hb_, h_⟩
      obtain ⟨gh, gf, gm, he_, hh_⟩ : ∃ gh gf gm, e = .returned (.tuple #[ptr gh, .int .i64 0]) ∧ HotM W5 gh gp gf gm d q fr f ∧ W4.heap.size ≤ gh ∧ W4.heap.size ≤ gf ∧ W4.heap.size ≤ gm := (by
        rcases h_ with ⟨h_, _⟩ | ⟨gh, gf, gm, fr2, f2, q2, h1, h2, h3, h4, h5, h6⟩
        · rw [HYS.out.1] at h_
          cases h_
        · rw [HYS.out.1] at h1
          cases h1
          exact ⟨gh, gf, gm, h2, h3, h4, h5, h6⟩)
      subst he_
      clear h_
      refine ⟨_, rfl, ?_⟩
      have H5 : Hid (PlO W5 vO us ∧ PlW w W5 c gp (newPl [1, (n : Int)] [9]) n 0 ∧ HotM W5 gh gp gf gm d q fr f ∧ HotC c gh gf gm ∧ w.heap.size ≤ gf ∧ w.heap.size ≤ gm) := ⟨H4.out.1.kept fun b e => hb_.block b (H4.out.1.lt e), H4.out.2.bel hb_, hh_.1, ⟨H4.out.2.live.2.2 gh hh_.2.1, H4.out.2.live.2.2 gf hh_.2.2.1, H4.out.2.live.2.2 gm hh_.2.2.2⟩, (by have h1 := H4.out.2.below.size; have h2 := hh_.2.2.1; omega), (by have h1 := H4.out.2.below.size; have h2 := hh_.2.2.2; omega)⟩
      clear hb_ hh_
      simp only [Act.put, aS, aC, aZ]
      refine wl rfl (.tuple #[(ptr gh), (.int .i64 0)]) _ (run_mvZ (.tmp 37) rfl (.tuple #[(ptr gh), (.int .i64 0)]) rfl) ?_
      simp only [Act.put, aS, aC, aZ]
      refine wl rfl (ptr gh) _ (run_extZ (.tmp 33) 0 rfl #[(ptr gh), (.int .i64 0)] rfl (ptr gh) rfl) ?_
      simp only [Act.put, aS, aC, aZ]
      refine wl rfl (.int .i64 0) _ (run_extZ (.tmp 33) 1 rfl #[(ptr gh), (.int .i64 0)] rfl (.int .i64 0) rfl) ?_
      simp only [Act.put, aS, aC, aZ]
      refine wl rfl (ptr gh) _ (run_asZ (.tmp 38) rfl (ptr gh) rfl) ?_
      simp only [Act.put, aS, aC, aZ]
      refine wl rfl (.int .i64 0) _ (run_asZ (.tmp 39) rfl (.int .i64 0) rfl) ?_
      simp only [Act.put, aS, aC, aZ]
      refine wpList_nil ?_
      go_upto_region 10 with fail
      refine wp_region_lit ?_
      refine wl rfl (.int .i64 (n : Nat)) _ (run_mvZ (.tmp 8) rfl (.int .i64 (n : Nat)) rfl) ?_
      simp only [Act.put, aS, aC, aZ]
      refine wl rfl (whole W5.heap.size 2) _ (run_lit2 (.const (.int .i64 1)) (.tmp 41) rfl 1 (n : Nat) rfl rfl) ?_
      have hb_ := below_alloc W5 (.cells (lit2 1 (n : Nat)).toArray 3)
      have r_ := Row.new W5 3 (lit2 1 (n : Nat))
      obtain ⟨W6, hW_⟩ : ∃ U_ : World, U_ = W5.alloc (.cells (lit2 1 (n : Nat)).toArray 3) := ⟨_, rfl⟩
      obtain ⟨ql, hq_⟩ : ∃ q, q = W5.heap.size := ⟨_, rfl⟩
      rw [← hW_] at hb_
      rw [← hW_, ← hq_] at r_
      rw [← hW_, ← hq_]
      have H6 : Hid (PlO W6 vO us ∧ PlW w W6 c gp (newPl [1, (n : Int)] [9]) n 0 ∧ Row W6 ql 3 (lit2 1 (n : Nat))) := ⟨H5.out.1.kept fun b e => hb_.block b (H5.out.1.lt e), H5.out.2.1.bel hb_, r_⟩
      have HH6 : Hid (HotM W6 gh gp gf gm d q fr f) := H5.out.2.2.1.later hb_
      clear r_ hb_ hW_ hq_
      simp only [Act.put, aS, aC, aZ]
      refine wl rfl (.int .i64 (d : Nat)) _ (run_mvZ (.tmp 1) rfl (.int .i64 (d : Nat)) rfl) ?_
      simp only [Act.put, aS, aC, aZ]
      refine wl rfl vu _ (run_mvZ (.tmp 2) rfl vu rfl) ?_
      simp only [Act.put, aS, aC, aZ]
      refine wpList_callW eN19 [.tmp 42, .tmp 43, .tmp 44] _ rfl rfl [(whole ql 2), (.int .i64 (d : Nat)), vu] rfl ?_
      refine (ropen_any H6.out.2.2 hd HND.out.2.1 hnd1 (HM.out.2.2.1.later H6.out.2.1.below)).mono ?_
      rintro e W7 ⟨hb_, h_⟩
      obtain ⟨gr, vU, vB, he_, hh_⟩ : ∃ gr vU vB, e = .returned (.tuple #[ptr gr, .int .i64 0]) ∧ RfU W7 gr d nd vU vB (qs.map (pqOf d)) ∧ Apt (nd / 16) qs := (by
        rcases h_ with ⟨h_, _⟩ | ⟨gr, vU, vB, qs2, h1, h2, _, h3, h4⟩
        · rw [HYS.out.2.1] at h_
          cases h_
        · rw [HYS.out.2.1] at h1
          cases h1
          exact ⟨gr, vU, vB, h2, h3, h4⟩)
      subst he_
      clear h_
      refine ⟨_, rfl, ?_⟩
      have H7 : Hid (PlO W7 vO us ∧ PlW w W7 c gp (newPl [1, (n : Int)] [9]) n 0 ∧ HotM W7 gh gp gf gm d q fr f ∧ RfU W7 gr d nd vU vB (qs.map (pqOf d)) ∧ Apt (nd / 16) qs) := ⟨H6.out.1.kept fun b e => hb_.block b (H6.out.1.lt e), H6.out.2.1.bel hb_, HH6.out.later hb_, hh_.1, hh_.2⟩
      clear hb_ hh_
      simp only [Act.put, aS, aC, aZ]
      refine wl rfl (.tuple #[(ptr gr), (.int .i64 0)]) _ (run_mvZ (.tmp 45) rfl (.tuple #[(ptr gr), (.int .i64 0)]) rfl) ?_
      simp only [Act.put, aS, aC, aZ]
      refine wl rfl (ptr gr) _ (run_extZ (.tmp 40) 0 rfl #[(ptr gr), (.int .i64 0)] rfl (ptr gr) rfl) ?_
      simp only [Act.put, aS, aC, aZ]
      refine wl rfl (.int .i64 0) _ (run_extZ (.tmp 40) 1 rfl #[(ptr gr), (.int .i64 0)] rfl (.int .i64 0) rfl) ?_
      simp only [Act.put, aS, aC, aZ]
      refine wl rfl (ptr gr) _ (run_asZ (.tmp 46) rfl (ptr gr) rfl) ?_
      simp only [Act.put, aS, aC, aZ]
      refine wl rfl (.int .i64 0) _ (run_asZ (.tmp 47) rfl (.int .i64 0) rfl) ?_
      simp only [Act.put, aS, aC, aZ]
      refine wpList_nil ?_
      go_upto_region 11 with fail
      refine wp_region_lit ?_
      refine wl rfl (.int .i64 0) _ (run_mvZ (.tmp 12) rfl (.int .i64 0) rfl) ?_
      simp only [Act.put, aS, aC, aZ]
      refine wl rfl (.int .i64 0) _ (run_mvZ (.tmp 14) rfl (.int .i64 0) rfl) ?_
      simp only [Act.put, aS, aC, aZ]
      refine wl rfl (.bool false) _ (run_neZ (.tmp 48) (.tmp 49) rfl 0 0 rfl rfl false rfl) ?_
      simp only [Act.put, aS, aC, aZ]
      refine wl rfl (.bool false) _ (run_mvZ (.tmp 50) rfl (.bool false) rfl) ?_
      simp only [Act.put, aS, aC, aZ]
      refine wl (by kernel_rfl) (ptr gh) _ (run_mvZ (.tmp 11) rfl (ptr gh) rfl) ?_
      simp only [Act.put, aS, aC, aZ]
      refine wl (by kernel_rfl) (.bool false) _ (run_binOp' (.tmp 52) (.const (.pointer none)) rfl _ _ _ rfl rfl rfl (by kernel_rfl)) ?_
      simp only [Act.put, aS, aC, aZ]
      refine wl (by kernel_rfl) (ptr gr) _ (run_mvZ (.tmp 13) rfl (ptr gr) rfl) ?_
      simp only [Act.put, aS, aC, aZ]
      refine wl (by kernel_rfl) (.bool false) _ (run_binOp' (.tmp 54) (.const (.pointer none)) rfl _ _ _ rfl rfl rfl (by kernel_rfl)) ?_
      simp only [Act.put, aS, aC, aZ]
      refine wl (by kernel_rfl) (.bool false) _ (run_neB (.tmp 53) (.tmp 55) rfl false rfl rfl) ?_
      simp only [Act.put, aS, aC, aZ]
      refine wl rfl (.bool false) _ (run_pickZ (.tmp 51) (.const (.bool true)) (.tmp 56) rfl false (.bool false) rfl rfl) ?_
      simp only [Act.put, aS, aC, aZ]
      refine wpList_nil ?_
      go_upto_region 13 with fail
      refine wp_region_lit ?_
      refine wl rfl (.int .i64 0) _ (run_asZ (.const (.int .i64 0)) rfl (.int .i64 0) rfl) ?_
      simp only [Act.put, aS, aC, aZ]
      refine wpList_nil ?_
      go_wp2_with fail
      go_loopw [15] (fun vi W => ∃ i : Nat, vi = .int .i64 (i : Nat) ∧ i ≤ us.length ∧ Hid (Below W7.heap.size W7 W)) (fun vi _ => us.length - (intOf vi).toNat)
      case atStart => exact ⟨0, rfl, Nat.zero_le _, Below.refl _ _⟩
      case round =>
        obtain ⟨i, rfl, hi, HI⟩ := hrel
        by_cases hlt : i < us.length
        · go_upto_region 14 with fail
          refine wp_region_lit ?_
          refine wl rfl (.int .i64 (i : Nat)) _ (run_mvZ (.tmp 15) rfl (.int .i64 (i : Nat)) rfl) ?_
          simp only [Act.put, aS, aC, aZ]
          refine wl rfl vu _ (run_mvZ (.tmp 2) rfl vu rfl) ?_
          simp only [Act.put, aS, aC, aZ]
          refine wl rfl (.int .i64 (us.length : Nat)) _ (run_lenP HM.out.2.2.1 (.tmp 59) rfl rfl) ?_
          simp only [Act.put, aS, aC, aZ]
          refine wl rfl (.bool true) _ (run_lssZ (.tmp 58) (.tmp 60) rfl (i : Nat) (us.length : Nat) rfl rfl true (decide_eq_true (by omega))) ?_
          simp only [Act.put, aS, aC, aZ]
          refine wpList_nil ?_
          obtain ⟨bu, ju, hxu, hok, hcu⟩ := ix_pl HM.out.2.2.1 i hlt
          obtain ⟨bO, _, hx_, hc_⟩ := H7.out.1.ix i hlt
          obtain ⟨x, hx⟩ : ∃ x, x = us.getD i default := ⟨_, rfl⟩
          rw [← hx] at hok hcu hc_
          have HX : Hid ((∀ w', (Instr.indexAt 43 vu (.int .i64 (i : Nat))).run Tryd.prog w' = .ok (.pointer (some ⟨bu, ju, none⟩)) w') ∧ (∀ W, Below w.heap.size w W → ∀ (j : Nat) u, x.cells[j]? = some u → W.cell? ⟨bu, ju + j, none⟩ = some u) ∧ (∀ w', (Instr.indexAt 43 vO (.int .i64 (i : Nat))).run Tryd.prog w' = .ok (.pointer (some ⟨bO, i * 4, none⟩)) w') ∧ (∀ W' : World, PlO W' vO us → ∀ j u, x.cells[j]? = some u → W'.cell? ⟨bO, i * 4 + j, none⟩ = some u)) := ⟨hxu, hcu, hx_, hc_⟩
          clear hx hok hxu hcu hx_ hc_
          go_upto_region 16 with fail
          refine wp_region_held (S := fun X => PlO X vO us ∧ Below w.heap.size w X) (by kernel_rfl) ?_
          show wpAnyH _ _ _ _ _ 9 (Array.replicate 9 false) _ _
          obtain ⟨X, hX⟩ : ∃ X : World, X = { wr with drawn := wr.drawn + 1 } := ⟨_, rfl⟩
          rw [← hX]
          have HBX : Hid (Below W7.heap.size W7 X) := (by rw [hX]; exact HI.out.trans ⟨rfl, rfl, rfl, Nat.le_refl _, fun _ _ => rfl⟩)
          have HS_ : PlO X vO us ∧ Below w.heap.size w X := ⟨H7.out.1.kept fun b e => HBX.out.block b (H7.out.1.lt e), (H7.out.2.1.bel HBX.out).below⟩
          clear hX
          refine takeH (i := 0) (some 64) rfl rfl (by kernel_rfl) (by kernel_rfl) (by kernel_rfl) (fun _ _ _ h => h) (gRun rfl vO fun _ h => run_mvZ (.tmp 10) rfl vO rfl) HS_ ?_
          simp only [Act.put, aS, aC, aZ]
          refine takeH (i := 1) (some 65) rfl rfl (by kernel_rfl) (by kernel_rfl) (by kernel_rfl) (fun _ _ _ h => h) (gRun rfl (.int .i64 (i : Nat)) fun _ h => run_mvZ (.tmp 15) rfl (.int .i64 (i : Nat)) rfl) HS_ ?_
          simp only [Act.put, aS, aC, aZ]
          refine takeH (i := 2) (some 66) rfl rfl (by kernel_rfl) (by kernel_rfl) (by kernel_rfl) (fun _ _ _ h => h) (gRun rfl (.pointer (some ⟨bO, i * 4, none⟩)) fun _ h => run_idx (.tmp 64) (.tmp 65) rfl _ _ _ rfl rfl HX.out.2.2.1) HS_ ?_
          simp only [Act.put, aS, aC, aZ]
          refine takeH (i := 3) (some 67) rfl rfl (by kernel_rfl) (by kernel_rfl) (by kernel_rfl) (fun _ _ _ h => h) (gRun rfl (.agg (x.cells).toArray) fun _ h => run_loadA ag30 (.tmp 66) rfl bO (i * 4) rfl (x.cells) rfl (HX.out.2.2.2 _ h.1)) HS_ ?_
          simp only [Act.put, aS, aC, aZ]
          refine takeH (i := 4) (some 68) rfl rfl (by kernel_rfl) (by kernel_rfl) (by kernel_rfl) (fun _ _ _ h => h) (gRun rfl vu fun _ h => run_mvZ (.tmp 2) rfl vu rfl) HS_ ?_
          simp only [Act.put, aS, aC, aZ]
          refine takeH (i := 5) (some 69) rfl rfl (by kernel_rfl) (by kernel_rfl) (by kernel_rfl) (fun _ _ _ h => h) (gRun rfl (.int .i64 (i : Nat)) fun _ h => run_mvZ (.tmp 15) rfl (.int .i64 (i : Nat)) rfl) HS_ ?_
          simp only [Act.put, aS, aC, aZ]
          refine takeH (i := 6) (some 70) rfl rfl (by kernel_rfl) (by kernel_rfl) (by kernel_rfl) (fun _ _ _ h => h) (gRun rfl (.pointer (some ⟨bu, ju, none⟩)) fun _ h => run_idx (.tmp 68) (.tmp 69) rfl _ _ _ rfl rfl HX.out.1) HS_ ?_
          simp only [Act.put, aS, aC, aZ]
          refine takeH (i := 7) (some 71) rfl rfl (by kernel_rfl) (by kernel_rfl) (by kernel_rfl) (fun _ _ _ h => h) (gRun rfl (.agg (x.cells).toArray) fun _ h => run_loadA ag30 (.tmp 70) rfl bu (ju) rfl (x.cells) rfl (HX.out.2.1 _ h.2)) HS_ ?_
          simp only [Act.put, aS, aC, aZ]
          refine takeH (i := 8) (some 72) rfl rfl (by kernel_rfl) (by kernel_rfl) (by kernel_rfl) (fun _ _ _ h => h) (gRun rfl (.bool false) fun _ h => run_nePl (.tmp 67) (.tmp 71) rfl x.dv x.at_ x.ln x.dv x.at_ x.ln x.bd x.bd rfl rfl false (by simp)) HS_ ?_
          simp only [Act.put, aS, aC, aZ]
          refine wpAnyH_done (by kernel_rfl) ?_ _
          go_wp2_with fail
          refine ⟨⟨i + 1, by go_num, by omega, HBX.out⟩, ?_⟩
          simp [intOf]; omega
        · go_upto_region 14 with fail
          refine wp_region_lit ?_
          refine wl rfl (.int .i64 (i : Nat)) _ (run_mvZ (.tmp 15) rfl (.int .i64 (i : Nat)) rfl) ?_
          simp only [Act.put, aS, aC, aZ]
          refine wl rfl vu _ (run_mvZ (.tmp 2) rfl vu rfl) ?_
          simp only [Act.put, aS, aC, aZ]
          refine wl rfl (.int .i64 (us.length : Nat)) _ (run_lenP HM.out.2.2.1 (.tmp 59) rfl rfl) ?_
          simp only [Act.put, aS, aC, aZ]
          refine wl rfl (.bool false) _ (run_lssZ (.tmp 58) (.tmp 60) rfl (i : Nat) (us.length : Nat) rfl rfl false (decide_eq_false (by omega))) ?_
          simp only [Act.put, aS, aC, aZ]
          refine wpList_nil ?_
          obtain ⟨W8, hW8⟩ : ∃ U_ : World, U_ = wr := ⟨_, rfl⟩
          rw [← hW8]
          have H8 : Hid (Below W7.heap.size W7 W8) := (by rw [hW8]; exact HI.out)
          clear HI hW8
          go_upto_region 18 with fail
          refine wp_region_lit ?_
          refine wl rfl (ptr gh) _ (run_mvZ (.tmp 11) rfl (ptr gh) rfl) ?_
          simp only [Act.put, aS, aC, aZ]
          refine wl rfl (.bool false) _ (run_binOp' (.tmp 73) (.const (.pointer none)) rfl _ _ _ rfl rfl rfl (by kernel_rfl)) ?_
          simp only [Act.put, aS, aC, aZ]
          refine wpList_nil ?_
          go_upto_region 20 with fail
          refine wp_region_lit ?_
          refine wl rfl (ptr gr) _ (run_mvZ (.tmp 13) rfl (ptr gr) rfl) ?_
          simp only [Act.put, aS, aC, aZ]
          refine wpList_callW eN20 [.tmp 77, .const (.int .i64 100)] _ rfl rfl [(ptr gr), .int .i64 100] rfl ?_
          refine (fitX (H7.out.2.2.2.1.bel H8.out) hnd1 H7.out.2.2.2.2).mono ?_
          rintro e W9 ⟨x, fb, rfl, hb_, hf_⟩
          refine ⟨_, rfl, ?_⟩
          have H9 : Hid (PlW w W9 c gp (newPl [1, (n : Int)] [9]) n 0 ∧ HotM W9 gh gp gf gm d q fr f ∧ Fx (nd / 16) d qs x fb) := ⟨(H7.out.2.1.bel H8.out).bel hb_, (H7.out.2.2.1.later H8.out).later hb_, hf_⟩
          clear hb_ hf_
          simp only [Act.put, aS, aC, aZ]
          refine wl rfl (.tuple #[(.agg x.cells.toArray), (.bool fb)]) _ (run_mvZ (.tmp 78) rfl (.tuple #[(.agg x.cells.toArray), (.bool fb)]) rfl) ?_
          simp only [Act.put, aS, aC, aZ]
          refine wl rfl (.agg x.cells.toArray) _ (run_extZ (.tmp 76) 0 rfl #[(.agg x.cells.toArray), (.bool fb)] rfl (.agg x.cells.toArray) rfl) ?_
          simp only [Act.put, aS, aC, aZ]
          refine wl rfl (.bool fb) _ (run_extZ (.tmp 76) 1 rfl #[(.agg x.cells.toArray), (.bool fb)] rfl (.bool fb) rfl) ?_
          simp only [Act.put, aS, aC, aZ]
          refine wl rfl (ptr W9.heap.size) _ (run_allocA (plC 0 0 0 false) zero30 rfl) ?_
          have hb_ := below_alloc W9 (.cells (plC 0 0 0 false).toArray 30)
          have r_ := Row.new W9 30 (plC 0 0 0 false)
          obtain ⟨W10, hW_⟩ : ∃ U_ : World, U_ = W9.alloc (.cells (plC 0 0 0 false).toArray 30) := ⟨_, rfl⟩
          obtain ⟨q16, hq_⟩ : ∃ q, q = W9.heap.size := ⟨_, rfl⟩
          rw [← hW_] at hb_
          rw [← hW_, ← hq_] at r_
          rw [← hW_, ← hq_]
          have HQ : Hid (Row W10 q16 30 (plC 0 0 0 false) ∧ Below W9.heap.size W9 W10 ∧ W9.heap.size ≤ q16) := ⟨r_, hb_, by omega⟩
          clear r_ hb_ hW_ hq_
          simp only [Act.put, aS, aC, aZ]
          refine wlS rfl rfl _ (run_storeA ag30 (.tmp 16) (.tmp 79) rfl q16 30 rfl x.cells _ rfl rfl HQ.out.1 rfl (plC_one _ _ _ _)) ?_
          have hb_ := (Ch.setRow (S := (· = q16)) (Ch.refl _ W10) (Or.inl rfl) x.cells.toArray)
          have r_ := HQ.out.1.setRow x.cells
          obtain ⟨W11, hW_⟩ : ∃ U_ : World, U_ = W10.setRow q16 x.cells.toArray := ⟨_, rfl⟩
          rw [← hW_] at hb_ r_ ⊢
          have hbb := HQ.out.2.1.trans (hb_.below HQ.out.2.1.size fun k hk e => by have := HQ.out.2.2; omega)
          have H11 : Hid (PlW w W11 c gp (newPl [1, (n : Int)] [9]) n 0 ∧ HotM W11 gh gp gf gm d q fr f ∧ Fx (nd / 16) d qs x fb ∧ Row W11 q16 30 x.cells ∧ (c q16).1 ≠ 2 ∧ q16 ≠ gf ∧ q16 ≠ gm) := ⟨H9.out.1.bel hbb, H9.out.2.1.later hbb, H9.out.2.2, r_, H9.out.1.live.2.2 q16 HQ.out.2.2, (fun e => by have h1 := H9.out.2.1.lt (Or.inr (Or.inl rfl)); have h2 := HQ.out.2.2; omega), (fun e => by have h1 := H9.out.2.1.lt (Or.inr (Or.inr rfl)); have h2 := HQ.out.2.2; omega)⟩
          clear hbb HQ
          clear hW_ r_ hb_
          refine wl rfl (.bool fb) _ (run_asZ (.tmp 80) rfl (.bool fb) rfl) ?_
          simp only [Act.put, aS, aC, aZ]
          refine wpList_nil ?_
          go_upto_region 21 with fail
          refine wp_region_lit ?_
          refine wl rfl (ptr gh) _ (run_mvZ (.tmp 11) rfl (ptr gh) rfl) ?_
          simp only [Act.put, aS, aC, aZ]
          refine wl_make (.const (.int .i64 100)) (.const (.int .i64 100)) 28 5 (.int .u8 0) 1 1 rfl rfl und28 info5z 100 rfl rfl (by decide) (by decide) ?_
          intro W12 r_ z_ b_
          rw [made5] at r_
          obtain ⟨qb, hqb⟩ : ∃ g, g = W11.heap.size := ⟨_, rfl⟩
          rw [← hqb] at r_ z_ ⊢
          have H12 : Hid (PlW w W12 c gp (newPl [1, (n : Int)] [9]) n 0 ∧ HotM W12 gh gp gf gm d q fr f ∧ Row W12 q16 30 x.cells ∧ SliceIn W12 (whole qb 100) (zr 100)) := ⟨H11.out.1.bel b_, H11.out.2.1.later b_, H11.out.2.2.2.1.later b_ H11.out.2.2.2.1.lt, zr_slice r_ (by decide)⟩
          clear r_ z_ b_ hqb
          simp only [Act.put, aS, aC, aZ]
          refine wpList_callW eN21 [.tmp 82, .tmp 83] _ rfl rfl [(ptr gh), (whole qb 100)] rfl ?_
          refine (appX H12.out.1 rfl (show (-1 : Int) < 0 by decide) hd (by rw [HND.out.1]) H12.out.2.1 HYS.out.2.2.1 HYS.out.2.2.2.1 (by have := HYS.out.2.2.2.2; omega) H5.out.2.2.2.1 H5.out.2.2.2.2 H11.out.2.2.1 (whole qb 100) H12.out.2.2.2).mono ?_
          rintro e W13 ⟨er, rfl, he_, hb_, hc_⟩
          refine ⟨_, rfl, ?_⟩
          have H13 : Hid (Row W13 q16 30 x.cells ∧ decide (er = 0) = fb ∧ Below w.heap.size w W13) := ⟨hc_.row (fun e => by rcases e with e | e | e; exact H11.out.2.2.2.2.1 e; exact H11.out.2.2.2.2.2.1 e; exact H11.out.2.2.2.2.2.2 e) H12.out.2.2.1, he_, hb_⟩
          clear he_ hb_ hc_
          simp only [Act.put, aS, aC, aZ]
          refine wl rfl (.tuple #[(.agg x.cells.toArray), (.int .i64 er)]) _ (run_mvZ (.tmp 84) rfl (.tuple #[(.agg x.cells.toArray), (.int .i64 er)]) rfl) ?_
          simp only [Act.put, aS, aC, aZ]
          refine wl rfl (.agg x.cells.toArray) _ (run_extZ (.tmp 81) 0 rfl #[(.agg x.cells.toArray), (.int .i64 er)] rfl (.agg x.cells.toArray) rfl) ?_
          simp only [Act.put, aS, aC, aZ]
          refine wl rfl (.int .i64 er) _ (run_extZ (.tmp 81) 1 rfl #[(.agg x.cells.toArray), (.int .i64 er)] rfl (.int .i64 er) rfl) ?_
          simp only [Act.put, aS, aC, aZ]
          refine wl rfl (ptr W13.heap.size) _ (run_allocA (plC 0 0 0 false) zero30 rfl) ?_
          have hb_ := below_alloc W13 (.cells (plC 0 0 0 false).toArray 30)
          have r_ := Row.new W13 30 (plC 0 0 0 false)
          obtain ⟨W14, hW_⟩ : ∃ U_ : World, U_ = W13.alloc (.cells (plC 0 0 0 false).toArray 30) := ⟨_, rfl⟩
          obtain ⟨q18, hq_⟩ : ∃ q, q = W13.heap.size := ⟨_, rfl⟩
          rw [← hW_] at hb_
          rw [← hW_, ← hq_] at r_
          rw [← hW_, ← hq_]
          have HQ : Hid (Row W14 q18 30 (plC 0 0 0 false) ∧ Below W13.heap.size W13 W14 ∧ W13.heap.size ≤ q18) := ⟨r_, hb_, by omega⟩
          clear r_ hb_ hW_ hq_
          simp only [Act.put, aS, aC, aZ]
          refine wlS rfl rfl _ (run_storeA ag30 (.tmp 18) (.tmp 85) rfl q18 30 rfl x.cells _ rfl rfl HQ.out.1 rfl (plC_one _ _ _ _)) ?_
          have hb_ := (Ch.setRow (S := (· = q18)) (Ch.refl _ W14) (Or.inl rfl) x.cells.toArray)
          have r_ := HQ.out.1.setRow x.cells
          obtain ⟨W15, hW_⟩ : ∃ U_ : World, U_ = W14.setRow q18 x.cells.toArray := ⟨_, rfl⟩
          rw [← hW_] at hb_ r_ ⊢
          have hbb := HQ.out.2.1.trans (hb_.below HQ.out.2.1.size fun k hk e => by have := HQ.out.2.2; omega)
          have H15 : Hid (Row W15 q16 30 x.cells ∧ Row W15 q18 30 x.cells ∧ Below w.heap.size w W15) := ⟨H13.out.1.later hbb H13.out.1.lt, r_, H13.out.2.2.trans (hbb.mono H13.out.2.2.size)⟩
          clear hbb HQ
          clear hW_ r_ hb_
          refine wl rfl (.int .i64 er) _ (run_asZ (.tmp 86) rfl (.int .i64 er) rfl) ?_
          simp only [Act.put, aS, aC, aZ]
          refine wpList_nil ?_
          go_upto_region 22 with fail
          refine wp_region_lit ?_
          refine wl rfl (.bool bt) _ ((by rw [HBT.out]; exact run_mvZ (.tmp 7) rfl (.bool true) rfl)) ?_
          simp only [Act.put, aS, aC, aZ]
          refine wl rfl (.bool bt) _ (run_mvZ (.tmp 87) rfl (.bool bt) rfl) ?_
          simp only [Act.put, aS, aC, aZ]
          refine wl (by rw [HBT.out]; kernel_rfl) (.int .i64 er) _ (run_mvZ (.tmp 19) rfl (.int .i64 er) rfl) ?_
          simp only [Act.put, aS, aC, aZ]
          refine wl (by rw [HBT.out]; kernel_rfl) (.bool fb) _ (run_eqZ (.tmp 89) (.const (.int .i64 0)) rfl er 0 rfl rfl fb H13.out.2.1) ?_
          simp only [Act.put, aS, aC, aZ]
          refine wl (by rw [HBT.out]; kernel_rfl) (.bool fb) _ (run_mvZ (.tmp 17) rfl (.bool fb) rfl) ?_
          simp only [Act.put, aS, aC, aZ]
          refine wl (by rw [HBT.out]; kernel_rfl) (.bool bt) _ ((by rw [HBT.out]; exact run_eqB (.tmp 90) (.tmp 91) rfl fb rfl rfl)) ?_
          simp only [Act.put, aS, aC, aZ]
          refine wl rfl (.bool bt) _ (run_pickZ (.tmp 88) (.tmp 92) (.const (.bool false)) rfl bt (.bool bt) rfl (by rw [HBT.out]; rfl)) ?_
          simp only [Act.put, aS, aC, aZ]
          refine wl rfl (.bool bt) _ (run_mvZ (.tmp 93) rfl (.bool bt) rfl) ?_
          simp only [Act.put, aS, aC, aZ]
          refine wl (by rw [HBT.out]; kernel_rfl) (.agg (x.cells).toArray) _ (run_loadA ag30 (.tmp 18) rfl q18 (0) rfl (x.cells) rfl (rows_one H15.out.2.1)) ?_
          simp only [Act.put, aS, aC, aZ]
          refine wl (by rw [HBT.out]; kernel_rfl) (.agg (x.cells).toArray) _ (run_loadA ag30 (.tmp 16) rfl q16 (0) rfl (x.cells) rfl (rows_one H15.out.1)) ?_
          simp only [Act.put, aS, aC, aZ]
          refine wl (by rw [HBT.out]; kernel_rfl) (.bool bt) _ ((by rw [HBT.out]; exact run_eqPl (.tmp 95) (.tmp 96) rfl x.dv x.at_ x.ln x.dv x.at_ x.ln x.bd x.bd rfl rfl true (by simp))) ?_
          simp only [Act.put, aS, aC, aZ]
          refine wl rfl (.bool bt) _ (run_pickZ (.tmp 94) (.tmp 97) (.const (.bool false)) rfl bt (.bool bt) rfl (by rw [HBT.out]; rfl)) ?_
          simp only [Act.put, aS, aC, aZ]
          refine wl rfl (.bool bt) _ (run_asZ (.tmp 98) rfl (.bool bt) rfl) ?_
          simp only [Act.put, aS, aC, aZ]
          refine wpList_nil ?_
          obtain rfl : bt = true := HBT.out
          go_wp2_with fail
          rw [HPQ.out]
          exact ⟨rfl, H15.out.2.2⟩

end Go.Proofs.YtofocpmpnjjnkaaDoor

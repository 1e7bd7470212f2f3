/- Layer 14: room that was given up comes again. -/
import Derived.Test.YtofocpmpnjjnkaaDoorZ41
namespace Go.Proofs.YtofocpmpnjjnkaaDoor
open Go.RowKit Go.Maps


def sliceLen : Value → Nat
  | .slice _ n _ => n
  | _ => 0
theorem PlO.slen {W : World} {v : Value} {ps : List Pq} (h : PlO W v ps) : sliceLen v = ps.length := by
  rcases h.2 with ⟨rfl, h0⟩ | ⟨g, cap, cur, rfl, _⟩
  · exact h0.symm
  · rfl
theorem row_ne {W : World} {a b T T' : Nat} {cs cs' : List Value} (h : Row W a T cs) (h' : Row W b T' cs') (hT : T ≠ T') : a ≠ b := by
  rintro rfl
  unfold Row at h h'
  rw [h] at h'
  injection h' with h'
  injection h' with _ h'
  exact hT h'
section
variable {ops : Array Oper} {Q : Exit → Act → World → Prop} {S : World → Prop} {fuel : Nat} {listed : Array Bool} {a : Act} {w : World}
theorem twoH {i j : Nat} (hr : Region.ready .any ops listed = [i, j]) (h : wpOp Tryd.prog ops Q i (fun a' w' => S w' ∧ wpAnyH Tryd.prog .any ops Q S fuel (listed.setIfInBounds i true) a' w') a w) (h' : wpOp Tryd.prog ops Q j (fun a' w' => S w' ∧ wpAnyH Tryd.prog .any ops Q S fuel (listed.setIfInBounds j true) a' w') a w) : wpAnyH Tryd.prog .any ops Q S (fuel + 1) listed a w :=
  wpAnyH_all (rs := [i, j]) hr (by simp) fun k hk => by
    rcases List.mem_cons.1 hk with rfl | hk
    · exact h
    · obtain rfl := List.mem_singleton.1 hk; exact h'
end
theorem run_neB {w : World} {a : Act} {o : Oper} (x y : Operand) (ho : o.op = .binOp .neq 4 x y 4) (b : Bool) (hx : a.eval x = .bool b) (hy : a.eval y = .bool b) : (execOp a.eval o).run Tryd.prog w = .ok (.value (.bool false)) w := by
  refine run_binOp' x y ho (.bool b) (.bool b) _ hx hy rfl ?_
  cases b <;> kernel_rfl
theorem Ag.put {w W W' : World} {c : Nat → Colour} {gp gh gf gm gs gr q : Nat} {m : Pl} {n K : Nat} {us : List (Nat × List Nat)} {vF vL : Value} {ps ls : List Pq} (a : Ag w W c gp gh gf gm gs gr m n us K vF ps vL ls) (hc : Ch (· = q) W W') (hq : Out w W c gh gf gm q) (h1 : gs ≠ q) (h2 : ∀ b, vF.ownBlock = some b → b ≠ q) (h3 : ∀ b, vL.ownBlock = some b → b ≠ q) : Ag w W' c gp gh gf gm gs gr m n us K vF ps vL ls :=
  ⟨a.h.own hc (fun _ _ e => e ▸ hq), a.fu, hc.row h1 a.st, a.os.bel hc.size, a.f.kept fun b e => hc.block b (a.f.lt e) (h2 b e), fun b e => (a.fo b e).bel hc.size, a.l.kept fun b e => hc.block b (a.l.lt e) (h3 b e), fun b e => (a.lo b e).bel hc.size, a.ne⟩
theorem run_lenPI {w w0 : World} {a : Act} {o : Oper} {v : Value} {ps : List Pq} {k : Nat} (h : PlO w0 v ps) (hk : ps.length = k) (x : Operand) (ho : o.op = .call { callee := .builtin .len, args := #[x], argTypes := #[43] }) (hx : a.eval x = v) : (execOp a.eval o).run Tryd.prog w = .ok (.value (.int .i64 (k : Nat))) w := by
  rw [← hk]
  exact run_lenPO h x ho hx
theorem appTy {w : World} (ty ty' : TypeId) (v vx : Value) : (Builtin.append_ #[43, 43] ty #[v, vx]).run Tryd.prog w = (Builtin.append_ #[43, 43] ty' #[v, vx]).run Tryd.prog w := rfl
theorem getD_map_toP {us : List (Nat × List Nat)} {k : Nat} (h : k < us.length) : (us.map toP).getD k default = toP (us.getD k default) := by
  simp [List.getD_eq_getElem?_getD, h]
set_option maxHeartbeats 4000000 in
set_option maxRecDepth 100000 in
theorem hotlogAgain_any (w : World) (ht : Fr.TabIn w) (hz : TzIn w) (z : Int) (hz0 : -9223372036854775808 ≤ z ∧ z ≤ 9223372036854775807) (vl : Value) (L : List (List Nat)) (hl : RowsIn w vl L) (hL : L.length ≤ 10000000) (vo : Value) (ks : List Int) (ho : IntsIn w vo ks) (hks : ∀ x ∈ ks, -9223372036854775808 ≤ x ∧ x ≤ 9223372036854775807) : Calls Tryd.prog 8 #[.int .i64 z, vl, vo] w fun e w' => e = .returned (.bool true) ∧ Below w.heap.size w w' := by
  have HM : Hid (Fr.TabIn w ∧ TzIn w ∧ RowsIn w vl L ∧ IntsIn w vo ks ∧ (∀ x ∈ ks, -9223372036854775808 ≤ x ∧ x ≤ 9223372036854775807) ∧ ks.length < 4611686018427387904) := ⟨ht, hz, hl, ho, hks, (by obtain ⟨_, _, _, _, h, _⟩ := ho; exact h)⟩
  obtain ⟨n, hn⟩ : ∃ n, n = 16 + whichOf z 120 := ⟨_, rfl⟩
  have hwl := whichOf_lt z 120 (by decide)
  have hn16 : 16 ≤ n := (by omega)
  have hn135 : n ≤ 135 := (by omega)
  obtain ⟨wz, hwz⟩ : ∃ x, x = whichOf z 120 := ⟨_, rfl⟩
  have HN : Hid (n = 16 + wz ∧ wz = whichOf z 120 ∧ wz < 120) := ⟨by omega, hwz, by omega⟩
  have HZ : Hid (-9223372036854775808 ≤ z ∧ z ≤ 9223372036854775807) := hz0
  clear ht hz hl ho hks hn hwl hwz hz0
  obtain ⟨PQ, hPQ⟩ : ∃ PQ : Ending → World → Prop, PQ = fun (e : Ending) (w' : World) => e = .returned (.bool true) ∧ Below w.heap.size w w' := ⟨_, rfl⟩
  have HPQ : Hid (PQ = fun (e : Ending) (w' : World) => e = .returned (.bool true) ∧ Below w.heap.size w w') := hPQ
  rw [← hPQ]
  clear hPQ
  go_enter Tryd.func8, Tryd.ntmps8
  go_upto_region 0 with fail
  refine wp_region_lit ?_
  refine wl rfl (.bool false) _ (run_asZ (.const (.bool false)) rfl (.bool false) rfl) ?_
  simp only [Act.put, aS, aC, aZ]
  refine wpList_nil ?_
  go_upto_region 1 with fail
  refine wp_region_lit ?_
  refine wpList_callW eN9 [] _ rfl rfl [] rfl ?_
  refine (shown_any w HM.out.1 HM.out.2.1).mono ?_
  rintro e W1 ⟨rfl, hb_⟩
  refine ⟨_, rfl, ?_⟩
  have H1 : Hid (Below w.heap.size w W1) := hb_
  clear hb_
  simp only [Act.put, aS, aC, aZ]
  refine wl rfl (.bool true) _ (run_asZ (.tmp 21) rfl (.bool true) rfl) ?_
  simp only [Act.put, aS, aC, aZ]
  refine wpList_nil ?_
  go_upto_region 2 with fail
  refine wp_region_lit ?_
  refine wl rfl (.bool true) _ (run_mvZ (.tmp 7) rfl (.bool true) rfl) ?_
  simp only [Act.put, aS, aC, aZ]
  refine wl rfl (.bool false) _ (run_not (.tmp 22) 4 rfl true rfl) ?_
  simp only [Act.put, aS, aC, aZ]
  refine wpList_nil ?_
  go_upto_region 4 with fail
  refine wp_region_lit ?_
  refine wl rfl (.int .i64 z) _ (run_mvZ (.tmp 0) rfl (.int .i64 z) rfl) ?_
  simp only [Act.put, aS, aC, aZ]
  refine wpList_callW eN11 [.tmp 24, .const (.int .i64 120)] _ rfl rfl [(.int .i64 z), .int .i64 120] rfl ?_
  refine (which_any W1 z 120 (by decide) HZ.out.1 HZ.out.2).mono ?_
  rintro e W_ ⟨he_, rfl⟩
  rw [← HN.out.2.1] at he_
  subst he_
  refine ⟨_, rfl, ?_⟩
  simp only [Act.put, aS, aC, aZ]
  refine wl rfl (.int .i64 (n : Nat)) _ (run_addZ (.const (.int .i64 16)) (.tmp 25) rfl 16 (wz : Nat) _ rfl rfl (by have := HN.out.1; omega) (by omega) (by omega)) ?_
  simp only [Act.put, aS, aC, aZ]
  refine wpList_callW eN10 [.tmp 26] _ rfl rfl [(.int .i64 (n : Nat))] rfl ?_
  refine (begun_any H1.out HM.out.1 HM.out.2.1 n ⟨by omega, by omega⟩).mono ?_
  rintro e W2 ⟨gs, gp, gh, gf, gm, gr, c0, rfl, hb_, hh_, hr_, _, ho_, _⟩
  refine ⟨_, rfl, ?_⟩
  have H2 : Hid (HtW w W2 c0 gp gh gf gm (newPl [1, (n : Int)] [9]) n [] 0 ∧ Row W2 gs 38 (scells gp gh gr 0 0) ∧ Out w W2 c0 gh gf gm gs) := ⟨hh_, hr_, ho_⟩
  clear hb_ hh_ hr_ ho_
  simp only [Act.put, aS, aC, aZ]
  refine wl rfl (ptr gs) _ (run_asZ (.tmp 27) rfl (ptr gs) rfl) ?_
  simp only [Act.put, aS, aC, aZ]
  refine wpList_nil ?_
  go_upto_region 5 with fail
  refine wp_region_lit ?_
  refine wl rfl (ptr gs) _ (run_mvZ (.tmp 8) rfl (ptr gs) rfl) ?_
  simp only [Act.put, aS, aC, aZ]
  refine wl rfl (.bool false) _ (run_binOp' (.tmp 28) (.const (.pointer none)) rfl _ _ _ rfl rfl rfl (by kernel_rfl)) ?_
  simp only [Act.put, aS, aC, aZ]
  refine wpList_nil ?_
  go_upto_region 7 with fail
  refine wp_region_lit ?_
  refine wl rfl (.slice (some ⟨W2.heap.size, 0, none⟩) 0 0) _ (run_plit0 rfl) ?_
  have hb_ := below_alloc W2 (.cells #[] 30)
  have p_ := plit0_row W2
  obtain ⟨W3, hW_⟩ : ∃ U_ : World, U_ = W2.alloc (.cells #[] 30) := ⟨_, rfl⟩
  obtain ⟨vF0, hv_⟩ : ∃ v : Value, v = .slice (some ⟨W2.heap.size, 0, none⟩) 0 0 := ⟨_, rfl⟩
  have ob_ : vF0.ownBlock = some W2.heap.size := (by rw [hv_]; rfl)
  rw [← hW_] at hb_ p_ ⊢
  rw [← hv_] at p_ ⊢
  have H3 : Hid (Ag w W3 c0 gp gh gf gm gs gr (newPl [1, (n : Int)] [9]) n [] (0) vF0 [] (Value.slice none 0 0) []) := (by
    have hh := H2.out.1.bel hb_
    exact ⟨hh, (show (-1 : Int) < 0 by decide), H2.out.2.1.later hb_ H2.out.2.1.lt, H2.out.2.2.bel hb_.size, p_, fun b e => (by rw [ob_] at e; injection e with e; subst e; exact Out.new H2.out.1 (Nat.le_refl _) (p_.lt ob_)), World.ownsRow_nil _ _ _ _, fun b e => (by cases e), fun b _ e => (by cases e)⟩)
  clear hb_ p_ hW_ hv_ ob_
  simp only [Act.put, aS, aC, aZ]
  refine wl rfl vF0 _ (run_asZ (.tmp 30) rfl vF0 rfl) ?_
  simp only [Act.put, aS, aC, aZ]
  refine wpList_nil ?_
  go_upto_region 8 with fail
  refine wp_region_lit ?_
  refine wl rfl (.int .i64 0) _ (run_asZ (.const (.int .i64 0)) rfl (.int .i64 0) rfl) ?_
  simp only [Act.put, aS, aC, aZ]
  refine wpList_nil ?_
  go_wp2_with fail
  go_loopw [9, 10] (fun vF vi W => ∃ i : Nat, vi = .int .i64 (i : Nat) ∧ i ≤ L.length ∧ Hid (∃ c m, Ag w W c gp gh gf gm gs gr m n (usAt (n / 16) L i) (20 * i) vF (plTo (n / 16) L i) (Value.slice none 0 0) [])) (fun _ vi _ => L.length - (intOf vi).toNat)
  case atStart => exact ⟨0, rfl, Nat.zero_le _, ⟨c0, _, H3.out⟩⟩
  case round =>
    obtain ⟨i, rfl, hi, HI0⟩ := hrel
    obtain ⟨ci, mi, hI⟩ := HI0.out
    have HI : Hid (Ag w wr ci gp gh gf gm gs gr mi n (usAt (n / 16) L i) (20 * i) u9 (plTo (n / 16) L i) (Value.slice none 0 0) []) := hI
    clear hI HI0
    by_cases hlt : i < L.length
    · go_upto_region 9 with fail
      refine wp_region_lit ?_
      refine wl rfl (.int .i64 (i : Nat)) _ (run_mvZ (.tmp 10) rfl (.int .i64 (i : Nat)) rfl) ?_
      simp only [Act.put, aS, aC, aZ]
      refine wl rfl vl _ (run_mvZ (.tmp 1) rfl vl rfl) ?_
      simp only [Act.put, aS, aC, aZ]
      refine wl rfl (.int .i64 (L.length : Nat)) _ (run_lenR HM.out.2.2.1 (.tmp 32) rfl rfl) ?_
      simp only [Act.put, aS, aC, aZ]
      refine wl rfl (.bool true) _ (run_lssZ (.tmp 31) (.tmp 33) rfl (i : Nat) (L.length : Nat) rfl rfl true (decide_eq_true (by omega))) ?_
      simp only [Act.put, aS, aC, aZ]
      refine wpList_nil ?_
      obtain ⟨bl, jl, ub, hx_, hc_⟩ := HM.out.2.2.1.ix i hlt
      obtain ⟨x, hx⟩ : ∃ x, x = plAt (n / 16) L i := ⟨_, rfl⟩
      have HXR : Hid ((∀ w', (Instr.indexAt 57 vl (.int .i64 (i : Nat))).run Tryd.prog w' = .ok (.pointer (some ⟨bl, jl, none⟩)) w') ∧ (∀ W, Below w.heap.size w W → W.cell? ⟨bl, jl, none⟩ = some ub ∧ SliceIn W ub (L.getD i [])) ∧ x = plAt (n / 16) L i) := ⟨hx_, hc_, hx⟩
      clear hx_ hc_ hx
      have HA : Hid (Ag w wr ci gp gh gf gm gs gr mi n (usAt (n / 16) L i) (20 * i) u9 (plTo (n / 16) L i) (Value.slice none 0 0) []) := HI.out
      go_upto_region 11 with fail
      refine wp_region_held (S := fun X => Row X gs 38 (scells gp gh gr 0 0) ∧ Below w.heap.size w X) (by kernel_rfl) ?_
      show wpAnyH _ _ _ _ _ 15 (Array.replicate 15 false) _ _
      obtain ⟨X, hX⟩ : ∃ X : World, X = { wr with drawn := wr.drawn + 1 } := ⟨_, rfl⟩
      rw [← hX]
      have HBX : Hid (Below wr.heap.size wr X) := (by rw [hX]; exact ⟨rfl, rfl, rfl, Nat.le_refl _, fun _ _ => rfl⟩)
      replace HA : Hid (Ag w X ci gp gh gf gm gs gr mi n (usAt (n / 16) L i) (20 * i) u9 (plTo (n / 16) L i) (Value.slice none 0 0) []) := HA.out.bel HBX.out
      clear HBX
      clear hX
      refine takeH (i := 0) (some 38) rfl rfl (by kernel_rfl) (by kernel_rfl) (by kernel_rfl) (fun _ _ _ h => h) (gRun rfl (ptr gs) fun _ h => run_mvZ (.tmp 8) rfl (ptr gs) rfl) ⟨HA.out.st, HA.out.h.pl.below⟩ ?_
      simp only [Act.put, aS, aC, aZ]
      refine takeH (i := 1) (some 39) rfl rfl (by kernel_rfl) (by kernel_rfl) (by kernel_rfl) (fun _ _ _ h => h) (gRun rfl (ptr gs) fun _ h => run_nil (.tmp 38) rfl ⟨gs, 0, none⟩ rfl) ⟨HA.out.st, HA.out.h.pl.below⟩ ?_
      simp only [Act.put, aS, aC, aZ]
      refine takeH (i := 2) (some 40) rfl rfl (by kernel_rfl) (by kernel_rfl) (by kernel_rfl) (fun _ _ _ h => h) (gRun rfl (.pointer (some ⟨gs, 0 + 1, none⟩)) fun _ h => run_fieldOp' f38_1 (.tmp 39) rfl gs (0) rfl) ⟨HA.out.st, HA.out.h.pl.below⟩ ?_
      simp only [Act.put, aS, aC, aZ]
      refine takeH (i := 3) (some 41) rfl rfl (by kernel_rfl) (by kernel_rfl) (by kernel_rfl) (fun _ _ _ h => h) (gRun rfl (ptr gh) fun _ h => run_load1 o35 (.tmp 40) rfl gs (0 + 1) rfl (ptr gh) (h.1.at 1 _ rfl)) ⟨HA.out.st, HA.out.h.pl.below⟩ ?_
      simp only [Act.put, aS, aC, aZ]
      refine takeH (i := 4) (some 42) rfl rfl (by kernel_rfl) (by kernel_rfl) (by kernel_rfl) (fun _ _ _ h => h) (gRun rfl vl fun _ h => run_mvZ (.tmp 1) rfl vl rfl) ⟨HA.out.st, HA.out.h.pl.below⟩ ?_
      simp only [Act.put, aS, aC, aZ]
      refine takeH (i := 5) (some 43) rfl rfl (by kernel_rfl) (by kernel_rfl) (by kernel_rfl) (fun _ _ _ h => h) (gRun rfl (.int .i64 (i : Nat)) fun _ h => run_mvZ (.tmp 10) rfl (.int .i64 (i : Nat)) rfl) ⟨HA.out.st, HA.out.h.pl.below⟩ ?_
      simp only [Act.put, aS, aC, aZ]
      refine takeH (i := 6) (some 44) rfl rfl (by kernel_rfl) (by kernel_rfl) (by kernel_rfl) (fun _ _ _ h => h) (gRun rfl (.pointer (some ⟨bl, jl, none⟩)) fun _ h => run_idx (.tmp 42) (.tmp 43) rfl _ _ _ rfl rfl HXR.out.1) ⟨HA.out.st, HA.out.h.pl.below⟩ ?_
      simp only [Act.put, aS, aC, aZ]
      refine takeH (i := 7) (some 45) rfl rfl (by kernel_rfl) (by kernel_rfl) (by kernel_rfl) (fun _ _ _ h => h) (gRun rfl ub fun _ h => run_load1 o28 (.tmp 44) rfl bl (jl) rfl ub (HXR.out.2.1 _ h.2).1) ⟨HA.out.st, HA.out.h.pl.below⟩ ?_
      simp only [Act.put, aS, aC, aZ]
      refine twoH (i := 8) (j := 12) (by kernel_rfl) ?_ ?_
      · refine opCallG (some 46) rfl rfl rfl 21 _ (run_call eN21 [.tmp 41, .tmp 45] _ rfl [(ptr gh), ub] rfl) ?_
        refine (HA.out.h.appendU (by omega) HA.out.fu ub (L.getD i []) (HXR.out.2.1 _ HA.out.h.pl.below).2).mono ?_
        rintro e Y1 ⟨c2, m2, er, he_, hs_, hf_, hh_, ht_⟩
        have he_ : e = .returned (.tuple #[.agg x.cells.toArray, .int .i64 er]) := (by rw [HXR.out.2.2]; exact he_)
        subst he_
        refine ⟨_, rfl, ?_⟩
        have HT : Hid (Told er x) := (by rw [HXR.out.2.2]; exact ht_)
        replace HA : Hid (Ag w Y1 c2 gp gh gf gm gs gr m2 n (usAt (n / 16) L (i + 1)) (20 * (i + 1)) u9 (plTo (n / 16) L i) (Value.slice none 0 0) []) := HA.out.sq hs_ hh_ hf_
        clear hs_ hf_ hh_ ht_
        refine ⟨⟨HA.out.st, HA.out.h.pl.below⟩, ?_⟩
        simp only [Act.put, aS, aC, aZ]
        refine takeH (i := 9) (some 37) rfl rfl (by kernel_rfl) (by kernel_rfl) (by kernel_rfl) (fun _ _ _ h => h) (gRun rfl (.tuple #[(.agg x.cells.toArray), (.int .i64 er)]) fun _ h => run_mvZ (.tmp 46) rfl (.tuple #[(.agg x.cells.toArray), (.int .i64 er)]) rfl) ⟨HA.out.st, HA.out.h.pl.below⟩ ?_
        simp only [Act.put, aS, aC, aZ]
        refine takeH (i := 10) (some 47) rfl rfl (by kernel_rfl) (by kernel_rfl) (by kernel_rfl) (fun _ _ _ h => h) (gRun rfl (.agg x.cells.toArray) fun _ h => run_extZ (.tmp 37) 0 rfl #[(.agg x.cells.toArray), (.int .i64 er)] rfl (.agg x.cells.toArray) rfl) ⟨HA.out.st, HA.out.h.pl.below⟩ ?_
        simp only [Act.put, aS, aC, aZ]
        refine takeH (i := 11) (some 48) rfl rfl (by kernel_rfl) (by kernel_rfl) (by kernel_rfl) (fun _ _ _ h => h) (gRun rfl (.int .i64 er) fun _ h => run_extZ (.tmp 37) 1 rfl #[(.agg x.cells.toArray), (.int .i64 er)] rfl (.int .i64 er) rfl) ⟨HA.out.st, HA.out.h.pl.below⟩ ?_
        simp only [Act.put, aS, aC, aZ]
        refine oneH (i := 12) (by kernel_rfl) ?_
        refine opValueG (some 11) rfl rfl rfl (ptr Y1.heap.size) _ (run_allocA (plC 0 0 0 false) zero30 rfl) ?_
        have hb_ := below_alloc Y1 (.cells (plC 0 0 0 false).toArray 30)
        have r_ := Row.new Y1 30 (plC 0 0 0 false)
        obtain ⟨Y2, hW_⟩ : ∃ U_ : World, U_ = Y1.alloc (.cells (plC 0 0 0 false).toArray 30) := ⟨_, rfl⟩
        obtain ⟨q11, hq_⟩ : ∃ q, q = Y1.heap.size := ⟨_, rfl⟩
        rw [← hW_] at hb_
        rw [← hW_, ← hq_] at r_
        rw [← hW_, ← hq_]
        have HQ : Hid (Row Y2 q11 30 (plC 0 0 0 false) ∧ Out w Y2 c2 gh gf gm q11 ∧ (∀ b, u9.ownBlock = some b → b ≠ q11) ∧ (∀ b, (Value.slice none 0 0).ownBlock = some b → b ≠ q11)) := ⟨r_, Out.new HA.out.h (by omega) r_.lt, fun b e => (by have := HA.out.f.lt e; omega), fun b e => (by have := HA.out.l.lt e; omega)⟩
        replace HA : Hid (Ag w Y2 c2 gp gh gf gm gs gr m2 n (usAt (n / 16) L (i + 1)) (20 * (i + 1)) u9 (plTo (n / 16) L i) (Value.slice none 0 0) []) := HA.out.bel hb_
        clear r_ hb_ hW_ hq_
        refine ⟨⟨HA.out.st, HA.out.h.pl.below⟩, ?_⟩
        simp only [Act.put, aS, aC, aZ]
        refine oneH (i := 13) (by kernel_rfl) ?_
        refine opSkipZ rfl rfl rfl _ (run_storeA ag30 (.tmp 11) (.tmp 47) rfl q11 30 rfl x.cells _ rfl rfl HQ.out.1 rfl (plC_one _ _ _ _)) ?_
        have hb_ := (Ch.setRow (S := (· = q11)) (Ch.refl _ Y2) (Or.inl rfl) x.cells.toArray)
        have r_ := HQ.out.1.setRow x.cells
        obtain ⟨Y3, hW_⟩ : ∃ U_ : World, U_ = Y2.setRow q11 x.cells.toArray := ⟨_, rfl⟩
        rw [← hW_] at hb_ r_ ⊢
        replace HA : Hid (Ag w Y3 c2 gp gh gf gm gs gr m2 n (usAt (n / 16) L (i + 1)) (20 * (i + 1)) u9 (plTo (n / 16) L i) (Value.slice none 0 0) []) := HA.out.put hb_ HQ.out.2.1 (row_ne HA.out.st HQ.out.1 (by decide)) HQ.out.2.2.1 HQ.out.2.2.2
        replace HQ : Hid (Row Y3 q11 30 x.cells ∧ Out w Y3 c2 gh gf gm q11 ∧ (∀ b, u9.ownBlock = some b → b ≠ q11) ∧ (∀ b, (Value.slice none 0 0).ownBlock = some b → b ≠ q11)) := ⟨r_, HQ.out.2.1.bel hb_.size, HQ.out.2.2⟩
        clear r_ hb_ hW_
        refine ⟨⟨HA.out.st, HA.out.h.pl.below⟩, ?_⟩
        refine takeH (i := 14) (some 12) rfl rfl (by kernel_rfl) (by kernel_rfl) (by kernel_rfl) (fun _ _ _ h => h) (gRun rfl (.int .i64 er) fun _ h => run_asZ (.tmp 48) rfl (.int .i64 er) rfl) ⟨HA.out.st, HA.out.h.pl.below⟩ ?_
        simp only [Act.put, aS, aC, aZ]
        refine wpAnyH_done (by kernel_rfl) ?_ _
        rcases HT.out with hz | ⟨hz | hz, hxz⟩
        · have h5 : ¬ er = 5 := (by omega)
          have h3 : ¬ er = 3 := (by omega)
          go_upto_region 12 with fail
          refine wp_region_lit ?_
          refine wl rfl (.int .i64 er) _ (run_mvZ (.tmp 12) rfl (.int .i64 er) rfl) ?_
          simp only [Act.put, aS, aC, aZ]
          refine wl rfl (.bool false) _ (run_eqZ (.tmp 49) (.const (.int .i64 5)) rfl er 5 rfl rfl false (decide_eq_false h5)) ?_
          simp only [Act.put, aS, aC, aZ]
          refine wl rfl (.bool false) _ (run_mvZ (.tmp 50) rfl (.bool false) rfl) ?_
          simp only [Act.put, aS, aC, aZ]
          refine wl (by kernel_rfl) (.int .i64 er) _ (run_mvZ (.tmp 12) rfl (.int .i64 er) rfl) ?_
          simp only [Act.put, aS, aC, aZ]
          refine wl (by kernel_rfl) (.bool false) _ (run_eqZ (.tmp 52) (.const (.int .i64 3)) rfl er 3 rfl rfl false (decide_eq_false h3)) ?_
          simp only [Act.put, aS, aC, aZ]
          refine wl rfl (.bool false) _ (run_pickZ (.tmp 51) (.const (.bool true)) (.tmp 53) rfl false (.bool false) rfl rfl) ?_
          simp only [Act.put, aS, aC, aZ]
          refine wpList_nil ?_
          go_upto_region 14 with fail
          refine wp_region_lit ?_
          refine wl rfl (.int .i64 er) _ (run_mvZ (.tmp 12) rfl (.int .i64 er) rfl) ?_
          simp only [Act.put, aS, aC, aZ]
          refine wl rfl (.bool false) _ (run_neZ (.tmp 56) (.const (.int .i64 0)) rfl er 0 rfl rfl false (by rw [decide_eq_true hz.1]; rfl)) ?_
          simp only [Act.put, aS, aC, aZ]
          refine wpList_nil ?_
          go_upto_region 16 with fail
          refine wp_region_lit ?_
          refine wl rfl u9 _ (run_mvZ (.tmp 9) rfl u9 rfl) ?_
          simp only [Act.put, aS, aC, aZ]
          refine wl rfl (.agg (x.cells).toArray) _ (run_loadA ag30 (.tmp 11) rfl q11 (0) rfl (x.cells) rfl (rows_one HQ.out.1)) ?_
          simp only [Act.put, aS, aC, aZ]
          refine wl rfl (whole Y3.heap.size 1) _ (run_lit43 (.tmp 59) rfl x.dv x.at_ x.ln x.bd rfl) ?_
          have hb_ := below_alloc Y3 (.cells x.cells.toArray 30)
          have r_ := Row.new Y3 30 x.cells
          obtain ⟨Z2, hW_⟩ : ∃ U_ : World, U_ = Y3.alloc (.cells x.cells.toArray 30) := ⟨_, rfl⟩
          obtain ⟨ql, hq_⟩ : ∃ q, q = Y3.heap.size := ⟨_, rfl⟩
          rw [← hW_] at hb_
          rw [← hW_, ← hq_] at r_
          show wpList _ _ _ _ (Act.put _ _ (whole Y3.heap.size 1)) (Y3.alloc (.cells x.cells.toArray 30))
          rw [← hW_, ← hq_]
          replace HA : Hid (Ag w Z2 c2 gp gh gf gm gs gr m2 n (usAt (n / 16) L (i + 1)) (20 * (i + 1)) u9 (plTo (n / 16) L i) (Value.slice none 0 0) []) := HA.out.bel hb_
          have HL1 : Hid (Row Z2 ql 30 x.cells) := r_
          clear r_ hb_ hW_ hq_
          simp only [Act.put, aS, aC, aZ]
          obtain ⟨vF2, Z3, hr_, hp_, hg_, hat_⟩ := papp_one (w := Z2) 43 u9 _ HA.out.f HL1.out (by rw [plTo_length]; omega)
          have HR : Hid (∀ ty, (Builtin.append_ #[43, 43] ty #[u9, whole ql 1]).run Tryd.prog Z2 = .ok vF2 Z3) := (fun ty => (appTy ty 43 _ _).trans hr_)
          refine wl rfl vF2 Z3 (run_append (.tmp 58) (.tmp 60) rfl u9 (whole ql 1) vF2 rfl rfl (HR.out _)) ?_
          rw [HXR.out.2.2, ← plTo_succ] at hp_
          replace HA : Hid (Ag w Z3 c2 gp gh gf gm gs gr m2 n (usAt (n / 16) L (i + 1)) (20 * (i + 1)) vF2 (plTo (n / 16) L (i + 1)) (Value.slice none 0 0) []) := HA.out.growF hg_ hp_ hat_
          clear hr_ hp_ hg_ hat_ HR
          simp only [Act.put, aS, aC, aZ]
          refine wl rfl vF2 _ (run_asZ (.tmp 61) rfl vF2 rfl) ?_
          simp only [Act.put, aS, aC, aZ]
          refine wpList_nil ?_
          go_wp2_with fail
          refine ⟨⟨i + 1, by go_num, by omega, ⟨c2, m2, HA.out⟩⟩, ?_⟩
          simp [intOf]; omega
        · have h5 : ¬ er = 5 := (by omega)
          go_upto_region 12 with fail
          refine wp_region_lit ?_
          refine wl rfl (.int .i64 er) _ (run_mvZ (.tmp 12) rfl (.int .i64 er) rfl) ?_
          simp only [Act.put, aS, aC, aZ]
          refine wl rfl (.bool false) _ (run_eqZ (.tmp 49) (.const (.int .i64 5)) rfl er 5 rfl rfl false (decide_eq_false h5)) ?_
          simp only [Act.put, aS, aC, aZ]
          refine wl rfl (.bool false) _ (run_mvZ (.tmp 50) rfl (.bool false) rfl) ?_
          simp only [Act.put, aS, aC, aZ]
          refine wl (by kernel_rfl) (.int .i64 er) _ (run_mvZ (.tmp 12) rfl (.int .i64 er) rfl) ?_
          simp only [Act.put, aS, aC, aZ]
          refine wl (by kernel_rfl) (.bool true) _ (run_eqZ (.tmp 52) (.const (.int .i64 3)) rfl er 3 rfl rfl true (decide_eq_true hz)) ?_
          simp only [Act.put, aS, aC, aZ]
          refine wl rfl (.bool true) _ (run_pickZ (.tmp 51) (.const (.bool true)) (.tmp 53) rfl false (.bool true) rfl rfl) ?_
          simp only [Act.put, aS, aC, aZ]
          refine wpList_nil ?_
          go_upto_region 13 with fail
          refine wp_region_lit ?_
          refine wl rfl (.agg (plC 0 0 0 false).toArray) _ (run_build30z rfl) ?_
          simp only [Act.put, aS, aC, aZ]
          refine wlS rfl rfl _ (run_storeA ag30 (.tmp 11) (.tmp 55) rfl q11 30 rfl (plC 0 0 0 false) _ rfl rfl HQ.out.1 rfl (plC_one _ _ _ _)) ?_
          have hb_ := (Ch.setRow (S := (· = q11)) (Ch.refl _ Y3) (Or.inl rfl) (plC 0 0 0 false).toArray)
          have r_ := HQ.out.1.setRow (plC 0 0 0 false)
          obtain ⟨Z1, hW_⟩ : ∃ U_ : World, U_ = Y3.setRow q11 (plC 0 0 0 false).toArray := ⟨_, rfl⟩
          rw [← hW_] at hb_ r_ ⊢
          replace HA : Hid (Ag w Z1 c2 gp gh gf gm gs gr m2 n (usAt (n / 16) L (i + 1)) (20 * (i + 1)) u9 (plTo (n / 16) L i) (Value.slice none 0 0) []) := HA.out.put hb_ HQ.out.2.1 (row_ne HA.out.st HQ.out.1 (by decide)) HQ.out.2.2.1 HQ.out.2.2.2
          replace HQ : Hid (Row Z1 q11 30 x.cells ∧ Out w Z1 c2 gh gf gm q11 ∧ (∀ b, u9.ownBlock = some b → b ≠ q11) ∧ (∀ b, (Value.slice none 0 0).ownBlock = some b → b ≠ q11)) := ⟨(by rw [hxz]; exact r_), HQ.out.2.1.bel hb_.size, HQ.out.2.2⟩
          clear r_ hb_ hW_
          refine wpList_nil ?_
          go_upto_region 16 with fail
          refine wp_region_lit ?_
          refine wl rfl u9 _ (run_mvZ (.tmp 9) rfl u9 rfl) ?_
          simp only [Act.put, aS, aC, aZ]
          refine wl rfl (.agg (x.cells).toArray) _ (run_loadA ag30 (.tmp 11) rfl q11 (0) rfl (x.cells) rfl (rows_one HQ.out.1)) ?_
          simp only [Act.put, aS, aC, aZ]
          refine wl rfl (whole Z1.heap.size 1) _ (run_lit43 (.tmp 59) rfl x.dv x.at_ x.ln x.bd rfl) ?_
          have hb_ := below_alloc Z1 (.cells x.cells.toArray 30)
          have r_ := Row.new Z1 30 x.cells
          obtain ⟨Z2, hW_⟩ : ∃ U_ : World, U_ = Z1.alloc (.cells x.cells.toArray 30) := ⟨_, rfl⟩
          obtain ⟨ql, hq_⟩ : ∃ q, q = Z1.heap.size := ⟨_, rfl⟩
          rw [← hW_] at hb_
          rw [← hW_, ← hq_] at r_
          show wpList _ _ _ _ (Act.put _ _ (whole Z1.heap.size 1)) (Z1.alloc (.cells x.cells.toArray 30))
          rw [← hW_, ← hq_]
          replace HA : Hid (Ag w Z2 c2 gp gh gf gm gs gr m2 n (usAt (n / 16) L (i + 1)) (20 * (i + 1)) u9 (plTo (n / 16) L i) (Value.slice none 0 0) []) := HA.out.bel hb_
          have HL1 : Hid (Row Z2 ql 30 x.cells) := r_
          clear r_ hb_ hW_ hq_
          simp only [Act.put, aS, aC, aZ]
          obtain ⟨vF2, Z3, hr_, hp_, hg_, hat_⟩ := papp_one (w := Z2) 43 u9 _ HA.out.f HL1.out (by rw [plTo_length]; omega)
          have HR : Hid (∀ ty, (Builtin.append_ #[43, 43] ty #[u9, whole ql 1]).run Tryd.prog Z2 = .ok vF2 Z3) := (fun ty => (appTy ty 43 _ _).trans hr_)
          refine wl rfl vF2 Z3 (run_append (.tmp 58) (.tmp 60) rfl u9 (whole ql 1) vF2 rfl rfl (HR.out _)) ?_
          rw [HXR.out.2.2, ← plTo_succ] at hp_
          replace HA : Hid (Ag w Z3 c2 gp gh gf gm gs gr m2 n (usAt (n / 16) L (i + 1)) (20 * (i + 1)) vF2 (plTo (n / 16) L (i + 1)) (Value.slice none 0 0) []) := HA.out.growF hg_ hp_ hat_
          clear hr_ hp_ hg_ hat_ HR
          simp only [Act.put, aS, aC, aZ]
          refine wl rfl vF2 _ (run_asZ (.tmp 61) rfl vF2 rfl) ?_
          simp only [Act.put, aS, aC, aZ]
          refine wpList_nil ?_
          go_wp2_with fail
          refine ⟨⟨i + 1, by go_num, by omega, ⟨c2, m2, HA.out⟩⟩, ?_⟩
          simp [intOf]; omega
        · go_upto_region 12 with fail
          refine wp_region_lit ?_
          refine wl rfl (.int .i64 er) _ (run_mvZ (.tmp 12) rfl (.int .i64 er) rfl) ?_
          simp only [Act.put, aS, aC, aZ]
          refine wl rfl (.bool true) _ (run_eqZ (.tmp 49) (.const (.int .i64 5)) rfl er 5 rfl rfl true (decide_eq_true hz)) ?_
          simp only [Act.put, aS, aC, aZ]
          refine wl rfl (.bool true) _ (run_mvZ (.tmp 50) rfl (.bool true) rfl) ?_
          simp only [Act.put, aS, aC, aZ]
          refine wpList_skip (by kernel_rfl) ?_
          simp only [Act.put, aS, aC, aZ]
          refine wpList_skip (by kernel_rfl) ?_
          simp only [Act.put, aS, aC, aZ]
          refine wl rfl (.bool true) _ (run_pickZ (.tmp 51) (.const (.bool true)) (.tmp 53) rfl true (.bool true) rfl rfl) ?_
          simp only [Act.put, aS, aC, aZ]
          refine wpList_nil ?_
          go_upto_region 13 with fail
          refine wp_region_lit ?_
          refine wl rfl (.agg (plC 0 0 0 false).toArray) _ (run_build30z rfl) ?_
          simp only [Act.put, aS, aC, aZ]
          refine wlS rfl rfl _ (run_storeA ag30 (.tmp 11) (.tmp 55) rfl q11 30 rfl (plC 0 0 0 false) _ rfl rfl HQ.out.1 rfl (plC_one _ _ _ _)) ?_
          have hb_ := (Ch.setRow (S := (· = q11)) (Ch.refl _ Y3) (Or.inl rfl) (plC 0 0 0 false).toArray)
          have r_ := HQ.out.1.setRow (plC 0 0 0 false)
          obtain ⟨Z1, hW_⟩ : ∃ U_ : World, U_ = Y3.setRow q11 (plC 0 0 0 false).toArray := ⟨_, rfl⟩
          rw [← hW_] at hb_ r_ ⊢
          replace HA : Hid (Ag w Z1 c2 gp gh gf gm gs gr m2 n (usAt (n / 16) L (i + 1)) (20 * (i + 1)) u9 (plTo (n / 16) L i) (Value.slice none 0 0) []) := HA.out.put hb_ HQ.out.2.1 (row_ne HA.out.st HQ.out.1 (by decide)) HQ.out.2.2.1 HQ.out.2.2.2
          replace HQ : Hid (Row Z1 q11 30 x.cells ∧ Out w Z1 c2 gh gf gm q11 ∧ (∀ b, u9.ownBlock = some b → b ≠ q11) ∧ (∀ b, (Value.slice none 0 0).ownBlock = some b → b ≠ q11)) := ⟨(by rw [hxz]; exact r_), HQ.out.2.1.bel hb_.size, HQ.out.2.2⟩
          clear r_ hb_ hW_
          refine wpList_nil ?_
          go_upto_region 16 with fail
          refine wp_region_lit ?_
          refine wl rfl u9 _ (run_mvZ (.tmp 9) rfl u9 rfl) ?_
          simp only [Act.put, aS, aC, aZ]
          refine wl rfl (.agg (x.cells).toArray) _ (run_loadA ag30 (.tmp 11) rfl q11 (0) rfl (x.cells) rfl (rows_one HQ.out.1)) ?_
          simp only [Act.put, aS, aC, aZ]
          refine wl rfl (whole Z1.heap.size 1) _ (run_lit43 (.tmp 59) rfl x.dv x.at_ x.ln x.bd rfl) ?_
          have hb_ := below_alloc Z1 (.cells x.cells.toArray 30)
          have r_ := Row.new Z1 30 x.cells
          obtain ⟨Z2, hW_⟩ : ∃ U_ : World, U_ = Z1.alloc (.cells x.cells.toArray 30) := ⟨_, rfl⟩
          obtain ⟨ql, hq_⟩ : ∃ q, q = Z1.heap.size := ⟨_, rfl⟩
          rw [← hW_] at hb_
          rw [← hW_, ← hq_] at r_
          show wpList _ _ _ _ (Act.put _ _ (whole Z1.heap.size 1)) (Z1.alloc (.cells x.cells.toArray 30))
          rw [← hW_, ← hq_]
          replace HA : Hid (Ag w Z2 c2 gp gh gf gm gs gr m2 n (usAt (n / 16) L (i + 1)) (20 * (i + 1)) u9 (plTo (n / 16) L i) (Value.slice none 0 0) []) := HA.out.bel hb_
          have HL1 : Hid (Row Z2 ql 30 x.cells) := r_
          clear r_ hb_ hW_ hq_
          simp only [Act.put, aS, aC, aZ]
          obtain ⟨vF2, Z3, hr_, hp_, hg_, hat_⟩ := papp_one (w := Z2) 43 u9 _ HA.out.f HL1.out (by rw [plTo_length]; omega)
          have HR : Hid (∀ ty, (Builtin.append_ #[43, 43] ty #[u9, whole ql 1]).run Tryd.prog Z2 = .ok vF2 Z3) := (fun ty => (appTy ty 43 _ _).trans hr_)
          refine wl rfl vF2 Z3 (run_append (.tmp 58) (.tmp 60) rfl u9 (whole ql 1) vF2 rfl rfl (HR.out _)) ?_
          rw [HXR.out.2.2, ← plTo_succ] at hp_
          replace HA : Hid (Ag w Z3 c2 gp gh gf gm gs gr m2 n (usAt (n / 16) L (i + 1)) (20 * (i + 1)) vF2 (plTo (n / 16) L (i + 1)) (Value.slice none 0 0) []) := HA.out.growF hg_ hp_ hat_
          clear hr_ hp_ hg_ hat_ HR
          simp only [Act.put, aS, aC, aZ]
          refine wl rfl vF2 _ (run_asZ (.tmp 61) rfl vF2 rfl) ?_
          simp only [Act.put, aS, aC, aZ]
          refine wpList_nil ?_
          go_wp2_with fail
          refine ⟨⟨i + 1, by go_num, by omega, ⟨c2, m2, HA.out⟩⟩, ?_⟩
          simp [intOf]; omega
      · refine opValueG (some 11) rfl rfl rfl (ptr X.heap.size) _ (run_allocA (plC 0 0 0 false) zero30 rfl) ?_
        have hb_ := below_alloc X (.cells (plC 0 0 0 false).toArray 30)
        have r_ := Row.new X 30 (plC 0 0 0 false)
        obtain ⟨Y1, hW_⟩ : ∃ U_ : World, U_ = X.alloc (.cells (plC 0 0 0 false).toArray 30) := ⟨_, rfl⟩
        obtain ⟨q11, hq_⟩ : ∃ q, q = X.heap.size := ⟨_, rfl⟩
        rw [← hW_] at hb_
        rw [← hW_, ← hq_] at r_
        rw [← hW_, ← hq_]
        have HQ : Hid (Row Y1 q11 30 (plC 0 0 0 false) ∧ Out w Y1 ci gh gf gm q11 ∧ (∀ b, u9.ownBlock = some b → b ≠ q11) ∧ (∀ b, (Value.slice none 0 0).ownBlock = some b → b ≠ q11)) := ⟨r_, Out.new HA.out.h (by omega) r_.lt, fun b e => (by have := HA.out.f.lt e; omega), fun b e => (by have := HA.out.l.lt e; omega)⟩
        replace HA : Hid (Ag w Y1 ci gp gh gf gm gs gr mi n (usAt (n / 16) L i) (20 * i) u9 (plTo (n / 16) L i) (Value.slice none 0 0) []) := HA.out.bel hb_
        clear r_ hb_ hW_ hq_
        refine ⟨⟨HA.out.st, HA.out.h.pl.below⟩, ?_⟩
        simp only [Act.put, aS, aC, aZ]
        refine oneH (i := 8) (by kernel_rfl) ?_
        refine opCallG (some 46) rfl rfl rfl 21 _ (run_call eN21 [.tmp 41, .tmp 45] _ rfl [(ptr gh), ub] rfl) ?_
        refine (HA.out.h.appendU (by omega) HA.out.fu ub (L.getD i []) (HXR.out.2.1 _ HA.out.h.pl.below).2).mono ?_
        rintro e Y2 ⟨c2, m2, er, he_, hs_, hf_, hh_, ht_⟩
        have he_ : e = .returned (.tuple #[.agg x.cells.toArray, .int .i64 er]) := (by rw [HXR.out.2.2]; exact he_)
        subst he_
        refine ⟨_, rfl, ?_⟩
        have HT : Hid (Told er x) := (by rw [HXR.out.2.2]; exact ht_)
        replace HQ : Hid (Row Y2 q11 30 (plC 0 0 0 false) ∧ Out w Y2 c2 gh gf gm q11 ∧ (∀ b, u9.ownBlock = some b → b ≠ q11) ∧ (∀ b, (Value.slice none 0 0).ownBlock = some b → b ≠ q11)) := ⟨HQ.out.2.1.row hs_ HQ.out.1, (HQ.out.2.1.step hs_).1, HQ.out.2.2⟩
        replace HA : Hid (Ag w Y2 c2 gp gh gf gm gs gr m2 n (usAt (n / 16) L (i + 1)) (20 * (i + 1)) u9 (plTo (n / 16) L i) (Value.slice none 0 0) []) := HA.out.sq hs_ hh_ hf_
        clear hs_ hf_ hh_ ht_
        refine ⟨⟨HA.out.st, HA.out.h.pl.below⟩, ?_⟩
        simp only [Act.put, aS, aC, aZ]
        refine takeH (i := 9) (some 37) rfl rfl (by kernel_rfl) (by kernel_rfl) (by kernel_rfl) (fun _ _ _ h => h) (gRun rfl (.tuple #[(.agg x.cells.toArray), (.int .i64 er)]) fun _ h => run_mvZ (.tmp 46) rfl (.tuple #[(.agg x.cells.toArray), (.int .i64 er)]) rfl) ⟨HA.out.st, HA.out.h.pl.below⟩ ?_
        simp only [Act.put, aS, aC, aZ]
        refine takeH (i := 10) (some 47) rfl rfl (by kernel_rfl) (by kernel_rfl) (by kernel_rfl) (fun _ _ _ h => h) (gRun rfl (.agg x.cells.toArray) fun _ h => run_extZ (.tmp 37) 0 rfl #[(.agg x.cells.toArray), (.int .i64 er)] rfl (.agg x.cells.toArray) rfl) ⟨HA.out.st, HA.out.h.pl.below⟩ ?_
        simp only [Act.put, aS, aC, aZ]
        refine takeH (i := 11) (some 48) rfl rfl (by kernel_rfl) (by kernel_rfl) (by kernel_rfl) (fun _ _ _ h => h) (gRun rfl (.int .i64 er) fun _ h => run_extZ (.tmp 37) 1 rfl #[(.agg x.cells.toArray), (.int .i64 er)] rfl (.int .i64 er) rfl) ⟨HA.out.st, HA.out.h.pl.below⟩ ?_
        simp only [Act.put, aS, aC, aZ]
        refine oneH (i := 13) (by kernel_rfl) ?_
        refine opSkipZ rfl rfl rfl _ (run_storeA ag30 (.tmp 11) (.tmp 47) rfl q11 30 rfl x.cells _ rfl rfl HQ.out.1 rfl (plC_one _ _ _ _)) ?_
        have hb_ := (Ch.setRow (S := (· = q11)) (Ch.refl _ Y2) (Or.inl rfl) x.cells.toArray)
        have r_ := HQ.out.1.setRow x.cells
        obtain ⟨Y3, hW_⟩ : ∃ U_ : World, U_ = Y2.setRow q11 x.cells.toArray := ⟨_, rfl⟩
        rw [← hW_] at hb_ r_ ⊢
        replace HA : Hid (Ag w Y3 c2 gp gh gf gm gs gr m2 n (usAt (n / 16) L (i + 1)) (20 * (i + 1)) u9 (plTo (n / 16) L i) (Value.slice none 0 0) []) := HA.out.put hb_ HQ.out.2.1 (row_ne HA.out.st HQ.out.1 (by decide)) HQ.out.2.2.1 HQ.out.2.2.2
        replace HQ : Hid (Row Y3 q11 30 x.cells ∧ Out w Y3 c2 gh gf gm q11 ∧ (∀ b, u9.ownBlock = some b → b ≠ q11) ∧ (∀ b, (Value.slice none 0 0).ownBlock = some b → b ≠ q11)) := ⟨r_, HQ.out.2.1.bel hb_.size, HQ.out.2.2⟩
        clear r_ hb_ hW_
        refine ⟨⟨HA.out.st, HA.out.h.pl.below⟩, ?_⟩
        refine takeH (i := 14) (some 12) rfl rfl (by kernel_rfl) (by kernel_rfl) (by kernel_rfl) (fun _ _ _ h => h) (gRun rfl (.int .i64 er) fun _ h => run_asZ (.tmp 48) rfl (.int .i64 er) rfl) ⟨HA.out.st, HA.out.h.pl.below⟩ ?_
        simp only [Act.put, aS, aC, aZ]
        refine wpAnyH_done (by kernel_rfl) ?_ _
        rcases HT.out with hz | ⟨hz | hz, hxz⟩
        · have h5 : ¬ er = 5 := (by omega)
          have h3 : ¬ er = 3 := (by omega)
          go_upto_region 12 with fail
          refine wp_region_lit ?_
          refine wl rfl (.int .i64 er) _ (run_mvZ (.tmp 12) rfl (.int .i64 er) rfl) ?_
          simp only [Act.put, aS, aC, aZ]
          refine wl rfl (.bool false) _ (run_eqZ (.tmp 49) (.const (.int .i64 5)) rfl er 5 rfl rfl false (decide_eq_false h5)) ?_
          simp only [Act.put, aS, aC, aZ]
          refine wl rfl (.bool false) _ (run_mvZ (.tmp 50) rfl (.bool false) rfl) ?_
          simp only [Act.put, aS, aC, aZ]
          refine wl (by kernel_rfl) (.int .i64 er) _ (run_mvZ (.tmp 12) rfl (.int .i64 er) rfl) ?_
          simp only [Act.put, aS, aC, aZ]
          refine wl (by kernel_rfl) (.bool false) _ (run_eqZ (.tmp 52) (.const (.int .i64 3)) rfl er 3 rfl rfl false (decide_eq_false h3)) ?_
          simp only [Act.put, aS, aC, aZ]
          refine wl rfl (.bool false) _ (run_pickZ (.tmp 51) (.const (.bool true)) (.tmp 53) rfl false (.bool false) rfl rfl) ?_
          simp only [Act.put, aS, aC, aZ]
          refine wpList_nil ?_
          go_upto_region 14 with fail
          refine wp_region_lit ?_
          refine wl rfl (.int .i64 er) _ (run_mvZ (.tmp 12) rfl (.int .i64 er) rfl) ?_
          simp only [Act.put, aS, aC, aZ]
          refine wl rfl (.bool false) _ (run_neZ (.tmp 56) (.const (.int .i64 0)) rfl er 0 rfl rfl false (by rw [decide_eq_true hz.1]; rfl)) ?_
          simp only [Act.put, aS, aC, aZ]
          refine wpList_nil ?_
          go_upto_region 16 with fail
          refine wp_region_lit ?_
          refine wl rfl u9 _ (run_mvZ (.tmp 9) rfl u9 rfl) ?_
          simp only [Act.put, aS, aC, aZ]
          refine wl rfl (.agg (x.cells).toArray) _ (run_loadA ag30 (.tmp 11) rfl q11 (0) rfl (x.cells) rfl (rows_one HQ.out.1)) ?_
          simp only [Act.put, aS, aC, aZ]
          refine wl rfl (whole Y3.heap.size 1) _ (run_lit43 (.tmp 59) rfl x.dv x.at_ x.ln x.bd rfl) ?_
          have hb_ := below_alloc Y3 (.cells x.cells.toArray 30)
          have r_ := Row.new Y3 30 x.cells
          obtain ⟨Z2, hW_⟩ : ∃ U_ : World, U_ = Y3.alloc (.cells x.cells.toArray 30) := ⟨_, rfl⟩
          obtain ⟨ql, hq_⟩ : ∃ q, q = Y3.heap.size := ⟨_, rfl⟩
          rw [← hW_] at hb_
          rw [← hW_, ← hq_] at r_
          show wpList _ _ _ _ (Act.put _ _ (whole Y3.heap.size 1)) (Y3.alloc (.cells x.cells.toArray 30))
          rw [← hW_, ← hq_]
          replace HA : Hid (Ag w Z2 c2 gp gh gf gm gs gr m2 n (usAt (n / 16) L (i + 1)) (20 * (i + 1)) u9 (plTo (n / 16) L i) (Value.slice none 0 0) []) := HA.out.bel hb_
          have HL1 : Hid (Row Z2 ql 30 x.cells) := r_
          clear r_ hb_ hW_ hq_
          simp only [Act.put, aS, aC, aZ]
          obtain ⟨vF2, Z3, hr_, hp_, hg_, hat_⟩ := papp_one (w := Z2) 43 u9 _ HA.out.f HL1.out (by rw [plTo_length]; omega)
          have HR : Hid (∀ ty, (Builtin.append_ #[43, 43] ty #[u9, whole ql 1]).run Tryd.prog Z2 = .ok vF2 Z3) := (fun ty => (appTy ty 43 _ _).trans hr_)
          refine wl rfl vF2 Z3 (run_append (.tmp 58) (.tmp 60) rfl u9 (whole ql 1) vF2 rfl rfl (HR.out _)) ?_
          rw [HXR.out.2.2, ← plTo_succ] at hp_
          replace HA : Hid (Ag w Z3 c2 gp gh gf gm gs gr m2 n (usAt (n / 16) L (i + 1)) (20 * (i + 1)) vF2 (plTo (n / 16) L (i + 1)) (Value.slice none 0 0) []) := HA.out.growF hg_ hp_ hat_
          clear hr_ hp_ hg_ hat_ HR
          simp only [Act.put, aS, aC, aZ]
          refine wl rfl vF2 _ (run_asZ (.tmp 61) rfl vF2 rfl) ?_
          simp only [Act.put, aS, aC, aZ]
          refine wpList_nil ?_
          go_wp2_with fail
          refine ⟨⟨i + 1, by go_num, by omega, ⟨c2, m2, HA.out⟩⟩, ?_⟩
          simp [intOf]; omega
        · have h5 : ¬ er = 5 := (by omega)
          go_upto_region 12 with fail
          refine wp_region_lit ?_
          refine wl rfl (.int .i64 er) _ (run_mvZ (.tmp 12) rfl (.int .i64 er) rfl) ?_
          simp only [Act.put, aS, aC, aZ]
          refine wl rfl (.bool false) _ (run_eqZ (.tmp 49) (.const (.int .i64 5)) rfl er 5 rfl rfl false (decide_eq_false h5)) ?_
          simp only [Act.put, aS, aC, aZ]
          refine wl rfl (.bool false) _ (run_mvZ (.tmp 50) rfl (.bool false) rfl) ?_
          simp only [Act.put, aS, aC, aZ]
          refine wl (by kernel_rfl) (.int .i64 er) _ (run_mvZ (.tmp 12) rfl (.int .i64 er) rfl) ?_
          simp only [Act.put, aS, aC, aZ]
          refine wl (by kernel_rfl) (.bool true) _ (run_eqZ (.tmp 52) (.const (.int .i64 3)) rfl er 3 rfl rfl true (decide_eq_true hz)) ?_
          simp only [Act.put, aS, aC, aZ]
          refine wl rfl (.bool true) _ (run_pickZ (.tmp 51) (.const (.bool true)) (.tmp 53) rfl false (.bool true) rfl rfl) ?_
          simp only [Act.put, aS, aC, aZ]
          refine wpList_nil ?_
          go_upto_region 13 with fail
          refine wp_region_lit ?_
          refine wl rfl (.agg (plC 0 0 0 false).toArray) _ (run_build30z rfl) ?_
          simp only [Act.put, aS, aC, aZ]
          refine wlS rfl rfl _ (run_storeA ag30 (.tmp 11) (.tmp 55) rfl q11 30 rfl (plC 0 0 0 false) _ rfl rfl HQ.out.1 rfl (plC_one _ _ _ _)) ?_
          have hb_ := (Ch.setRow (S := (· = q11)) (Ch.refl _ Y3) (Or.inl rfl) (plC 0 0 0 false).toArray)
          have r_ := HQ.out.1.setRow (plC 0 0 0 false)
          obtain ⟨Z1, hW_⟩ : ∃ U_ : World, U_ = Y3.setRow q11 (plC 0 0 0 false).toArray := ⟨_, rfl⟩
          rw [← hW_] at hb_ r_ ⊢
          replace HA : Hid (Ag w Z1 c2 gp gh gf gm gs gr m2 n (usAt (n / 16) L (i + 1)) (20 * (i + 1)) u9 (plTo (n / 16) L i) (Value.slice none 0 0) []) := HA.out.put hb_ HQ.out.2.1 (row_ne HA.out.st HQ.out.1 (by decide)) HQ.out.2.2.1 HQ.out.2.2.2
          replace HQ : Hid (Row Z1 q11 30 x.cells ∧ Out w Z1 c2 gh gf gm q11 ∧ (∀ b, u9.ownBlock = some b → b ≠ q11) ∧ (∀ b, (Value.slice none 0 0).ownBlock = some b → b ≠ q11)) := ⟨(by rw [hxz]; exact r_), HQ.out.2.1.bel hb_.size, HQ.out.2.2⟩
          clear r_ hb_ hW_
          refine wpList_nil ?_
          go_upto_region 16 with fail
          refine wp_region_lit ?_
          refine wl rfl u9 _ (run_mvZ (.tmp 9) rfl u9 rfl) ?_
          simp only [Act.put, aS, aC, aZ]
          refine wl rfl (.agg (x.cells).toArray) _ (run_loadA ag30 (.tmp 11) rfl q11 (0) rfl (x.cells) rfl (rows_one HQ.out.1)) ?_
          simp only [Act.put, aS, aC, aZ]
          refine wl rfl (whole Z1.heap.size 1) _ (run_lit43 (.tmp 59) rfl x.dv x.at_ x.ln x.bd rfl) ?_
          have hb_ := below_alloc Z1 (.cells x.cells.toArray 30)
          have r_ := Row.new Z1 30 x.cells
          obtain ⟨Z2, hW_⟩ : ∃ U_ : World, U_ = Z1.alloc (.cells x.cells.toArray 30) := ⟨_, rfl⟩
          obtain ⟨ql, hq_⟩ : ∃ q, q = Z1.heap.size := ⟨_, rfl⟩
          rw [← hW_] at hb_
          rw [← hW_, ← hq_] at r_
          show wpList _ _ _ _ (Act.put _ _ (whole Z1.heap.size 1)) (Z1.alloc (.cells x.cells.toArray 30))
          rw [← hW_, ← hq_]
          replace HA : Hid (Ag w Z2 c2 gp gh gf gm gs gr m2 n (usAt (n / 16) L (i + 1)) (20 * (i + 1)) u9 (plTo (n / 16) L i) (Value.slice none 0 0) []) := HA.out.bel hb_
          have HL1 : Hid (Row Z2 ql 30 x.cells) := r_
          clear r_ hb_ hW_ hq_
          simp only [Act.put, aS, aC, aZ]
          obtain ⟨vF2, Z3, hr_, hp_, hg_, hat_⟩ := papp_one (w := Z2) 43 u9 _ HA.out.f HL1.out (by rw [plTo_length]; omega)
          have HR : Hid (∀ ty, (Builtin.append_ #[43, 43] ty #[u9, whole ql 1]).run Tryd.prog Z2 = .ok vF2 Z3) := (fun ty => (appTy ty 43 _ _).trans hr_)
          refine wl rfl vF2 Z3 (run_append (.tmp 58) (.tmp 60) rfl u9 (whole ql 1) vF2 rfl rfl (HR.out _)) ?_
          rw [HXR.out.2.2, ← plTo_succ] at hp_
          replace HA : Hid (Ag w Z3 c2 gp gh gf gm gs gr m2 n (usAt (n / 16) L (i + 1)) (20 * (i + 1)) vF2 (plTo (n / 16) L (i + 1)) (Value.slice none 0 0) []) := HA.out.growF hg_ hp_ hat_
          clear hr_ hp_ hg_ hat_ HR
          simp only [Act.put, aS, aC, aZ]
          refine wl rfl vF2 _ (run_asZ (.tmp 61) rfl vF2 rfl) ?_
          simp only [Act.put, aS, aC, aZ]
          refine wpList_nil ?_
          go_wp2_with fail
          refine ⟨⟨i + 1, by go_num, by omega, ⟨c2, m2, HA.out⟩⟩, ?_⟩
          simp [intOf]; omega
        · go_upto_region 12 with fail
          refine wp_region_lit ?_
          refine wl rfl (.int .i64 er) _ (run_mvZ (.tmp 12) rfl (.int .i64 er) rfl) ?_
          simp only [Act.put, aS, aC, aZ]
          refine wl rfl (.bool true) _ (run_eqZ (.tmp 49) (.const (.int .i64 5)) rfl er 5 rfl rfl true (decide_eq_true hz)) ?_
          simp only [Act.put, aS, aC, aZ]
          refine wl rfl (.bool true) _ (run_mvZ (.tmp 50) rfl (.bool true) rfl) ?_
          simp only [Act.put, aS, aC, aZ]
          refine wpList_skip (by kernel_rfl) ?_
          simp only [Act.put, aS, aC, aZ]
          refine wpList_skip (by kernel_rfl) ?_
          simp only [Act.put, aS, aC, aZ]
          refine wl rfl (.bool true) _ (run_pickZ (.tmp 51) (.const (.bool true)) (.tmp 53) rfl true (.bool true) rfl rfl) ?_
          simp only [Act.put, aS, aC, aZ]
          refine wpList_nil ?_
          go_upto_region 13 with fail
          refine wp_region_lit ?_
          refine wl rfl (.agg (plC 0 0 0 false).toArray) _ (run_build30z rfl) ?_
          simp only [Act.put, aS, aC, aZ]
          refine wlS rfl rfl _ (run_storeA ag30 (.tmp 11) (.tmp 55) rfl q11 30 rfl (plC 0 0 0 false) _ rfl rfl HQ.out.1 rfl (plC_one _ _ _ _)) ?_
          have hb_ := (Ch.setRow (S := (· = q11)) (Ch.refl _ Y3) (Or.inl rfl) (plC 0 0 0 false).toArray)
          have r_ := HQ.out.1.setRow (plC 0 0 0 false)
          obtain ⟨Z1, hW_⟩ : ∃ U_ : World, U_ = Y3.setRow q11 (plC 0 0 0 false).toArray := ⟨_, rfl⟩
          rw [← hW_] at hb_ r_ ⊢
          replace HA : Hid (Ag w Z1 c2 gp gh gf gm gs gr m2 n (usAt (n / 16) L (i + 1)) (20 * (i + 1)) u9 (plTo (n / 16) L i) (Value.slice none 0 0) []) := HA.out.put hb_ HQ.out.2.1 (row_ne HA.out.st HQ.out.1 (by decide)) HQ.out.2.2.1 HQ.out.2.2.2
          replace HQ : Hid (Row Z1 q11 30 x.cells ∧ Out w Z1 c2 gh gf gm q11 ∧ (∀ b, u9.ownBlock = some b → b ≠ q11) ∧ (∀ b, (Value.slice none 0 0).ownBlock = some b → b ≠ q11)) := ⟨(by rw [hxz]; exact r_), HQ.out.2.1.bel hb_.size, HQ.out.2.2⟩
          clear r_ hb_ hW_
          refine wpList_nil ?_
          go_upto_region 16 with fail
          refine wp_region_lit ?_
          refine wl rfl u9 _ (run_mvZ (.tmp 9) rfl u9 rfl) ?_
          simp only [Act.put, aS, aC, aZ]
          refine wl rfl (.agg (x.cells).toArray) _ (run_loadA ag30 (.tmp 11) rfl q11 (0) rfl (x.cells) rfl (rows_one HQ.out.1)) ?_
          simp only [Act.put, aS, aC, aZ]
          refine wl rfl (whole Z1.heap.size 1) _ (run_lit43 (.tmp 59) rfl x.dv x.at_ x.ln x.bd rfl) ?_
          have hb_ := below_alloc Z1 (.cells x.cells.toArray 30)
          have r_ := Row.new Z1 30 x.cells
          obtain ⟨Z2, hW_⟩ : ∃ U_ : World, U_ = Z1.alloc (.cells x.cells.toArray 30) := ⟨_, rfl⟩
          obtain ⟨ql, hq_⟩ : ∃ q, q = Z1.heap.size := ⟨_, rfl⟩
          rw [← hW_] at hb_
          rw [← hW_, ← hq_] at r_
          show wpList _ _ _ _ (Act.put _ _ (whole Z1.heap.size 1)) (Z1.alloc (.cells x.cells.toArray 30))
          rw [← hW_, ← hq_]
          replace HA : Hid (Ag w Z2 c2 gp gh gf gm gs gr m2 n (usAt (n / 16) L (i + 1)) (20 * (i + 1)) u9 (plTo (n / 16) L i) (Value.slice none 0 0) []) := HA.out.bel hb_
          have HL1 : Hid (Row Z2 ql 30 x.cells) := r_
          clear r_ hb_ hW_ hq_
          simp only [Act.put, aS, aC, aZ]
          obtain ⟨vF2, Z3, hr_, hp_, hg_, hat_⟩ := papp_one (w := Z2) 43 u9 _ HA.out.f HL1.out (by rw [plTo_length]; omega)
          have HR : Hid (∀ ty, (Builtin.append_ #[43, 43] ty #[u9, whole ql 1]).run Tryd.prog Z2 = .ok vF2 Z3) := (fun ty => (appTy ty 43 _ _).trans hr_)
          refine wl rfl vF2 Z3 (run_append (.tmp 58) (.tmp 60) rfl u9 (whole ql 1) vF2 rfl rfl (HR.out _)) ?_
          rw [HXR.out.2.2, ← plTo_succ] at hp_
          replace HA : Hid (Ag w Z3 c2 gp gh gf gm gs gr m2 n (usAt (n / 16) L (i + 1)) (20 * (i + 1)) vF2 (plTo (n / 16) L (i + 1)) (Value.slice none 0 0) []) := HA.out.growF hg_ hp_ hat_
          clear hr_ hp_ hg_ hat_ HR
          simp only [Act.put, aS, aC, aZ]
          refine wl rfl vF2 _ (run_asZ (.tmp 61) rfl vF2 rfl) ?_
          simp only [Act.put, aS, aC, aZ]
          refine wpList_nil ?_
          go_wp2_with fail
          refine ⟨⟨i + 1, by go_num, by omega, ⟨c2, m2, HA.out⟩⟩, ?_⟩
          simp [intOf]; omega
    · go_upto_region 9 with fail
      refine wp_region_lit ?_
      refine wl rfl (.int .i64 (i : Nat)) _ (run_mvZ (.tmp 10) rfl (.int .i64 (i : Nat)) rfl) ?_
      simp only [Act.put, aS, aC, aZ]
      refine wl rfl vl _ (run_mvZ (.tmp 1) rfl vl rfl) ?_
      simp only [Act.put, aS, aC, aZ]
      refine wl rfl (.int .i64 (L.length : Nat)) _ (run_lenR HM.out.2.2.1 (.tmp 32) rfl rfl) ?_
      simp only [Act.put, aS, aC, aZ]
      refine wl rfl (.bool false) _ (run_lssZ (.tmp 31) (.tmp 33) rfl (i : Nat) (L.length : Nat) rfl rfl false (decide_eq_false (by omega))) ?_
      simp only [Act.put, aS, aC, aZ]
      refine wpList_nil ?_
      obtain ⟨N, hN⟩ : ∃ N, N = L.length := ⟨_, rfl⟩
      have ei : i = N := (by omega)
      subst ei
      have HNL : Hid (i = L.length) := hN
      clear hN
      obtain ⟨WA, hWA⟩ : ∃ U_ : World, U_ = wr := ⟨_, rfl⟩
      rw [← hWA]
      have HB0 : Hid (Ag w WA ci gp gh gf gm gs gr mi n (usAt (n / 16) L i) (20 * i) u9 (plTo (n / 16) L i) (Value.slice none 0 0) []) := (by rw [hWA]; exact HI.out)
      clear HI hWA
      go_upto_region 17 with fail
      refine wp_region_lit ?_
      refine wl rfl (.slice (some ⟨WA.heap.size, 0, none⟩) 0 0) _ (run_plit0 rfl) ?_
      have hb_ := below_alloc WA (.cells #[] 30)
      have p_ := plit0_row WA
      obtain ⟨WB, hW_⟩ : ∃ U_ : World, U_ = WA.alloc (.cells #[] 30) := ⟨_, rfl⟩
      obtain ⟨vL0, hv_⟩ : ∃ v : Value, v = .slice (some ⟨WA.heap.size, 0, none⟩) 0 0 := ⟨_, rfl⟩
      have ob_ : vL0.ownBlock = some WA.heap.size := (by rw [hv_]; rfl)
      rw [← hW_] at hb_ p_ ⊢
      rw [← hv_] at p_ ⊢
      have H4 : Hid (Ag w WB ci gp gh gf gm gs gr mi n (usAt (n / 16) L i) (20 * i) u9 (plTo (n / 16) L i) vL0 []) := (HB0.out.bel hb_).newL p_ fun b e => (by rw [ob_] at e; injection e with e; subst e; exact ⟨Out.new HB0.out.h (Nat.le_refl _) (p_.lt ob_), fun e' => absurd (HB0.out.f.lt e') (Nat.lt_irrefl _)⟩)
      clear hb_ p_ hW_ hv_ ob_
      simp only [Act.put, aS, aC, aZ]
      refine wl rfl vL0 _ (run_asZ (.tmp 62) rfl vL0 rfl) ?_
      simp only [Act.put, aS, aC, aZ]
      refine wpList_nil ?_
      go_upto_region 18 with fail
      refine wp_region_lit ?_
      refine wl rfl (.int .i64 0) _ (run_asZ (.const (.int .i64 0)) rfl (.int .i64 0) rfl) ?_
      simp only [Act.put, aS, aC, aZ]
      refine wpList_nil ?_
      have hiL : i ≤ 10000000 := (by have := HNL.out; omega)
      clear hlt hi
      go_wp2_with fail
      go_loopw [13, 14] (fun vL vj W => ∃ j : Nat, vj = .int .i64 (j : Nat) ∧ j ≤ i ∧ Hid (Ag w W ci gp gh gf gm gs gr mi n (usAt (n / 16) L i) (20 * i) u9 (plTo (n / 16) L i) vL ((plTo (n / 16) L j).filter fun x => decide (0 < x.ln)))) (fun _ vj _ => i - (intOf vj).toNat)
      case atStart => exact ⟨0, rfl, Nat.zero_le _, H4.out⟩
      case round =>
        obtain ⟨j, rfl, hj, HI⟩ := hrel
        have hpl : (plTo (n / 16) L i).length = i := plTo_length _ _ _
        have HPL : Hid ((plTo (n / 16) L i).length = i) := hpl
        clear hpl
        by_cases hlt : j < i
        · go_upto_region 19 with fail
          refine wp_region_lit ?_
          refine wl rfl (.int .i64 (j : Nat)) _ (run_mvZ (.tmp 14) rfl (.int .i64 (j : Nat)) rfl) ?_
          simp only [Act.put, aS, aC, aZ]
          refine wl rfl u9 _ (run_mvZ (.tmp 9) rfl u9 rfl) ?_
          simp only [Act.put, aS, aC, aZ]
          refine wl rfl (.int .i64 (i : Nat)) _ (run_lenPI HI.out.f HPL.out (.tmp 64) rfl rfl) ?_
          simp only [Act.put, aS, aC, aZ]
          refine wl rfl (.bool true) _ (run_lssZ (.tmp 63) (.tmp 65) rfl (j : Nat) (i : Nat) rfl rfl true (decide_eq_true (by omega))) ?_
          simp only [Act.put, aS, aC, aZ]
          refine wpList_nil ?_
          obtain ⟨bF, _, hx_, hc_⟩ := HI.out.f.ix j (by rw [HPL.out]; exact hlt)
          rw [plTo_at _ _ _ _ hlt] at hc_
          obtain ⟨x, hx⟩ : ∃ x, x = plAt (n / 16) L j := ⟨_, rfl⟩
          rw [← hx] at hc_
          have HX : Hid ((∀ w', (Instr.indexAt 43 u9 (.int .i64 (j : Nat))).run Tryd.prog w' = .ok (.pointer (some ⟨bF, j * 4, none⟩)) w') ∧ (∀ (k : Nat) u, x.cells[k]? = some u → wr.cell? ⟨bF, j * 4 + k, none⟩ = some u) ∧ x = plAt (n / 16) L j) := ⟨hx_, hc_ wr HI.out.f, hx⟩
          clear hx_ hc_ hx
          by_cases hpos : 0 < x.ln
          · go_upto_region 21 with fail
            refine wp_region_lit ?_
            refine wl rfl u9 _ (run_mvZ (.tmp 9) rfl u9 rfl) ?_
            simp only [Act.put, aS, aC, aZ]
            refine wl rfl (.int .i64 (j : Nat)) _ (run_mvZ (.tmp 14) rfl (.int .i64 (j : Nat)) rfl) ?_
            simp only [Act.put, aS, aC, aZ]
            refine wl rfl (.pointer (some ⟨bF, j * 4, none⟩)) _ (run_idx (.tmp 69) (.tmp 70) rfl _ _ _ rfl rfl HX.out.1) ?_
            simp only [Act.put, aS, aC, aZ]
            refine wl rfl (.pointer (some ⟨bF, j * 4 + 2, none⟩)) _ (run_fieldOp' f30_2 (.tmp 71) rfl bF (j * 4) rfl) ?_
            simp only [Act.put, aS, aC, aZ]
            refine wl rfl (.int .i64 x.ln) _ (run_load1 o3 (.tmp 72) rfl bF (j * 4 + 2) rfl (.int .i64 x.ln) (HX.out.2.1 2 _ rfl)) ?_
            simp only [Act.put, aS, aC, aZ]
            refine wl rfl (.bool true) _ (run_gtrZ (.tmp 73) (.const (.int .i64 0)) rfl x.ln 0 rfl rfl true (decide_eq_true hpos)) ?_
            simp only [Act.put, aS, aC, aZ]
            refine wpList_nil ?_
            go_upto_region 22 with fail
            refine wp_region_lit ?_
            refine wl rfl u13 _ (run_mvZ (.tmp 13) rfl u13 rfl) ?_
            simp only [Act.put, aS, aC, aZ]
            refine wl rfl u9 _ (run_mvZ (.tmp 9) rfl u9 rfl) ?_
            simp only [Act.put, aS, aC, aZ]
            refine wl rfl (.int .i64 (j : Nat)) _ (run_mvZ (.tmp 14) rfl (.int .i64 (j : Nat)) rfl) ?_
            simp only [Act.put, aS, aC, aZ]
            refine wl rfl (.pointer (some ⟨bF, j * 4, none⟩)) _ (run_idx (.tmp 76) (.tmp 77) rfl _ _ _ rfl rfl HX.out.1) ?_
            simp only [Act.put, aS, aC, aZ]
            refine wl rfl (.agg (x.cells).toArray) _ (run_loadA ag30 (.tmp 78) rfl bF (j * 4) rfl (x.cells) rfl HX.out.2.1) ?_
            simp only [Act.put, aS, aC, aZ]
            refine wl rfl (whole wr.heap.size 1) _ (run_lit43 (.tmp 79) rfl x.dv x.at_ x.ln x.bd rfl) ?_
            have hb_ := below_alloc wr (.cells x.cells.toArray 30)
            have r_ := Row.new wr 30 x.cells
            obtain ⟨Z2, hW_⟩ : ∃ U_ : World, U_ = wr.alloc (.cells x.cells.toArray 30) := ⟨_, rfl⟩
            obtain ⟨ql, hq_⟩ : ∃ q, q = wr.heap.size := ⟨_, rfl⟩
            rw [← hW_] at hb_
            rw [← hW_, ← hq_] at r_
            show wpList _ _ _ _ (Act.put _ _ (whole wr.heap.size 1)) (wr.alloc (.cells x.cells.toArray 30))
            rw [← hW_, ← hq_]
            have HA : Hid (Ag w Z2 ci gp gh gf gm gs gr mi n (usAt (n / 16) L i) (20 * i) u9 (plTo (n / 16) L i) u13 ((plTo (n / 16) L j).filter fun x => decide (0 < x.ln))) := HI.out.bel hb_
            have HL1 : Hid (Row Z2 ql 30 x.cells) := r_
            clear r_ hb_ hW_ hq_
            simp only [Act.put, aS, aC, aZ]
            obtain ⟨vF2, Z3, hr_, hp_, hg_, hat_⟩ := papp_one (w := Z2) 43 u13 _ HA.out.l HL1.out (by have h_ := List.length_filter_le (fun x : Pq => decide (0 < x.ln)) (plTo (n / 16) L j); rw [plTo_length] at h_; omega)
            have HR : Hid (∀ ty, (Builtin.append_ #[43, 43] ty #[u13, whole ql 1]).run Tryd.prog Z2 = .ok vF2 Z3) := (fun ty => (appTy ty 43 _ _).trans hr_)
            refine wl rfl vF2 Z3 (run_append (.tmp 75) (.tmp 80) rfl u13 (whole ql 1) vF2 rfl rfl (HR.out _)) ?_
            replace HA : Hid (Ag w Z3 ci gp gh gf gm gs gr mi n (usAt (n / 16) L i) (20 * i) u9 (plTo (n / 16) L i) vF2 ((plTo (n / 16) L (j + 1)).filter fun x => decide (0 < x.ln))) := (by rw [plTo_succ, List.filter_append, ← HX.out.2.2]; rw [show ([x].filter fun x => decide (0 < x.ln)) = [x] from List.filter_cons_of_pos (decide_eq_true hpos)]; exact HA.out.growL hg_ hp_ hat_)
            clear hr_ hp_ hg_ hat_ HR
            simp only [Act.put, aS, aC, aZ]
            refine wl rfl vF2 _ (run_asZ (.tmp 81) rfl vF2 rfl) ?_
            simp only [Act.put, aS, aC, aZ]
            refine wpList_nil ?_
            clear hpos
            go_wp2_with fail
            refine ⟨⟨j + 1, by go_num, by omega, HA.out⟩, ?_⟩
            simp [intOf]; omega
          · go_upto_region 21 with fail
            refine wp_region_lit ?_
            refine wl rfl u9 _ (run_mvZ (.tmp 9) rfl u9 rfl) ?_
            simp only [Act.put, aS, aC, aZ]
            refine wl rfl (.int .i64 (j : Nat)) _ (run_mvZ (.tmp 14) rfl (.int .i64 (j : Nat)) rfl) ?_
            simp only [Act.put, aS, aC, aZ]
            refine wl rfl (.pointer (some ⟨bF, j * 4, none⟩)) _ (run_idx (.tmp 69) (.tmp 70) rfl _ _ _ rfl rfl HX.out.1) ?_
            simp only [Act.put, aS, aC, aZ]
            refine wl rfl (.pointer (some ⟨bF, j * 4 + 2, none⟩)) _ (run_fieldOp' f30_2 (.tmp 71) rfl bF (j * 4) rfl) ?_
            simp only [Act.put, aS, aC, aZ]
            refine wl rfl (.int .i64 x.ln) _ (run_load1 o3 (.tmp 72) rfl bF (j * 4 + 2) rfl (.int .i64 x.ln) (HX.out.2.1 2 _ rfl)) ?_
            simp only [Act.put, aS, aC, aZ]
            refine wl rfl (.bool false) _ (run_gtrZ (.tmp 73) (.const (.int .i64 0)) rfl x.ln 0 rfl rfl false (decide_eq_false hpos)) ?_
            simp only [Act.put, aS, aC, aZ]
            refine wpList_nil ?_
            have HA : Hid (Ag w wr ci gp gh gf gm gs gr mi n (usAt (n / 16) L i) (20 * i) u9 (plTo (n / 16) L i) u13 ((plTo (n / 16) L (j + 1)).filter fun x => decide (0 < x.ln))) := (by rw [plTo_succ, List.filter_append, ← HX.out.2.2]; rw [show ([x].filter fun x => decide (0 < x.ln)) = [] from List.filter_cons_of_neg (by simpa using hpos)]; rw [List.append_nil]; exact HI.out)
            clear hpos
            go_wp2_with fail
            refine ⟨⟨j + 1, by go_num, by omega, HA.out⟩, ?_⟩
            simp [intOf]; omega
        · go_upto_region 19 with fail
          refine wp_region_lit ?_
          refine wl rfl (.int .i64 (j : Nat)) _ (run_mvZ (.tmp 14) rfl (.int .i64 (j : Nat)) rfl) ?_
          simp only [Act.put, aS, aC, aZ]
          refine wl rfl u9 _ (run_mvZ (.tmp 9) rfl u9 rfl) ?_
          simp only [Act.put, aS, aC, aZ]
          refine wl rfl (.int .i64 (i : Nat)) _ (run_lenPI HI.out.f HPL.out (.tmp 64) rfl rfl) ?_
          simp only [Act.put, aS, aC, aZ]
          refine wl rfl (.bool false) _ (run_lssZ (.tmp 63) (.tmp 65) rfl (j : Nat) (i : Nat) rfl rfl false (decide_eq_false (by omega))) ?_
          simp only [Act.put, aS, aC, aZ]
          refine wpList_nil ?_
          have ej : j = i := (by omega)
          subst ej
          obtain ⟨WC, hWC⟩ : ∃ U_ : World, U_ = wr := ⟨_, rfl⟩
          rw [← hWC]
          have H5 : Hid (Ag w WC ci gp gh gf gm gs gr mi n (usAt (n / 16) L j) (20 * j) u9 (plTo (n / 16) L j) u13 ((usAt (n / 16) L j).map toP) ∧ (usAt (n / 16) L j).length ≤ j) := ⟨(by rw [← usAt_filter, hWC]; exact HI.out), usAt_len _ _ _⟩
          clear HI hWC HPL hlt hj
          go_upto_region 23 with fail
          refine wp_region_lit ?_
          refine wl rfl (.int .i64 0) _ (run_asZ (.const (.int .i64 0)) rfl (.int .i64 0) rfl) ?_
          simp only [Act.put, aS, aC, aZ]
          refine wpList_nil ?_
          go_wp2_with fail
          go_loopw [13, 15] (fun vL vp W => ∃ p : Nat, vp = .int .i64 (p : Nat) ∧ Hid (∃ us : List (Nat × List Nat), (Ag w W ci gp gh gf gm gs gr mi n us (20 * j) u9 (plTo (n / 16) L j) vL (us.map toP)) ∧ p + us.length ≤ j)) (fun vL _ _ => sliceLen vL)
          case atStart => exact ⟨0, rfl, ⟨_, H5.out.1, by have := H5.out.2; omega⟩⟩
          case round =>
            obtain ⟨p, rfl, HI0⟩ := hrel
            obtain ⟨us, hI⟩ := HI0.out
            have hlu : (us.map toP).length = us.length := List.length_map _
            have HI : Hid ((Ag w wr ci gp gh gf gm gs gr mi n us (20 * j) u9 (plTo (n / 16) L j) u13 (us.map toP)) ∧ p + us.length ≤ j ∧ (us.map toP).length = us.length) := ⟨hI.1, hI.2, hlu⟩
            have hpj : p + us.length ≤ j := hI.2
            clear hI HI0 hlu
            by_cases hlt : 0 < us.length
            · go_upto_region 24 with fail
              refine wp_region_lit ?_
              refine wl rfl u13 _ (run_mvZ (.tmp 13) rfl u13 rfl) ?_
              simp only [Act.put, aS, aC, aZ]
              refine wl rfl (.int .i64 (us.length : Nat)) _ (run_lenPI HI.out.1.l HI.out.2.2 (.tmp 82) rfl rfl) ?_
              simp only [Act.put, aS, aC, aZ]
              refine wl rfl (.bool true) _ (run_gtrZ (.tmp 83) (.const (.int .i64 0)) rfl (us.length : Nat) 0 rfl rfl true (decide_eq_true (by omega))) ?_
              simp only [Act.put, aS, aC, aZ]
              refine wpList_nil ?_
              obtain ⟨k0, hk0_⟩ : ∃ x : Nat, x = 0 := ⟨_, rfl⟩
              have HK0 : Hid (k0 = 0) := hk0_
              clear hk0_
              go_upto_region 26 with fail
              refine wp_region_lit ?_
              refine wl rfl (.int .i64 (k0 : Nat)) _ ((by rw [HK0.out]; exact run_asZ (.const (.int .i64 0)) rfl (.int .i64 0) rfl)) ?_
              simp only [Act.put, aS, aC, aZ]
              refine wpList_nil ?_
              by_cases hord : p < ks.length
              · obtain ⟨bo, jo, hx_, hc_⟩ := HM.out.2.2.2.1.ix p hord
                obtain ⟨kz, hkz⟩ : ∃ x, x = ks.getD p 0 := ⟨_, rfl⟩
                rw [← hkz] at hc_
                have HO : Hid ((∀ w', (Instr.indexAt 31 vo (.int .i64 (p : Nat))).run Tryd.prog w' = .ok (.pointer (some ⟨bo, jo, none⟩)) w') ∧ wr.cell? ⟨bo, jo, none⟩ = some (.int .i64 kz) ∧ -9223372036854775808 ≤ kz ∧ kz ≤ 9223372036854775807) := ⟨hx_, hc_ wr HI.out.1.h.pl.below, (by rw [hkz, List.getD_eq_getElem?_getD, List.getElem?_eq_getElem hord]; exact HM.out.2.2.2.2.1 _ (List.getElem_mem hord))⟩
                clear hx_ hc_ hkz
                obtain ⟨kk, hk_⟩ : ∃ x, x = whichOf kz us.length := ⟨_, rfl⟩
                have HKK : Hid (kk = whichOf kz us.length) := hk_
                have hkk : kk < us.length := (by rw [hk_]; exact whichOf_lt _ _ hlt)
                clear hk_
                go_upto_region 27 with fail
                refine wp_region_lit ?_
                refine wl rfl (.int .i64 (p : Nat)) _ (run_mvZ (.tmp 15) rfl (.int .i64 (p : Nat)) rfl) ?_
                simp only [Act.put, aS, aC, aZ]
                refine wl rfl vo _ (run_mvZ (.tmp 2) rfl vo rfl) ?_
                simp only [Act.put, aS, aC, aZ]
                refine wl rfl (.int .i64 (ks.length : Nat)) _ (run_lenI31 HM.out.2.2.2.1 (.tmp 88) rfl rfl) ?_
                simp only [Act.put, aS, aC, aZ]
                refine wl rfl (.bool true) _ (run_lssZ (.tmp 87) (.tmp 89) rfl (p : Nat) (ks.length : Nat) rfl rfl true (decide_eq_true (by omega))) ?_
                simp only [Act.put, aS, aC, aZ]
                refine wpList_nil ?_
                go_upto_region 28 with fail
                refine wp_region_lit ?_
                refine wl rfl vo _ (run_mvZ (.tmp 2) rfl vo rfl) ?_
                simp only [Act.put, aS, aC, aZ]
                refine wl rfl (.int .i64 (p : Nat)) _ (run_mvZ (.tmp 15) rfl (.int .i64 (p : Nat)) rfl) ?_
                simp only [Act.put, aS, aC, aZ]
                refine wl rfl (.pointer (some ⟨bo, jo, none⟩)) _ (run_idx (.tmp 91) (.tmp 92) rfl _ _ _ rfl rfl HO.out.1) ?_
                simp only [Act.put, aS, aC, aZ]
                refine wl rfl (.int .i64 kz) _ (run_load1 o3 (.tmp 93) rfl bo (jo) rfl (.int .i64 kz) HO.out.2.1) ?_
                simp only [Act.put, aS, aC, aZ]
                refine wl rfl u13 _ (run_mvZ (.tmp 13) rfl u13 rfl) ?_
                simp only [Act.put, aS, aC, aZ]
                refine wl rfl (.int .i64 (us.length : Nat)) _ (run_lenPI HI.out.1.l HI.out.2.2 (.tmp 95) rfl rfl) ?_
                simp only [Act.put, aS, aC, aZ]
                refine wpList_callW eN11 [.tmp 94, .tmp 96] _ rfl rfl [(.int .i64 kz), (.int .i64 (us.length : Nat))] rfl ?_
                refine (which_any wr kz us.length hlt HO.out.2.2.1 HO.out.2.2.2).mono ?_
                rintro e W_ ⟨he_, rfl⟩
                rw [← HKK.out] at he_
                subst he_
                refine ⟨_, rfl, ?_⟩
                simp only [Act.put, aS, aC, aZ]
                refine wl rfl (.int .i64 (kk : Nat)) _ (run_asZ (.tmp 97) rfl (.int .i64 (kk : Nat)) rfl) ?_
                simp only [Act.put, aS, aC, aZ]
                refine wpList_nil ?_
                obtain ⟨bL, _, hx_, hc_⟩ := HI.out.1.l.ix kk (by rw [HI.out.2.2]; exact hkk)
                rw [getD_map_toP hkk] at hc_
                obtain ⟨u, hu⟩ : ∃ u, u = us.getD kk default := ⟨_, rfl⟩
                rw [← hu] at hc_
                have HX : Hid ((∀ w', (Instr.indexAt 43 u13 (.int .i64 (kk : Nat))).run Tryd.prog w' = .ok (.pointer (some ⟨bL, kk * 4, none⟩)) w') ∧ (∀ W : World, PlO W u13 (us.map toP) → ∀ (k : Nat) x, (toP u).cells[k]? = some x → W.cell? ⟨bL, kk * 4 + k, none⟩ = some x) ∧ u = us.getD kk default) := ⟨hx_, hc_, hu⟩
                clear hx_ hc_ hu
                go_upto_region 29 with fail
                refine wp_region_until (S := fun X => Row X gs 38 (scells gp gh gr 0 0) ∧ PlO X u13 (us.map toP)) 8 (by kernel_rfl) ?_
                show wpAnyU _ _ _ _ _ _ 10 (Array.replicate 10 false) _ _
                obtain ⟨X, hX⟩ : ∃ X : World, X = { wr with drawn := wr.drawn + 1 } := ⟨_, rfl⟩
                rw [← hX]
                have HAX : Hid (Ag w X ci gp gh gf gm gs gr mi n us (20 * j) u9 (plTo (n / 16) L j) u13 (us.map toP)) := (by rw [hX]; exact HI.out.1.bel ⟨rfl, rfl, rfl, Nat.le_refl _, fun _ _ => rfl⟩)
                have HS_ : Row X gs 38 (scells gp gh gr 0 0) ∧ PlO X u13 (us.map toP) := ⟨HAX.out.st, HAX.out.l⟩
                clear hX
                refine takeV (i := 0) [1, 2, 3, 8] (some 98) rfl rfl (by kernel_rfl) (by kernel_rfl) (by kernel_rfl) (by kernel_rfl) (fun _ _ _ h => h) (gRun rfl (ptr gs) fun _ h => run_mvZ (.tmp 8) rfl (ptr gs) rfl) HS_ ?_
                simp only [Act.put, aS, aC, aZ]
                refine takeV (i := 1) [2, 3, 8] (some 99) rfl rfl (by kernel_rfl) (by kernel_rfl) (by kernel_rfl) (by kernel_rfl) (fun _ _ _ h => h) (gRun rfl (ptr gs) fun _ h => run_nil (.tmp 98) rfl ⟨gs, 0, none⟩ rfl) HS_ ?_
                simp only [Act.put, aS, aC, aZ]
                refine takeV (i := 2) [3, 8] (some 100) rfl rfl (by kernel_rfl) (by kernel_rfl) (by kernel_rfl) (by kernel_rfl) (fun _ _ _ h => h) (gRun rfl (.pointer (some ⟨gs, 0 + 1, none⟩)) fun _ h => run_fieldOp' f38_1 (.tmp 99) rfl gs (0) rfl) HS_ ?_
                simp only [Act.put, aS, aC, aZ]
                refine takeV (i := 3) [8] (some 101) rfl rfl (by kernel_rfl) (by kernel_rfl) (by kernel_rfl) (by kernel_rfl) (fun _ _ _ h => h) (gRun rfl (ptr gh) fun _ h => run_load1 o35 (.tmp 100) rfl gs (0 + 1) rfl (ptr gh) (h.1.at 1 _ rfl)) HS_ ?_
                simp only [Act.put, aS, aC, aZ]
                refine takeV (i := 4) [6, 7, 8] (some 102) rfl rfl (by kernel_rfl) (by kernel_rfl) (by kernel_rfl) (by kernel_rfl) (fun _ _ _ h => h) (gRun rfl u13 fun _ h => run_mvZ (.tmp 13) rfl u13 rfl) HS_ ?_
                simp only [Act.put, aS, aC, aZ]
                refine takeV (i := 5) [6, 7, 8] (some 103) rfl rfl (by kernel_rfl) (by kernel_rfl) (by kernel_rfl) (by kernel_rfl) (fun _ _ _ h => h) (gRun rfl (.int .i64 (kk : Nat)) fun _ h => run_mvZ (.tmp 16) rfl (.int .i64 (kk : Nat)) rfl) HS_ ?_
                simp only [Act.put, aS, aC, aZ]
                refine takeV (i := 6) [7, 8] (some 104) rfl rfl (by kernel_rfl) (by kernel_rfl) (by kernel_rfl) (by kernel_rfl) (fun _ _ _ h => h) (gRun rfl (.pointer (some ⟨bL, kk * 4, none⟩)) fun _ h => run_idx (.tmp 102) (.tmp 103) rfl _ _ _ rfl rfl HX.out.1) HS_ ?_
                simp only [Act.put, aS, aC, aZ]
                refine takeV (i := 7) [8] (some 105) rfl rfl (by kernel_rfl) (by kernel_rfl) (by kernel_rfl) (by kernel_rfl) (fun _ _ _ h => h) (gRun rfl (.agg ((toP u).cells).toArray) fun _ h => run_loadA ag30 (.tmp 104) rfl bL (kk * 4) rfl ((toP u).cells) rfl (HX.out.2.1 _ h.2)) HS_ ?_
                simp only [Act.put, aS, aC, aZ]
                refine oneU (i := 8) (by kernel_rfl) ?_
                refine opCallG (some 106) rfl rfl rfl 26 _ (run_call eN26 [.tmp 101, .tmp 105] _ rfl [(ptr gh), (.agg ((toP u).cells).toArray)] rfl) ?_
                have HF := HAX.out.h.free kk hkk false
                rw [← HX.out.2.2] at HF
                refine HF.mono ?_
                rintro e Y1 ⟨rfl, hc_, hh_⟩
                refine ⟨_, rfl, ?_⟩
                refine ⟨(fun h => absurd (show true = false from h) (by decide)), ?_⟩
                have HA : Hid (Ag w Y1 ci gp gh gf gm gs gr mi n (us.take kk ++ us.drop (kk + 1)) (20 * j) u9 (plTo (n / 16) L j) u13 (us.map toP)) := HAX.out.sq (Sq.one ci hc_) hh_ HAX.out.fu
                clear hc_ hh_ HF
                simp only [Act.put, aS, aC, aZ]
                refine oneU (i := 9) (by kernel_rfl) ?_
                refine opValueG (some 17) rfl rfl rfl (.int .i64 0) _ (run_asZ (.tmp 106) rfl (.int .i64 0) rfl) ?_
                refine ⟨fun h => absurd (show true = false from h) (by decide), ?_⟩
                simp only [Act.put, aS, aC, aZ]
                refine wpAnyU_done (by kernel_rfl) ?_ _
                go_upto_region 30 with fail
                refine wp_region_lit ?_
                refine wl rfl (.int .i64 0) _ (run_mvZ (.tmp 17) rfl (.int .i64 0) rfl) ?_
                simp only [Act.put, aS, aC, aZ]
                refine wl rfl (.bool false) _ (run_neZ (.tmp 107) (.const (.int .i64 0)) rfl (0) (0) rfl rfl false rfl) ?_
                simp only [Act.put, aS, aC, aZ]
                refine wpList_nil ?_
                obtain ⟨va, ada, ca, hra, hva, hca⟩ := cut_to HA.out.l kk (by rw [HI.out.2.2]; exact hkk)
                obtain ⟨vb, adb, cb, hrb, hvb, hcb⟩ := cut_from HA.out.l kk (by rw [HI.out.2.2]; exact hkk)
                rw [← List.map_take] at hva hca
                rw [← List.map_drop] at hvb hcb
                have HCU : Hid ((∀ w', (Instr.slice 43 u13 none (some (.int .i64 (kk : Nat))) none).run Tryd.prog w' = .ok va w') ∧ va = .slice (some ada) ((us.take kk).map toP).length ca ∧ (∀ W : World, (∀ q, u13.ownBlock = some q → W.heap[q]? = Y1.heap[q]?) → ∀ k x, (pcl ((us.take kk).map toP))[k]? = some x → W.cell? (ada.add k) = some x)) := ⟨hra, hva, hca⟩
                have HCV : Hid ((∀ w', (Instr.slice 43 u13 (some (.int .i64 ((kk + 1 : Nat) : Int))) none none).run Tryd.prog w' = .ok vb w') ∧ vb = .slice (some adb) ((us.drop (kk + 1)).map toP).length cb ∧ (∀ W : World, (∀ q, u13.ownBlock = some q → W.heap[q]? = Y1.heap[q]?) → ∀ k x, (pcl ((us.drop (kk + 1)).map toP))[k]? = some x → W.cell? (adb.add k) = some x)) := ⟨hrb, hvb, hcb⟩
                clear hra hva hca hrb hvb hcb
                go_upto_region 32 with fail
                refine wp_region_held (S := fun X => True) (by kernel_rfl) ?_
                show wpAnyH _ _ _ _ _ 11 (Array.replicate 11 false) _ _
                obtain ⟨X, hX⟩ : ∃ X : World, X = { Y1 with drawn := Y1.drawn + 1 } := ⟨_, rfl⟩
                rw [← hX]
                have HX1 : Hid (Below Y1.heap.size Y1 X) := (by rw [hX]; exact ⟨rfl, rfl, rfl, Nat.le_refl _, fun _ _ => rfl⟩)
                have HXA : Hid (Ag w X ci gp gh gf gm gs gr mi n (us.take kk ++ us.drop (kk + 1)) (20 * j) u9 (plTo (n / 16) L j) u13 (us.map toP)) := HA.out.bel HX1.out
                clear hX
                refine takeH (i := 1) (some 110) rfl rfl (by kernel_rfl) (by kernel_rfl) (by kernel_rfl) (fun _ _ _ h => h) (gRun rfl u13 fun _ h => run_mvZ (.tmp 13) rfl u13 rfl) trivial ?_
                simp only [Act.put, aS, aC, aZ]
                refine takeH (i := 2) (some 111) rfl rfl (by kernel_rfl) (by kernel_rfl) (by kernel_rfl) (fun _ _ _ h => h) (gRun rfl (.int .i64 (kk : Nat)) fun _ h => run_mvZ (.tmp 16) rfl (.int .i64 (kk : Nat)) rfl) trivial ?_
                simp only [Act.put, aS, aC, aZ]
                refine takeH (i := 3) (some 112) rfl rfl (by kernel_rfl) (by kernel_rfl) (by kernel_rfl) (fun _ _ _ h => h) (gRun rfl va fun _ h => run_sub43 (.tmp 110) none (some (.tmp 111)) rfl u13 va (own_isSlice HA.out.l) rfl none _ rfl rfl HCU.out.1) trivial ?_
                simp only [Act.put, aS, aC, aZ]
                refine takeH (i := 5) (some 114) rfl rfl (by kernel_rfl) (by kernel_rfl) (by kernel_rfl) (fun _ _ _ h => h) (gRun rfl u13 fun _ h => run_mvZ (.tmp 13) rfl u13 rfl) trivial ?_
                simp only [Act.put, aS, aC, aZ]
                refine takeH (i := 6) (some 115) rfl rfl (by kernel_rfl) (by kernel_rfl) (by kernel_rfl) (fun _ _ _ h => h) (gRun rfl (.int .i64 (kk : Nat)) fun _ h => run_mvZ (.tmp 16) rfl (.int .i64 (kk : Nat)) rfl) trivial ?_
                simp only [Act.put, aS, aC, aZ]
                refine takeH (i := 7) (some 116) rfl rfl (by kernel_rfl) (by kernel_rfl) (by kernel_rfl) (fun _ _ _ h => h) (gRun rfl (.int .i64 ((kk + 1 : Nat) : Int)) fun _ h => run_addZ (.tmp 115) (.const (.int .i64 1)) rfl (kk : Nat) 1 _ rfl rfl (by omega) (by omega) (by omega)) trivial ?_
                simp only [Act.put, aS, aC, aZ]
                refine takeH (i := 8) (some 117) rfl rfl (by kernel_rfl) (by kernel_rfl) (by kernel_rfl) (fun _ _ _ h => h) (gRun rfl vb fun _ h => run_sub43 (.tmp 114) (some (.tmp 116)) none rfl u13 vb (own_isSlice HA.out.l) rfl _ none rfl rfl HCV.out.1) trivial ?_
                simp only [Act.put, aS, aC, aZ]
                refine oneH (i := 0) (by kernel_rfl) ?_
                refine opValueG (some 109) rfl rfl rfl (.slice (some ⟨X.heap.size, 0, none⟩) 0 0) _ (run_plit0 rfl) ?_
                have hb_ := below_alloc X (.cells #[] 30)
                have p_ := plit0_row X
                obtain ⟨Y2, hW_⟩ : ∃ U_ : World, U_ = X.alloc (.cells #[] 30) := ⟨_, rfl⟩
                obtain ⟨v0, hv_⟩ : ∃ v : Value, v = .slice (some ⟨X.heap.size, 0, none⟩) 0 0 := ⟨_, rfl⟩
                have ob_ : v0.ownBlock = some X.heap.size := (by rw [hv_]; rfl)
                rw [← hW_] at hb_ p_ ⊢
                rw [← hv_] at p_ ⊢
                have HP0 : Hid (PlO Y2 v0 [] ∧ Below X.heap.size X Y2 ∧ ∀ b, v0.ownBlock = some b → X.heap.size ≤ b) := ⟨p_, hb_, fun b e => (by rw [ob_] at e; injection e with e; omega)⟩
                clear hb_ p_ hW_ hv_ ob_
                refine ⟨trivial, ?_⟩
                simp only [Act.put, aS, aC, aZ]
                refine oneH (i := 4) (by kernel_rfl) ?_
                obtain ⟨v1, Y3, hr_, hp_, hg_, hat_⟩ := run_papp (w := Y2) 43 v0 [] ((us.take kk).map toP) HP0.out.1 va ada ca HCU.out.2.1 (HCU.out.2.2 Y2 fun q e => (HP0.out.2.1.block q (HXA.out.l.lt e)).trans (HX1.out.block q (HA.out.l.lt e))) (by have hll : ([] : List Pq).length = 0 := rfl; rw [hll, List.length_map, List.length_take]; omega)
                refine opValueG (some 113) rfl rfl rfl v1 Y3 (run_append (.tmp 109) (.tmp 112) rfl v0 va v1 rfl rfl ((appTy _ 43 _ _).trans hr_)) ?_
                have HP1 : Hid (PlO Y3 v1 ((us.take kk).map toP) ∧ Below X.heap.size X Y3 ∧ ∀ b, v1.ownBlock = some b → X.heap.size ≤ b) := (by
                  have hc : Ch (fun b => v0.ownBlock = some b) Y2 Y3 := (Ch.refl _ Y2).grown hg_ fun k e => Or.inl e
                  exact ⟨hp_, HP0.out.2.1.trans (hc.below HP0.out.2.1.size fun k hk e => by have := HP0.out.2.2 k e; omega), fun b e => (by rcases hat_ with h | h; exact HP0.out.2.2 b (h ▸ e); (rw [h] at e; injection e with e; have := HP0.out.2.1.size; omega))⟩)
                clear hr_ hp_ hg_ hat_
                refine ⟨trivial, ?_⟩
                simp only [Act.put, aS, aC, aZ]
                refine oneH (i := 9) (by kernel_rfl) ?_
                obtain ⟨v2, Y4, hr_, hp_, hg_, hat_⟩ := run_papp (w := Y3) 43 v1 ((us.take kk).map toP) ((us.drop (kk + 1)).map toP) HP1.out.1 vb adb cb HCV.out.2.1 (HCV.out.2.2 Y3 fun q e => (HP1.out.2.1.block q (HXA.out.l.lt e)).trans (HX1.out.block q (HA.out.l.lt e))) (by rw [List.length_map, List.length_map, List.length_take, List.length_drop]; omega)
                refine opValueG (some 118) rfl rfl rfl v2 Y4 (run_append (.tmp 113) (.tmp 117) rfl v1 vb v2 rfl rfl ((appTy _ 43 _ _).trans hr_)) ?_
                have HP2 : Hid (Ag w Y4 ci gp gh gf gm gs gr mi n (us.take kk ++ us.drop (kk + 1)) (20 * j) u9 (plTo (n / 16) L j) v2 ((us.take kk ++ us.drop (kk + 1)).map toP)) := (by
                  have hc : Ch (fun b => v1.ownBlock = some b) Y3 Y4 := (Ch.refl _ Y3).grown hg_ fun k e => Or.inl e
                  have hbb : Below X.heap.size X Y4 := HP1.out.2.1.trans (hc.below HP1.out.2.1.size fun k hk e => by have := HP1.out.2.2 k e; omega)
                  rw [← List.map_append] at hp_
                  have hge : ∀ b, v2.ownBlock = some b → X.heap.size ≤ b := fun b e => (by rcases hat_ with h | h; exact HP1.out.2.2 b (h ▸ e); (rw [h] at e; injection e with e; have := HP1.out.2.1.size; omega))
                  exact (HXA.out.bel hbb).newL hp_ fun b e => ⟨Out.new HXA.out.h (hge b e) (hp_.lt e), fun e' => (by have h1 := HXA.out.f.lt e'; have h2 := hge b e; omega)⟩)
                clear hr_ hp_ hg_ hat_
                refine ⟨trivial, ?_⟩
                simp only [Act.put, aS, aC, aZ]
                refine takeH (i := 10) (some 13) rfl rfl (by kernel_rfl) (by kernel_rfl) (by kernel_rfl) (fun _ _ _ h => h) (gRun rfl v2 fun _ h => run_asZ (.tmp 118) rfl v2 rfl) trivial ?_
                simp only [Act.put, aS, aC, aZ]
                refine wpAnyH_done (by kernel_rfl) ?_ _
                have hsl : sliceLen v2 < sliceLen u13 := (by rw [HP2.out.l.slen, HI.out.1.l.slen, List.length_map, List.length_map, List.length_append, List.length_take, List.length_drop]; omega)
                have HSL : Hid (sliceLen v2 < sliceLen u13) := hsl
                have hp2 : (p + 1) + (us.take kk ++ us.drop (kk + 1)).length ≤ j := (by rw [List.length_append, List.length_take, List.length_drop]; omega)
                clear hsl
                go_wp2_with fail
                refine ⟨⟨p + 1, by go_num, ⟨_, HP2.out, hp2⟩⟩, ?_⟩
                exact HSL.out
              · have hk0 : k0 < us.length := (by have := HK0.out; omega)
                go_upto_region 27 with fail
                refine wp_region_lit ?_
                refine wl rfl (.int .i64 (p : Nat)) _ (run_mvZ (.tmp 15) rfl (.int .i64 (p : Nat)) rfl) ?_
                simp only [Act.put, aS, aC, aZ]
                refine wl rfl vo _ (run_mvZ (.tmp 2) rfl vo rfl) ?_
                simp only [Act.put, aS, aC, aZ]
                refine wl rfl (.int .i64 (ks.length : Nat)) _ (run_lenI31 HM.out.2.2.2.1 (.tmp 88) rfl rfl) ?_
                simp only [Act.put, aS, aC, aZ]
                refine wl rfl (.bool false) _ (run_lssZ (.tmp 87) (.tmp 89) rfl (p : Nat) (ks.length : Nat) rfl rfl false (decide_eq_false (by omega))) ?_
                simp only [Act.put, aS, aC, aZ]
                refine wpList_nil ?_
                obtain ⟨bL, _, hx_, hc_⟩ := HI.out.1.l.ix k0 (by rw [HI.out.2.2]; exact hk0)
                rw [getD_map_toP hk0] at hc_
                obtain ⟨u, hu⟩ : ∃ u, u = us.getD k0 default := ⟨_, rfl⟩
                rw [← hu] at hc_
                have HX : Hid ((∀ w', (Instr.indexAt 43 u13 (.int .i64 (k0 : Nat))).run Tryd.prog w' = .ok (.pointer (some ⟨bL, k0 * 4, none⟩)) w') ∧ (∀ W : World, PlO W u13 (us.map toP) → ∀ (k : Nat) x, (toP u).cells[k]? = some x → W.cell? ⟨bL, k0 * 4 + k, none⟩ = some x) ∧ u = us.getD k0 default) := ⟨hx_, hc_, hu⟩
                clear hx_ hc_ hu
                go_upto_region 29 with fail
                refine wp_region_until (S := fun X => Row X gs 38 (scells gp gh gr 0 0) ∧ PlO X u13 (us.map toP)) 8 (by kernel_rfl) ?_
                show wpAnyU _ _ _ _ _ _ 10 (Array.replicate 10 false) _ _
                obtain ⟨X, hX⟩ : ∃ X : World, X = { wr with drawn := wr.drawn + 1 } := ⟨_, rfl⟩
                rw [← hX]
                have HAX : Hid (Ag w X ci gp gh gf gm gs gr mi n us (20 * j) u9 (plTo (n / 16) L j) u13 (us.map toP)) := (by rw [hX]; exact HI.out.1.bel ⟨rfl, rfl, rfl, Nat.le_refl _, fun _ _ => rfl⟩)
                have HS_ : Row X gs 38 (scells gp gh gr 0 0) ∧ PlO X u13 (us.map toP) := ⟨HAX.out.st, HAX.out.l⟩
                clear hX
                refine takeV (i := 0) [1, 2, 3, 8] (some 98) rfl rfl (by kernel_rfl) (by kernel_rfl) (by kernel_rfl) (by kernel_rfl) (fun _ _ _ h => h) (gRun rfl (ptr gs) fun _ h => run_mvZ (.tmp 8) rfl (ptr gs) rfl) HS_ ?_
                simp only [Act.put, aS, aC, aZ]
                refine takeV (i := 1) [2, 3, 8] (some 99) rfl rfl (by kernel_rfl) (by kernel_rfl) (by kernel_rfl) (by kernel_rfl) (fun _ _ _ h => h) (gRun rfl (ptr gs) fun _ h => run_nil (.tmp 98) rfl ⟨gs, 0, none⟩ rfl) HS_ ?_
                simp only [Act.put, aS, aC, aZ]
                refine takeV (i := 2) [3, 8] (some 100) rfl rfl (by kernel_rfl) (by kernel_rfl) (by kernel_rfl) (by kernel_rfl) (fun _ _ _ h => h) (gRun rfl (.pointer (some ⟨gs, 0 + 1, none⟩)) fun _ h => run_fieldOp' f38_1 (.tmp 99) rfl gs (0) rfl) HS_ ?_
                simp only [Act.put, aS, aC, aZ]
                refine takeV (i := 3) [8] (some 101) rfl rfl (by kernel_rfl) (by kernel_rfl) (by kernel_rfl) (by kernel_rfl) (fun _ _ _ h => h) (gRun rfl (ptr gh) fun _ h => run_load1 o35 (.tmp 100) rfl gs (0 + 1) rfl (ptr gh) (h.1.at 1 _ rfl)) HS_ ?_
                simp only [Act.put, aS, aC, aZ]
                refine takeV (i := 4) [6, 7, 8] (some 102) rfl rfl (by kernel_rfl) (by kernel_rfl) (by kernel_rfl) (by kernel_rfl) (fun _ _ _ h => h) (gRun rfl u13 fun _ h => run_mvZ (.tmp 13) rfl u13 rfl) HS_ ?_
                simp only [Act.put, aS, aC, aZ]
                refine takeV (i := 5) [6, 7, 8] (some 103) rfl rfl (by kernel_rfl) (by kernel_rfl) (by kernel_rfl) (by kernel_rfl) (fun _ _ _ h => h) (gRun rfl (.int .i64 (k0 : Nat)) fun _ h => run_mvZ (.tmp 16) rfl (.int .i64 (k0 : Nat)) rfl) HS_ ?_
                simp only [Act.put, aS, aC, aZ]
                refine takeV (i := 6) [7, 8] (some 104) rfl rfl (by kernel_rfl) (by kernel_rfl) (by kernel_rfl) (by kernel_rfl) (fun _ _ _ h => h) (gRun rfl (.pointer (some ⟨bL, k0 * 4, none⟩)) fun _ h => run_idx (.tmp 102) (.tmp 103) rfl _ _ _ rfl rfl HX.out.1) HS_ ?_
                simp only [Act.put, aS, aC, aZ]
                refine takeV (i := 7) [8] (some 105) rfl rfl (by kernel_rfl) (by kernel_rfl) (by kernel_rfl) (by kernel_rfl) (fun _ _ _ h => h) (gRun rfl (.agg ((toP u).cells).toArray) fun _ h => run_loadA ag30 (.tmp 104) rfl bL (k0 * 4) rfl ((toP u).cells) rfl (HX.out.2.1 _ h.2)) HS_ ?_
                simp only [Act.put, aS, aC, aZ]
                refine oneU (i := 8) (by kernel_rfl) ?_
                refine opCallG (some 106) rfl rfl rfl 26 _ (run_call eN26 [.tmp 101, .tmp 105] _ rfl [(ptr gh), (.agg ((toP u).cells).toArray)] rfl) ?_
                have HF := HAX.out.h.free k0 hk0 false
                rw [← HX.out.2.2] at HF
                refine HF.mono ?_
                rintro e Y1 ⟨rfl, hc_, hh_⟩
                refine ⟨_, rfl, ?_⟩
                refine ⟨(fun h => absurd (show true = false from h) (by decide)), ?_⟩
                have HA : Hid (Ag w Y1 ci gp gh gf gm gs gr mi n (us.take k0 ++ us.drop (k0 + 1)) (20 * j) u9 (plTo (n / 16) L j) u13 (us.map toP)) := HAX.out.sq (Sq.one ci hc_) hh_ HAX.out.fu
                clear hc_ hh_ HF
                simp only [Act.put, aS, aC, aZ]
                refine oneU (i := 9) (by kernel_rfl) ?_
                refine opValueG (some 17) rfl rfl rfl (.int .i64 0) _ (run_asZ (.tmp 106) rfl (.int .i64 0) rfl) ?_
                refine ⟨fun h => absurd (show true = false from h) (by decide), ?_⟩
                simp only [Act.put, aS, aC, aZ]
                refine wpAnyU_done (by kernel_rfl) ?_ _
                go_upto_region 30 with fail
                refine wp_region_lit ?_
                refine wl rfl (.int .i64 0) _ (run_mvZ (.tmp 17) rfl (.int .i64 0) rfl) ?_
                simp only [Act.put, aS, aC, aZ]
                refine wl rfl (.bool false) _ (run_neZ (.tmp 107) (.const (.int .i64 0)) rfl (0) (0) rfl rfl false rfl) ?_
                simp only [Act.put, aS, aC, aZ]
                refine wpList_nil ?_
                obtain ⟨va, ada, ca, hra, hva, hca⟩ := cut_to HA.out.l k0 (by rw [HI.out.2.2]; exact hk0)
                obtain ⟨vb, adb, cb, hrb, hvb, hcb⟩ := cut_from HA.out.l k0 (by rw [HI.out.2.2]; exact hk0)
                rw [← List.map_take] at hva hca
                rw [← List.map_drop] at hvb hcb
                have HCU : Hid ((∀ w', (Instr.slice 43 u13 none (some (.int .i64 (k0 : Nat))) none).run Tryd.prog w' = .ok va w') ∧ va = .slice (some ada) ((us.take k0).map toP).length ca ∧ (∀ W : World, (∀ q, u13.ownBlock = some q → W.heap[q]? = Y1.heap[q]?) → ∀ k x, (pcl ((us.take k0).map toP))[k]? = some x → W.cell? (ada.add k) = some x)) := ⟨hra, hva, hca⟩
                have HCV : Hid ((∀ w', (Instr.slice 43 u13 (some (.int .i64 ((k0 + 1 : Nat) : Int))) none none).run Tryd.prog w' = .ok vb w') ∧ vb = .slice (some adb) ((us.drop (k0 + 1)).map toP).length cb ∧ (∀ W : World, (∀ q, u13.ownBlock = some q → W.heap[q]? = Y1.heap[q]?) → ∀ k x, (pcl ((us.drop (k0 + 1)).map toP))[k]? = some x → W.cell? (adb.add k) = some x)) := ⟨hrb, hvb, hcb⟩
                clear hra hva hca hrb hvb hcb
                go_upto_region 32 with fail
                refine wp_region_held (S := fun X => True) (by kernel_rfl) ?_
                show wpAnyH _ _ _ _ _ 11 (Array.replicate 11 false) _ _
                obtain ⟨X, hX⟩ : ∃ X : World, X = { Y1 with drawn := Y1.drawn + 1 } := ⟨_, rfl⟩
                rw [← hX]
                have HX1 : Hid (Below Y1.heap.size Y1 X) := (by rw [hX]; exact ⟨rfl, rfl, rfl, Nat.le_refl _, fun _ _ => rfl⟩)
                have HXA : Hid (Ag w X ci gp gh gf gm gs gr mi n (us.take k0 ++ us.drop (k0 + 1)) (20 * j) u9 (plTo (n / 16) L j) u13 (us.map toP)) := HA.out.bel HX1.out
                clear hX
                refine takeH (i := 1) (some 110) rfl rfl (by kernel_rfl) (by kernel_rfl) (by kernel_rfl) (fun _ _ _ h => h) (gRun rfl u13 fun _ h => run_mvZ (.tmp 13) rfl u13 rfl) trivial ?_
                simp only [Act.put, aS, aC, aZ]
                refine takeH (i := 2) (some 111) rfl rfl (by kernel_rfl) (by kernel_rfl) (by kernel_rfl) (fun _ _ _ h => h) (gRun rfl (.int .i64 (k0 : Nat)) fun _ h => run_mvZ (.tmp 16) rfl (.int .i64 (k0 : Nat)) rfl) trivial ?_
                simp only [Act.put, aS, aC, aZ]
                refine takeH (i := 3) (some 112) rfl rfl (by kernel_rfl) (by kernel_rfl) (by kernel_rfl) (fun _ _ _ h => h) (gRun rfl va fun _ h => run_sub43 (.tmp 110) none (some (.tmp 111)) rfl u13 va (own_isSlice HA.out.l) rfl none _ rfl rfl HCU.out.1) trivial ?_
                simp only [Act.put, aS, aC, aZ]
                refine takeH (i := 5) (some 114) rfl rfl (by kernel_rfl) (by kernel_rfl) (by kernel_rfl) (fun _ _ _ h => h) (gRun rfl u13 fun _ h => run_mvZ (.tmp 13) rfl u13 rfl) trivial ?_
                simp only [Act.put, aS, aC, aZ]
                refine takeH (i := 6) (some 115) rfl rfl (by kernel_rfl) (by kernel_rfl) (by kernel_rfl) (fun _ _ _ h => h) (gRun rfl (.int .i64 (k0 : Nat)) fun _ h => run_mvZ (.tmp 16) rfl (.int .i64 (k0 : Nat)) rfl) trivial ?_
                simp only [Act.put, aS, aC, aZ]
                refine takeH (i := 7) (some 116) rfl rfl (by kernel_rfl) (by kernel_rfl) (by kernel_rfl) (fun _ _ _ h => h) (gRun rfl (.int .i64 ((k0 + 1 : Nat) : Int)) fun _ h => run_addZ (.tmp 115) (.const (.int .i64 1)) rfl (k0 : Nat) 1 _ rfl rfl (by omega) (by omega) (by omega)) trivial ?_
                simp only [Act.put, aS, aC, aZ]
                refine takeH (i := 8) (some 117) rfl rfl (by kernel_rfl) (by kernel_rfl) (by kernel_rfl) (fun _ _ _ h => h) (gRun rfl vb fun _ h => run_sub43 (.tmp 114) (some (.tmp 116)) none rfl u13 vb (own_isSlice HA.out.l) rfl _ none rfl rfl HCV.out.1) trivial ?_
                simp only [Act.put, aS, aC, aZ]
                refine oneH (i := 0) (by kernel_rfl) ?_
                refine opValueG (some 109) rfl rfl rfl (.slice (some ⟨X.heap.size, 0, none⟩) 0 0) _ (run_plit0 rfl) ?_
                have hb_ := below_alloc X (.cells #[] 30)
                have p_ := plit0_row X
                obtain ⟨Y2, hW_⟩ : ∃ U_ : World, U_ = X.alloc (.cells #[] 30) := ⟨_, rfl⟩
                obtain ⟨v0, hv_⟩ : ∃ v : Value, v = .slice (some ⟨X.heap.size, 0, none⟩) 0 0 := ⟨_, rfl⟩
                have ob_ : v0.ownBlock = some X.heap.size := (by rw [hv_]; rfl)
                rw [← hW_] at hb_ p_ ⊢
                rw [← hv_] at p_ ⊢
                have HP0 : Hid (PlO Y2 v0 [] ∧ Below X.heap.size X Y2 ∧ ∀ b, v0.ownBlock = some b → X.heap.size ≤ b) := ⟨p_, hb_, fun b e => (by rw [ob_] at e; injection e with e; omega)⟩
                clear hb_ p_ hW_ hv_ ob_
                refine ⟨trivial, ?_⟩
                simp only [Act.put, aS, aC, aZ]
                refine oneH (i := 4) (by kernel_rfl) ?_
                obtain ⟨v1, Y3, hr_, hp_, hg_, hat_⟩ := run_papp (w := Y2) 43 v0 [] ((us.take k0).map toP) HP0.out.1 va ada ca HCU.out.2.1 (HCU.out.2.2 Y2 fun q e => (HP0.out.2.1.block q (HXA.out.l.lt e)).trans (HX1.out.block q (HA.out.l.lt e))) (by have hll : ([] : List Pq).length = 0 := rfl; rw [hll, List.length_map, List.length_take]; omega)
                refine opValueG (some 113) rfl rfl rfl v1 Y3 (run_append (.tmp 109) (.tmp 112) rfl v0 va v1 rfl rfl ((appTy _ 43 _ _).trans hr_)) ?_
                have HP1 : Hid (PlO Y3 v1 ((us.take k0).map toP) ∧ Below X.heap.size X Y3 ∧ ∀ b, v1.ownBlock = some b → X.heap.size ≤ b) := (by
                  have hc : Ch (fun b => v0.ownBlock = some b) Y2 Y3 := (Ch.refl _ Y2).grown hg_ fun k e => Or.inl e
                  exact ⟨hp_, HP0.out.2.1.trans (hc.below HP0.out.2.1.size fun k hk e => by have := HP0.out.2.2 k e; omega), fun b e => (by rcases hat_ with h | h; exact HP0.out.2.2 b (h ▸ e); (rw [h] at e; injection e with e; have := HP0.out.2.1.size; omega))⟩)
                clear hr_ hp_ hg_ hat_
                refine ⟨trivial, ?_⟩
                simp only [Act.put, aS, aC, aZ]
                refine oneH (i := 9) (by kernel_rfl) ?_
                obtain ⟨v2, Y4, hr_, hp_, hg_, hat_⟩ := run_papp (w := Y3) 43 v1 ((us.take k0).map toP) ((us.drop (k0 + 1)).map toP) HP1.out.1 vb adb cb HCV.out.2.1 (HCV.out.2.2 Y3 fun q e => (HP1.out.2.1.block q (HXA.out.l.lt e)).trans (HX1.out.block q (HA.out.l.lt e))) (by rw [List.length_map, List.length_map, List.length_take, List.length_drop]; omega)
                refine opValueG (some 118) rfl rfl rfl v2 Y4 (run_append (.tmp 113) (.tmp 117) rfl v1 vb v2 rfl rfl ((appTy _ 43 _ _).trans hr_)) ?_
                have HP2 : Hid (Ag w Y4 ci gp gh gf gm gs gr mi n (us.take k0 ++ us.drop (k0 + 1)) (20 * j) u9 (plTo (n / 16) L j) v2 ((us.take k0 ++ us.drop (k0 + 1)).map toP)) := (by
                  have hc : Ch (fun b => v1.ownBlock = some b) Y3 Y4 := (Ch.refl _ Y3).grown hg_ fun k e => Or.inl e
                  have hbb : Below X.heap.size X Y4 := HP1.out.2.1.trans (hc.below HP1.out.2.1.size fun k hk e => by have := HP1.out.2.2 k e; omega)
                  rw [← List.map_append] at hp_
                  have hge : ∀ b, v2.ownBlock = some b → X.heap.size ≤ b := fun b e => (by rcases hat_ with h | h; exact HP1.out.2.2 b (h ▸ e); (rw [h] at e; injection e with e; have := HP1.out.2.1.size; omega))
                  exact (HXA.out.bel hbb).newL hp_ fun b e => ⟨Out.new HXA.out.h (hge b e) (hp_.lt e), fun e' => (by have h1 := HXA.out.f.lt e'; have h2 := hge b e; omega)⟩)
                clear hr_ hp_ hg_ hat_
                refine ⟨trivial, ?_⟩
                simp only [Act.put, aS, aC, aZ]
                refine takeH (i := 10) (some 13) rfl rfl (by kernel_rfl) (by kernel_rfl) (by kernel_rfl) (fun _ _ _ h => h) (gRun rfl v2 fun _ h => run_asZ (.tmp 118) rfl v2 rfl) trivial ?_
                simp only [Act.put, aS, aC, aZ]
                refine wpAnyH_done (by kernel_rfl) ?_ _
                have hsl : sliceLen v2 < sliceLen u13 := (by rw [HP2.out.l.slen, HI.out.1.l.slen, List.length_map, List.length_map, List.length_append, List.length_take, List.length_drop]; omega)
                have HSL : Hid (sliceLen v2 < sliceLen u13) := hsl
                have hp2 : (p + 1) + (us.take k0 ++ us.drop (k0 + 1)).length ≤ j := (by rw [List.length_append, List.length_take, List.length_drop]; omega)
                clear hsl
                go_wp2_with fail
                refine ⟨⟨p + 1, by go_num, ⟨_, HP2.out, hp2⟩⟩, ?_⟩
                exact HSL.out
            · go_upto_region 24 with fail
              refine wp_region_lit ?_
              refine wl rfl u13 _ (run_mvZ (.tmp 13) rfl u13 rfl) ?_
              simp only [Act.put, aS, aC, aZ]
              refine wl rfl (.int .i64 (us.length : Nat)) _ (run_lenPI HI.out.1.l HI.out.2.2 (.tmp 82) rfl rfl) ?_
              simp only [Act.put, aS, aC, aZ]
              refine wl rfl (.bool false) _ (run_gtrZ (.tmp 83) (.const (.int .i64 0)) rfl (us.length : Nat) 0 rfl rfl false (decide_eq_false (by omega))) ?_
              simp only [Act.put, aS, aC, aZ]
              refine wpList_nil ?_
              have eus : us = [] := List.length_eq_zero_iff.1 (by omega)
              obtain ⟨WD, hWD⟩ : ∃ U_ : World, U_ = wr := ⟨_, rfl⟩
              rw [← hWD]
              have H6 : Hid (Ag w WD ci gp gh gf gm gs gr mi n [] (20 * j) u9 (plTo (n / 16) L j) u13 []) := (by rw [hWD]; have h_ := HI.out.1; rw [eus] at h_; exact h_)
              clear HI hWD eus hpj hlt
              have hjL := HNL.out
              go_upto_region 33 with fail
              refine wp_region_lit ?_
              refine wl rfl (.int .i64 0) _ (run_asZ (.const (.int .i64 0)) rfl (.int .i64 0) rfl) ?_
              simp only [Act.put, aS, aC, aZ]
              refine wpList_nil ?_
              go_wp2_with fail
              go_loopw [18] (fun vi W => ∃ i : Nat, vi = .int .i64 (i : Nat) ∧ i ≤ L.length ∧ Hid (∃ c m, Ag w W c gp gh gf gm gs gr m n (usAt (n / 16) L i) (20 * j + 20 * i) u9 (plTo (n / 16) L j) u13 [])) (fun vi _ => L.length - (intOf vi).toNat)
              case atStart => exact ⟨0, rfl, Nat.zero_le _, ⟨ci, mi, H6.out⟩⟩
              case round =>
                clear H6
                obtain ⟨i, rfl, hi, HI0⟩ := hrel
                obtain ⟨ci, mi, hI⟩ := HI0.out
                have HI : Hid (Ag w wr ci gp gh gf gm gs gr mi n (usAt (n / 16) L i) (20 * j + 20 * i) u9 (plTo (n / 16) L j) u13 []) := hI
                clear hI HI0
                by_cases hlt : i < L.length
                · go_upto_region 34 with fail
                  refine wp_region_lit ?_
                  refine wl rfl (.int .i64 (i : Nat)) _ (run_mvZ (.tmp 18) rfl (.int .i64 (i : Nat)) rfl) ?_
                  simp only [Act.put, aS, aC, aZ]
                  refine wl rfl vl _ (run_mvZ (.tmp 1) rfl vl rfl) ?_
                  simp only [Act.put, aS, aC, aZ]
                  refine wl rfl (.int .i64 (L.length : Nat)) _ (run_lenR HM.out.2.2.1 (.tmp 120) rfl rfl) ?_
                  simp only [Act.put, aS, aC, aZ]
                  refine wl rfl (.bool true) _ (run_lssZ (.tmp 119) (.tmp 121) rfl (i : Nat) (L.length : Nat) rfl rfl true (decide_eq_true (by omega))) ?_
                  simp only [Act.put, aS, aC, aZ]
                  refine wpList_nil ?_
                  obtain ⟨bl, jl, ub, hx_, hc_⟩ := HM.out.2.2.1.ix i hlt
                  obtain ⟨x, hx⟩ : ∃ x, x = plAt (n / 16) L i := ⟨_, rfl⟩
                  have HXR : Hid ((∀ w', (Instr.indexAt 57 vl (.int .i64 (i : Nat))).run Tryd.prog w' = .ok (.pointer (some ⟨bl, jl, none⟩)) w') ∧ (∀ W, Below w.heap.size w W → W.cell? ⟨bl, jl, none⟩ = some ub ∧ SliceIn W ub (L.getD i [])) ∧ x = plAt (n / 16) L i) := ⟨hx_, hc_, hx⟩
                  clear hx_ hc_ hx
                  have HA : Hid (Ag w wr ci gp gh gf gm gs gr mi n (usAt (n / 16) L i) (20 * j + 20 * i) u9 (plTo (n / 16) L j) u13 []) := HI.out
                  go_upto_region 36 with fail
                  refine wp_region_held (S := fun X => Row X gs 38 (scells gp gh gr 0 0) ∧ Below w.heap.size w X) (by kernel_rfl) ?_
                  show wpAnyH _ _ _ _ _ 15 (Array.replicate 15 false) _ _
                  obtain ⟨X, hX⟩ : ∃ X : World, X = { wr with drawn := wr.drawn + 1 } := ⟨_, rfl⟩
                  rw [← hX]
                  have HBX : Hid (Below wr.heap.size wr X) := (by rw [hX]; exact ⟨rfl, rfl, rfl, Nat.le_refl _, fun _ _ => rfl⟩)
                  replace HA : Hid (Ag w X ci gp gh gf gm gs gr mi n (usAt (n / 16) L i) (20 * j + 20 * i) u9 (plTo (n / 16) L j) u13 []) := HA.out.bel HBX.out
                  clear HBX
                  clear hX
                  refine takeH (i := 0) (some 126) rfl rfl (by kernel_rfl) (by kernel_rfl) (by kernel_rfl) (fun _ _ _ h => h) (gRun rfl (ptr gs) fun _ h => run_mvZ (.tmp 8) rfl (ptr gs) rfl) ⟨HA.out.st, HA.out.h.pl.below⟩ ?_
                  simp only [Act.put, aS, aC, aZ]
                  refine takeH (i := 1) (some 127) rfl rfl (by kernel_rfl) (by kernel_rfl) (by kernel_rfl) (fun _ _ _ h => h) (gRun rfl (ptr gs) fun _ h => run_nil (.tmp 126) rfl ⟨gs, 0, none⟩ rfl) ⟨HA.out.st, HA.out.h.pl.below⟩ ?_
                  simp only [Act.put, aS, aC, aZ]
                  refine takeH (i := 2) (some 128) rfl rfl (by kernel_rfl) (by kernel_rfl) (by kernel_rfl) (fun _ _ _ h => h) (gRun rfl (.pointer (some ⟨gs, 0 + 1, none⟩)) fun _ h => run_fieldOp' f38_1 (.tmp 127) rfl gs (0) rfl) ⟨HA.out.st, HA.out.h.pl.below⟩ ?_
                  simp only [Act.put, aS, aC, aZ]
                  refine takeH (i := 3) (some 129) rfl rfl (by kernel_rfl) (by kernel_rfl) (by kernel_rfl) (fun _ _ _ h => h) (gRun rfl (ptr gh) fun _ h => run_load1 o35 (.tmp 128) rfl gs (0 + 1) rfl (ptr gh) (h.1.at 1 _ rfl)) ⟨HA.out.st, HA.out.h.pl.below⟩ ?_
                  simp only [Act.put, aS, aC, aZ]
                  refine takeH (i := 4) (some 130) rfl rfl (by kernel_rfl) (by kernel_rfl) (by kernel_rfl) (fun _ _ _ h => h) (gRun rfl vl fun _ h => run_mvZ (.tmp 1) rfl vl rfl) ⟨HA.out.st, HA.out.h.pl.below⟩ ?_
                  simp only [Act.put, aS, aC, aZ]
                  refine takeH (i := 5) (some 131) rfl rfl (by kernel_rfl) (by kernel_rfl) (by kernel_rfl) (fun _ _ _ h => h) (gRun rfl (.int .i64 (i : Nat)) fun _ h => run_mvZ (.tmp 18) rfl (.int .i64 (i : Nat)) rfl) ⟨HA.out.st, HA.out.h.pl.below⟩ ?_
                  simp only [Act.put, aS, aC, aZ]
                  refine takeH (i := 6) (some 132) rfl rfl (by kernel_rfl) (by kernel_rfl) (by kernel_rfl) (fun _ _ _ h => h) (gRun rfl (.pointer (some ⟨bl, jl, none⟩)) fun _ h => run_idx (.tmp 130) (.tmp 131) rfl _ _ _ rfl rfl HXR.out.1) ⟨HA.out.st, HA.out.h.pl.below⟩ ?_
                  simp only [Act.put, aS, aC, aZ]
                  refine takeH (i := 7) (some 133) rfl rfl (by kernel_rfl) (by kernel_rfl) (by kernel_rfl) (fun _ _ _ h => h) (gRun rfl ub fun _ h => run_load1 o28 (.tmp 132) rfl bl (jl) rfl ub (HXR.out.2.1 _ h.2).1) ⟨HA.out.st, HA.out.h.pl.below⟩ ?_
                  simp only [Act.put, aS, aC, aZ]
                  refine twoH (i := 8) (j := 12) (by kernel_rfl) ?_ ?_
                  · refine opCallG (some 134) rfl rfl rfl 21 _ (run_call eN21 [.tmp 129, .tmp 133] _ rfl [(ptr gh), ub] rfl) ?_
                    refine (HA.out.h.appendU (by omega) HA.out.fu ub (L.getD i []) (HXR.out.2.1 _ HA.out.h.pl.below).2).mono ?_
                    rintro e Y1 ⟨c2, m2, er, he_, hs_, hf_, hh_, ht_⟩
                    have he_ : e = .returned (.tuple #[.agg x.cells.toArray, .int .i64 er]) := (by rw [HXR.out.2.2]; exact he_)
                    subst he_
                    refine ⟨_, rfl, ?_⟩
                    have HT : Hid (Told er x) := (by rw [HXR.out.2.2]; exact ht_)
                    replace HA : Hid (Ag w Y1 c2 gp gh gf gm gs gr m2 n (usAt (n / 16) L (i + 1)) (20 * j + 20 * (i + 1)) u9 (plTo (n / 16) L j) u13 []) := HA.out.sq hs_ hh_ hf_
                    clear hs_ hf_ hh_ ht_
                    refine ⟨⟨HA.out.st, HA.out.h.pl.below⟩, ?_⟩
                    simp only [Act.put, aS, aC, aZ]
                    refine takeH (i := 9) (some 125) rfl rfl (by kernel_rfl) (by kernel_rfl) (by kernel_rfl) (fun _ _ _ h => h) (gRun rfl (.tuple #[(.agg x.cells.toArray), (.int .i64 er)]) fun _ h => run_mvZ (.tmp 134) rfl (.tuple #[(.agg x.cells.toArray), (.int .i64 er)]) rfl) ⟨HA.out.st, HA.out.h.pl.below⟩ ?_
                    simp only [Act.put, aS, aC, aZ]
                    refine takeH (i := 10) (some 135) rfl rfl (by kernel_rfl) (by kernel_rfl) (by kernel_rfl) (fun _ _ _ h => h) (gRun rfl (.agg x.cells.toArray) fun _ h => run_extZ (.tmp 125) 0 rfl #[(.agg x.cells.toArray), (.int .i64 er)] rfl (.agg x.cells.toArray) rfl) ⟨HA.out.st, HA.out.h.pl.below⟩ ?_
                    simp only [Act.put, aS, aC, aZ]
                    refine takeH (i := 11) (some 136) rfl rfl (by kernel_rfl) (by kernel_rfl) (by kernel_rfl) (fun _ _ _ h => h) (gRun rfl (.int .i64 er) fun _ h => run_extZ (.tmp 125) 1 rfl #[(.agg x.cells.toArray), (.int .i64 er)] rfl (.int .i64 er) rfl) ⟨HA.out.st, HA.out.h.pl.below⟩ ?_
                    simp only [Act.put, aS, aC, aZ]
                    refine oneH (i := 12) (by kernel_rfl) ?_
                    refine opValueG (some 19) rfl rfl rfl (ptr Y1.heap.size) _ (run_allocA (plC 0 0 0 false) zero30 rfl) ?_
                    have hb_ := below_alloc Y1 (.cells (plC 0 0 0 false).toArray 30)
                    have r_ := Row.new Y1 30 (plC 0 0 0 false)
                    obtain ⟨Y2, hW_⟩ : ∃ U_ : World, U_ = Y1.alloc (.cells (plC 0 0 0 false).toArray 30) := ⟨_, rfl⟩
                    obtain ⟨q19, hq_⟩ : ∃ q, q = Y1.heap.size := ⟨_, rfl⟩
                    rw [← hW_] at hb_
                    rw [← hW_, ← hq_] at r_
                    rw [← hW_, ← hq_]
                    have HQ : Hid (Row Y2 q19 30 (plC 0 0 0 false) ∧ Out w Y2 c2 gh gf gm q19 ∧ (∀ b, u9.ownBlock = some b → b ≠ q19) ∧ (∀ b, u13.ownBlock = some b → b ≠ q19)) := ⟨r_, Out.new HA.out.h (by omega) r_.lt, fun b e => (by have := HA.out.f.lt e; omega), fun b e => (by have := HA.out.l.lt e; omega)⟩
                    replace HA : Hid (Ag w Y2 c2 gp gh gf gm gs gr m2 n (usAt (n / 16) L (i + 1)) (20 * j + 20 * (i + 1)) u9 (plTo (n / 16) L j) u13 []) := HA.out.bel hb_
                    clear r_ hb_ hW_ hq_
                    refine ⟨⟨HA.out.st, HA.out.h.pl.below⟩, ?_⟩
                    simp only [Act.put, aS, aC, aZ]
                    refine oneH (i := 13) (by kernel_rfl) ?_
                    refine opSkipZ rfl rfl rfl _ (run_storeA ag30 (.tmp 19) (.tmp 135) rfl q19 30 rfl x.cells _ rfl rfl HQ.out.1 rfl (plC_one _ _ _ _)) ?_
                    have hb_ := (Ch.setRow (S := (· = q19)) (Ch.refl _ Y2) (Or.inl rfl) x.cells.toArray)
                    have r_ := HQ.out.1.setRow x.cells
                    obtain ⟨Y3, hW_⟩ : ∃ U_ : World, U_ = Y2.setRow q19 x.cells.toArray := ⟨_, rfl⟩
                    rw [← hW_] at hb_ r_ ⊢
                    replace HA : Hid (Ag w Y3 c2 gp gh gf gm gs gr m2 n (usAt (n / 16) L (i + 1)) (20 * j + 20 * (i + 1)) u9 (plTo (n / 16) L j) u13 []) := HA.out.put hb_ HQ.out.2.1 (row_ne HA.out.st HQ.out.1 (by decide)) HQ.out.2.2.1 HQ.out.2.2.2
                    replace HQ : Hid (Row Y3 q19 30 x.cells ∧ Out w Y3 c2 gh gf gm q19 ∧ (∀ b, u9.ownBlock = some b → b ≠ q19) ∧ (∀ b, u13.ownBlock = some b → b ≠ q19)) := ⟨r_, HQ.out.2.1.bel hb_.size, HQ.out.2.2⟩
                    clear r_ hb_ hW_
                    refine ⟨⟨HA.out.st, HA.out.h.pl.below⟩, ?_⟩
                    refine takeH (i := 14) (some 20) rfl rfl (by kernel_rfl) (by kernel_rfl) (by kernel_rfl) (fun _ _ _ h => h) (gRun rfl (.int .i64 er) fun _ h => run_asZ (.tmp 136) rfl (.int .i64 er) rfl) ⟨HA.out.st, HA.out.h.pl.below⟩ ?_
                    simp only [Act.put, aS, aC, aZ]
                    refine wpAnyH_done (by kernel_rfl) ?_ _
                    obtain ⟨bF, _, hx_, hc_⟩ := HA.out.f.ix i (by rw [plTo_length]; omega)
                    rw [plTo_at _ _ _ _ (by omega), ← HXR.out.2.2] at hc_
                    have HX : Hid ((∀ w', (Instr.indexAt 43 u9 (.int .i64 (i : Nat))).run Tryd.prog w' = .ok (.pointer (some ⟨bF, i * 4, none⟩)) w') ∧ (∀ W : World, PlO W u9 (plTo (n / 16) L j) → ∀ (k : Nat) u, x.cells[k]? = some u → W.cell? ⟨bF, i * 4 + k, none⟩ = some u)) := ⟨hx_, hc_⟩
                    clear hx_ hc_
                    obtain ⟨bp, hbp⟩ : ∃ b, decide (0 < x.ln) = b := ⟨_, rfl⟩
                    have HBP : Hid (decide (0 < x.ln) = bp ∧ decide (er = 0) = bp) := ⟨hbp, (by rw [← hbp]; rcases HT.out with ⟨h1, h2⟩ | ⟨h1, h2⟩; rw [decide_eq_true h1, decide_eq_true h2]; (rw [decide_eq_false (by omega), decide_eq_false (by rw [h2]; decide)]))⟩
                    clear hbp
                    go_upto_region 37 with fail
                    refine wp_region_held (S := fun X => Row X q19 30 x.cells ∧ PlO X u9 (plTo (n / 16) L j)) (by kernel_rfl) ?_
                    show wpAnyH _ _ _ _ _ 17 (Array.replicate 17 false) _ _
                    obtain ⟨X2, hX⟩ : ∃ X2 : World, X2 = { Y3 with drawn := Y3.drawn + 1 } := ⟨_, rfl⟩
                    rw [← hX]
                    have HBX : Hid (Below Y3.heap.size Y3 X2) := (by rw [hX]; exact ⟨rfl, rfl, rfl, Nat.le_refl _, fun _ _ => rfl⟩)
                    have HS_ : Row X2 q19 30 x.cells ∧ PlO X2 u9 (plTo (n / 16) L j) := ⟨HQ.out.1.later HBX.out HQ.out.1.lt, HA.out.f.kept fun b e => HBX.out.block b (HA.out.f.lt e)⟩
                    replace HA : Hid (Ag w X2 c2 gp gh gf gm gs gr m2 n (usAt (n / 16) L (i + 1)) (20 * j + 20 * (i + 1)) u9 (plTo (n / 16) L j) u13 []) := HA.out.bel HBX.out
                    clear hX
                    refine takeH (i := 0) (some 137) rfl rfl (by kernel_rfl) (by kernel_rfl) (by kernel_rfl) (fun _ _ _ h => h) (gRun rfl (.agg (x.cells).toArray) fun _ h => run_loadA ag30 (.tmp 19) rfl q19 (0) rfl (x.cells) rfl (rows_one h.1)) HS_ ?_
                    simp only [Act.put, aS, aC, aZ]
                    refine takeH (i := 1) (some 138) rfl rfl (by kernel_rfl) (by kernel_rfl) (by kernel_rfl) (fun _ _ _ h => h) (gRun rfl u9 fun _ h => run_mvZ (.tmp 9) rfl u9 rfl) HS_ ?_
                    simp only [Act.put, aS, aC, aZ]
                    refine takeH (i := 2) (some 139) rfl rfl (by kernel_rfl) (by kernel_rfl) (by kernel_rfl) (fun _ _ _ h => h) (gRun rfl (.int .i64 (i : Nat)) fun _ h => run_mvZ (.tmp 18) rfl (.int .i64 (i : Nat)) rfl) HS_ ?_
                    simp only [Act.put, aS, aC, aZ]
                    refine takeH (i := 3) (some 140) rfl rfl (by kernel_rfl) (by kernel_rfl) (by kernel_rfl) (fun _ _ _ h => h) (gRun rfl (.pointer (some ⟨bF, i * 4, none⟩)) fun _ h => run_idx (.tmp 138) (.tmp 139) rfl _ _ _ rfl rfl HX.out.1) HS_ ?_
                    simp only [Act.put, aS, aC, aZ]
                    refine takeH (i := 4) (some 141) rfl rfl (by kernel_rfl) (by kernel_rfl) (by kernel_rfl) (fun _ _ _ h => h) (gRun rfl (.agg (x.cells).toArray) fun _ h => run_loadA ag30 (.tmp 140) rfl bF (i * 4) rfl (x.cells) rfl (HX.out.2 _ h.2)) HS_ ?_
                    simp only [Act.put, aS, aC, aZ]
                    refine takeH (i := 5) (some 142) rfl rfl (by kernel_rfl) (by kernel_rfl) (by kernel_rfl) (fun _ _ _ h => h) (gRun rfl (.bool false) fun _ h => run_nePl (.tmp 137) (.tmp 141) rfl x.dv x.at_ x.ln x.dv x.at_ x.ln x.bd x.bd rfl rfl false (by simp)) HS_ ?_
                    simp only [Act.put, aS, aC, aZ]
                    refine takeH (i := 6) (some 143) rfl rfl (by kernel_rfl) (by kernel_rfl) (by kernel_rfl) (fun _ _ _ h => h) (gRun rfl (.bool false) fun _ h => run_mvZ (.tmp 142) rfl (.bool false) rfl) HS_ ?_
                    simp only [Act.put, aS, aC, aZ]
                    refine takeH (i := 7) (some 144) rfl rfl (by kernel_rfl) (by kernel_rfl) (by kernel_rfl) (fun _ _ _ h => h) (gRun (by kernel_rfl) (.int .i64 er) fun _ h => run_mvZ (.tmp 20) rfl (.int .i64 er) rfl) HS_ ?_
                    simp only [Act.put, aS, aC, aZ]
                    refine takeH (i := 8) (some 145) rfl rfl (by kernel_rfl) (by kernel_rfl) (by kernel_rfl) (fun _ _ _ h => h) (gRun (by kernel_rfl) (.bool bp) fun _ h => run_eqZ (.tmp 144) (.const (.int .i64 0)) rfl er 0 rfl rfl bp HBP.out.2) HS_ ?_
                    simp only [Act.put, aS, aC, aZ]
                    refine takeH (i := 9) (some 146) rfl rfl (by kernel_rfl) (by kernel_rfl) (by kernel_rfl) (fun _ _ _ h => h) (gRun (by kernel_rfl) u9 fun _ h => run_mvZ (.tmp 9) rfl u9 rfl) HS_ ?_
                    simp only [Act.put, aS, aC, aZ]
                    refine takeH (i := 10) (some 147) rfl rfl (by kernel_rfl) (by kernel_rfl) (by kernel_rfl) (fun _ _ _ h => h) (gRun (by kernel_rfl) (.int .i64 (i : Nat)) fun _ h => run_mvZ (.tmp 18) rfl (.int .i64 (i : Nat)) rfl) HS_ ?_
                    simp only [Act.put, aS, aC, aZ]
                    refine takeH (i := 11) (some 148) rfl rfl (by kernel_rfl) (by kernel_rfl) (by kernel_rfl) (fun _ _ _ h => h) (gRun (by kernel_rfl) (.pointer (some ⟨bF, i * 4, none⟩)) fun _ h => run_idx (.tmp 146) (.tmp 147) rfl _ _ _ rfl rfl HX.out.1) HS_ ?_
                    simp only [Act.put, aS, aC, aZ]
                    refine takeH (i := 12) (some 149) rfl rfl (by kernel_rfl) (by kernel_rfl) (by kernel_rfl) (fun _ _ _ h => h) (gRun (by kernel_rfl) (.pointer (some ⟨bF, i * 4 + 2, none⟩)) fun _ h => run_fieldOp' f30_2 (.tmp 148) rfl bF (i * 4) rfl) HS_ ?_
                    simp only [Act.put, aS, aC, aZ]
                    refine takeH (i := 13) (some 150) rfl rfl (by kernel_rfl) (by kernel_rfl) (by kernel_rfl) (fun _ _ _ h => h) (gRun (by kernel_rfl) (.int .i64 x.ln) fun _ h => run_load1 o3 (.tmp 149) rfl bF (i * 4 + 2) rfl (.int .i64 x.ln) (HX.out.2 _ h.2 2 _ rfl)) HS_ ?_
                    simp only [Act.put, aS, aC, aZ]
                    refine takeH (i := 14) (some 151) rfl rfl (by kernel_rfl) (by kernel_rfl) (by kernel_rfl) (fun _ _ _ h => h) (gRun (by kernel_rfl) (.bool bp) fun _ h => run_gtrZ (.tmp 150) (.const (.int .i64 0)) rfl x.ln 0 rfl rfl bp HBP.out.1) HS_ ?_
                    simp only [Act.put, aS, aC, aZ]
                    refine takeH (i := 15) (some 152) rfl rfl (by kernel_rfl) (by kernel_rfl) (by kernel_rfl) (fun _ _ _ h => h) (gRun (by kernel_rfl) (.bool false) fun _ h => run_neB (.tmp 145) (.tmp 151) rfl bp rfl rfl) HS_ ?_
                    simp only [Act.put, aS, aC, aZ]
                    refine takeH (i := 16) (some 153) rfl rfl (by kernel_rfl) (by kernel_rfl) (by kernel_rfl) (fun _ _ _ h => h) (gRun rfl (.bool false) fun _ h => run_pickZ (.tmp 143) (.const (.bool true)) (.tmp 152) rfl false (.bool false) rfl rfl) HS_ ?_
                    simp only [Act.put, aS, aC, aZ]
                    refine wpAnyH_done (by kernel_rfl) ?_ _
                    go_wp2_with fail
                    refine ⟨⟨i + 1, by go_num, by omega, ⟨c2, m2, HA.out⟩⟩, ?_⟩
                    simp [intOf]; omega
                  · refine opValueG (some 19) rfl rfl rfl (ptr X.heap.size) _ (run_allocA (plC 0 0 0 false) zero30 rfl) ?_
                    have hb_ := below_alloc X (.cells (plC 0 0 0 false).toArray 30)
                    have r_ := Row.new X 30 (plC 0 0 0 false)
                    obtain ⟨Y1, hW_⟩ : ∃ U_ : World, U_ = X.alloc (.cells (plC 0 0 0 false).toArray 30) := ⟨_, rfl⟩
                    obtain ⟨q19, hq_⟩ : ∃ q, q = X.heap.size := ⟨_, rfl⟩
                    rw [← hW_] at hb_
                    rw [← hW_, ← hq_] at r_
                    rw [← hW_, ← hq_]
                    have HQ : Hid (Row Y1 q19 30 (plC 0 0 0 false) ∧ Out w Y1 ci gh gf gm q19 ∧ (∀ b, u9.ownBlock = some b → b ≠ q19) ∧ (∀ b, u13.ownBlock = some b → b ≠ q19)) := ⟨r_, Out.new HA.out.h (by omega) r_.lt, fun b e => (by have := HA.out.f.lt e; omega), fun b e => (by have := HA.out.l.lt e; omega)⟩
                    replace HA : Hid (Ag w Y1 ci gp gh gf gm gs gr mi n (usAt (n / 16) L i) (20 * j + 20 * i) u9 (plTo (n / 16) L j) u13 []) := HA.out.bel hb_
                    clear r_ hb_ hW_ hq_
                    refine ⟨⟨HA.out.st, HA.out.h.pl.below⟩, ?_⟩
                    simp only [Act.put, aS, aC, aZ]
                    refine oneH (i := 8) (by kernel_rfl) ?_
                    refine opCallG (some 134) rfl rfl rfl 21 _ (run_call eN21 [.tmp 129, .tmp 133] _ rfl [(ptr gh), ub] rfl) ?_
                    refine (HA.out.h.appendU (by omega) HA.out.fu ub (L.getD i []) (HXR.out.2.1 _ HA.out.h.pl.below).2).mono ?_
                    rintro e Y2 ⟨c2, m2, er, he_, hs_, hf_, hh_, ht_⟩
                    have he_ : e = .returned (.tuple #[.agg x.cells.toArray, .int .i64 er]) := (by rw [HXR.out.2.2]; exact he_)
                    subst he_
                    refine ⟨_, rfl, ?_⟩
                    have HT : Hid (Told er x) := (by rw [HXR.out.2.2]; exact ht_)
                    replace HQ : Hid (Row Y2 q19 30 (plC 0 0 0 false) ∧ Out w Y2 c2 gh gf gm q19 ∧ (∀ b, u9.ownBlock = some b → b ≠ q19) ∧ (∀ b, u13.ownBlock = some b → b ≠ q19)) := ⟨HQ.out.2.1.row hs_ HQ.out.1, (HQ.out.2.1.step hs_).1, HQ.out.2.2⟩
                    replace HA : Hid (Ag w Y2 c2 gp gh gf gm gs gr m2 n (usAt (n / 16) L (i + 1)) (20 * j + 20 * (i + 1)) u9 (plTo (n / 16) L j) u13 []) := HA.out.sq hs_ hh_ hf_
                    clear hs_ hf_ hh_ ht_
                    refine ⟨⟨HA.out.st, HA.out.h.pl.below⟩, ?_⟩
                    simp only [Act.put, aS, aC, aZ]
                    refine takeH (i := 9) (some 125) rfl rfl (by kernel_rfl) (by kernel_rfl) (by kernel_rfl) (fun _ _ _ h => h) (gRun rfl (.tuple #[(.agg x.cells.toArray), (.int .i64 er)]) fun _ h => run_mvZ (.tmp 134) rfl (.tuple #[(.agg x.cells.toArray), (.int .i64 er)]) rfl) ⟨HA.out.st, HA.out.h.pl.below⟩ ?_
                    simp only [Act.put, aS, aC, aZ]
                    refine takeH (i := 10) (some 135) rfl rfl (by kernel_rfl) (by kernel_rfl) (by kernel_rfl) (fun _ _ _ h => h) (gRun rfl (.agg x.cells.toArray) fun _ h => run_extZ (.tmp 125) 0 rfl #[(.agg x.cells.toArray), (.int .i64 er)] rfl (.agg x.cells.toArray) rfl) ⟨HA.out.st, HA.out.h.pl.below⟩ ?_
                    simp only [Act.put, aS, aC, aZ]
                    refine takeH (i := 11) (some 136) rfl rfl (by kernel_rfl) (by kernel_rfl) (by kernel_rfl) (fun _ _ _ h => h) (gRun rfl (.int .i64 er) fun _ h => run_extZ (.tmp 125) 1 rfl #[(.agg x.cells.toArray), (.int .i64 er)] rfl (.int .i64 er) rfl) ⟨HA.out.st, HA.out.h.pl.below⟩ ?_
                    simp only [Act.put, aS, aC, aZ]
                    refine oneH (i := 13) (by kernel_rfl) ?_
                    refine opSkipZ rfl rfl rfl _ (run_storeA ag30 (.tmp 19) (.tmp 135) rfl q19 30 rfl x.cells _ rfl rfl HQ.out.1 rfl (plC_one _ _ _ _)) ?_
                    have hb_ := (Ch.setRow (S := (· = q19)) (Ch.refl _ Y2) (Or.inl rfl) x.cells.toArray)
                    have r_ := HQ.out.1.setRow x.cells
                    obtain ⟨Y3, hW_⟩ : ∃ U_ : World, U_ = Y2.setRow q19 x.cells.toArray := ⟨_, rfl⟩
                    rw [← hW_] at hb_ r_ ⊢
                    replace HA : Hid (Ag w Y3 c2 gp gh gf gm gs gr m2 n (usAt (n / 16) L (i + 1)) (20 * j + 20 * (i + 1)) u9 (plTo (n / 16) L j) u13 []) := HA.out.put hb_ HQ.out.2.1 (row_ne HA.out.st HQ.out.1 (by decide)) HQ.out.2.2.1 HQ.out.2.2.2
                    replace HQ : Hid (Row Y3 q19 30 x.cells ∧ Out w Y3 c2 gh gf gm q19 ∧ (∀ b, u9.ownBlock = some b → b ≠ q19) ∧ (∀ b, u13.ownBlock = some b → b ≠ q19)) := ⟨r_, HQ.out.2.1.bel hb_.size, HQ.out.2.2⟩
                    clear r_ hb_ hW_
                    refine ⟨⟨HA.out.st, HA.out.h.pl.below⟩, ?_⟩
                    refine takeH (i := 14) (some 20) rfl rfl (by kernel_rfl) (by kernel_rfl) (by kernel_rfl) (fun _ _ _ h => h) (gRun rfl (.int .i64 er) fun _ h => run_asZ (.tmp 136) rfl (.int .i64 er) rfl) ⟨HA.out.st, HA.out.h.pl.below⟩ ?_
                    simp only [Act.put, aS, aC, aZ]
                    refine wpAnyH_done (by kernel_rfl) ?_ _
                    obtain ⟨bF, _, hx_, hc_⟩ := HA.out.f.ix i (by rw [plTo_length]; omega)
                    rw [plTo_at _ _ _ _ (by omega), ← HXR.out.2.2] at hc_
                    have HX : Hid ((∀ w', (Instr.indexAt 43 u9 (.int .i64 (i : Nat))).run Tryd.prog w' = .ok (.pointer (some ⟨bF, i * 4, none⟩)) w') ∧ (∀ W : World, PlO W u9 (plTo (n / 16) L j) → ∀ (k : Nat) u, x.cells[k]? = some u → W.cell? ⟨bF, i * 4 + k, none⟩ = some u)) := ⟨hx_, hc_⟩
                    clear hx_ hc_
                    obtain ⟨bp, hbp⟩ : ∃ b, decide (0 < x.ln) = b := ⟨_, rfl⟩
                    have HBP : Hid (decide (0 < x.ln) = bp ∧ decide (er = 0) = bp) := ⟨hbp, (by rw [← hbp]; rcases HT.out with ⟨h1, h2⟩ | ⟨h1, h2⟩; rw [decide_eq_true h1, decide_eq_true h2]; (rw [decide_eq_false (by omega), decide_eq_false (by rw [h2]; decide)]))⟩
                    clear hbp
                    go_upto_region 37 with fail
                    refine wp_region_held (S := fun X => Row X q19 30 x.cells ∧ PlO X u9 (plTo (n / 16) L j)) (by kernel_rfl) ?_
                    show wpAnyH _ _ _ _ _ 17 (Array.replicate 17 false) _ _
                    obtain ⟨X2, hX⟩ : ∃ X2 : World, X2 = { Y3 with drawn := Y3.drawn + 1 } := ⟨_, rfl⟩
                    rw [← hX]
                    have HBX : Hid (Below Y3.heap.size Y3 X2) := (by rw [hX]; exact ⟨rfl, rfl, rfl, Nat.le_refl _, fun _ _ => rfl⟩)
                    have HS_ : Row X2 q19 30 x.cells ∧ PlO X2 u9 (plTo (n / 16) L j) := ⟨HQ.out.1.later HBX.out HQ.out.1.lt, HA.out.f.kept fun b e => HBX.out.block b (HA.out.f.lt e)⟩
                    replace HA : Hid (Ag w X2 c2 gp gh gf gm gs gr m2 n (usAt (n / 16) L (i + 1)) (20 * j + 20 * (i + 1)) u9 (plTo (n / 16) L j) u13 []) := HA.out.bel HBX.out
                    clear hX
                    refine takeH (i := 0) (some 137) rfl rfl (by kernel_rfl) (by kernel_rfl) (by kernel_rfl) (fun _ _ _ h => h) (gRun rfl (.agg (x.cells).toArray) fun _ h => run_loadA ag30 (.tmp 19) rfl q19 (0) rfl (x.cells) rfl (rows_one h.1)) HS_ ?_
                    simp only [Act.put, aS, aC, aZ]
                    refine takeH (i := 1) (some 138) rfl rfl (by kernel_rfl) (by kernel_rfl) (by kernel_rfl) (fun _ _ _ h => h) (gRun rfl u9 fun _ h => run_mvZ (.tmp 9) rfl u9 rfl) HS_ ?_
                    simp only [Act.put, aS, aC, aZ]
                    refine takeH (i := 2) (some 139) rfl rfl (by kernel_rfl) (by kernel_rfl) (by kernel_rfl) (fun _ _ _ h => h) (gRun rfl (.int .i64 (i : Nat)) fun _ h => run_mvZ (.tmp 18) rfl (.int .i64 (i : Nat)) rfl) HS_ ?_
                    simp only [Act.put, aS, aC, aZ]
                    refine takeH (i := 3) (some 140) rfl rfl (by kernel_rfl) (by kernel_rfl) (by kernel_rfl) (fun _ _ _ h => h) (gRun rfl (.pointer (some ⟨bF, i * 4, none⟩)) fun _ h => run_idx (.tmp 138) (.tmp 139) rfl _ _ _ rfl rfl HX.out.1) HS_ ?_
                    simp only [Act.put, aS, aC, aZ]
                    refine takeH (i := 4) (some 141) rfl rfl (by kernel_rfl) (by kernel_rfl) (by kernel_rfl) (fun _ _ _ h => h) (gRun rfl (.agg (x.cells).toArray) fun _ h => run_loadA ag30 (.tmp 140) rfl bF (i * 4) rfl (x.cells) rfl (HX.out.2 _ h.2)) HS_ ?_
                    simp only [Act.put, aS, aC, aZ]
                    refine takeH (i := 5) (some 142) rfl rfl (by kernel_rfl) (by kernel_rfl) (by kernel_rfl) (fun _ _ _ h => h) (gRun rfl (.bool false) fun _ h => run_nePl (.tmp 137) (.tmp 141) rfl x.dv x.at_ x.ln x.dv x.at_ x.ln x.bd x.bd rfl rfl false (by simp)) HS_ ?_
                    simp only [Act.put, aS, aC, aZ]
                    refine takeH (i := 6) (some 143) rfl rfl (by kernel_rfl) (by kernel_rfl) (by kernel_rfl) (fun _ _ _ h => h) (gRun rfl (.bool false) fun _ h => run_mvZ (.tmp 142) rfl (.bool false) rfl) HS_ ?_
                    simp only [Act.put, aS, aC, aZ]
                    refine takeH (i := 7) (some 144) rfl rfl (by kernel_rfl) (by kernel_rfl) (by kernel_rfl) (fun _ _ _ h => h) (gRun (by kernel_rfl) (.int .i64 er) fun _ h => run_mvZ (.tmp 20) rfl (.int .i64 er) rfl) HS_ ?_
                    simp only [Act.put, aS, aC, aZ]
                    refine takeH (i := 8) (some 145) rfl rfl (by kernel_rfl) (by kernel_rfl) (by kernel_rfl) (fun _ _ _ h => h) (gRun (by kernel_rfl) (.bool bp) fun _ h => run_eqZ (.tmp 144) (.const (.int .i64 0)) rfl er 0 rfl rfl bp HBP.out.2) HS_ ?_
                    simp only [Act.put, aS, aC, aZ]
                    refine takeH (i := 9) (some 146) rfl rfl (by kernel_rfl) (by kernel_rfl) (by kernel_rfl) (fun _ _ _ h => h) (gRun (by kernel_rfl) u9 fun _ h => run_mvZ (.tmp 9) rfl u9 rfl) HS_ ?_
                    simp only [Act.put, aS, aC, aZ]
                    refine takeH (i := 10) (some 147) rfl rfl (by kernel_rfl) (by kernel_rfl) (by kernel_rfl) (fun _ _ _ h => h) (gRun (by kernel_rfl) (.int .i64 (i : Nat)) fun _ h => run_mvZ (.tmp 18) rfl (.int .i64 (i : Nat)) rfl) HS_ ?_
                    simp only [Act.put, aS, aC, aZ]
                    refine takeH (i := 11) (some 148) rfl rfl (by kernel_rfl) (by kernel_rfl) (by kernel_rfl) (fun _ _ _ h => h) (gRun (by kernel_rfl) (.pointer (some ⟨bF, i * 4, none⟩)) fun _ h => run_idx (.tmp 146) (.tmp 147) rfl _ _ _ rfl rfl HX.out.1) HS_ ?_
                    simp only [Act.put, aS, aC, aZ]
                    refine takeH (i := 12) (some 149) rfl rfl (by kernel_rfl) (by kernel_rfl) (by kernel_rfl) (fun _ _ _ h => h) (gRun (by kernel_rfl) (.pointer (some ⟨bF, i * 4 + 2, none⟩)) fun _ h => run_fieldOp' f30_2 (.tmp 148) rfl bF (i * 4) rfl) HS_ ?_
                    simp only [Act.put, aS, aC, aZ]
                    refine takeH (i := 13) (some 150) rfl rfl (by kernel_rfl) (by kernel_rfl) (by kernel_rfl) (fun _ _ _ h => h) (gRun (by kernel_rfl) (.int .i64 x.ln) fun _ h => run_load1 o3 (.tmp 149) rfl bF (i * 4 + 2) rfl (.int .i64 x.ln) (HX.out.2 _ h.2 2 _ rfl)) HS_ ?_
                    simp only [Act.put, aS, aC, aZ]
                    refine takeH (i := 14) (some 151) rfl rfl (by kernel_rfl) (by kernel_rfl) (by kernel_rfl) (fun _ _ _ h => h) (gRun (by kernel_rfl) (.bool bp) fun _ h => run_gtrZ (.tmp 150) (.const (.int .i64 0)) rfl x.ln 0 rfl rfl bp HBP.out.1) HS_ ?_
                    simp only [Act.put, aS, aC, aZ]
                    refine takeH (i := 15) (some 152) rfl rfl (by kernel_rfl) (by kernel_rfl) (by kernel_rfl) (fun _ _ _ h => h) (gRun (by kernel_rfl) (.bool false) fun _ h => run_neB (.tmp 145) (.tmp 151) rfl bp rfl rfl) HS_ ?_
                    simp only [Act.put, aS, aC, aZ]
                    refine takeH (i := 16) (some 153) rfl rfl (by kernel_rfl) (by kernel_rfl) (by kernel_rfl) (fun _ _ _ h => h) (gRun rfl (.bool false) fun _ h => run_pickZ (.tmp 143) (.const (.bool true)) (.tmp 152) rfl false (.bool false) rfl rfl) HS_ ?_
                    simp only [Act.put, aS, aC, aZ]
                    refine wpAnyH_done (by kernel_rfl) ?_ _
                    go_wp2_with fail
                    refine ⟨⟨i + 1, by go_num, by omega, ⟨c2, m2, HA.out⟩⟩, ?_⟩
                    simp [intOf]; omega
                · go_upto_region 34 with fail
                  refine wp_region_lit ?_
                  refine wl rfl (.int .i64 (i : Nat)) _ (run_mvZ (.tmp 18) rfl (.int .i64 (i : Nat)) rfl) ?_
                  simp only [Act.put, aS, aC, aZ]
                  refine wl rfl vl _ (run_mvZ (.tmp 1) rfl vl rfl) ?_
                  simp only [Act.put, aS, aC, aZ]
                  refine wl rfl (.int .i64 (L.length : Nat)) _ (run_lenR HM.out.2.2.1 (.tmp 120) rfl rfl) ?_
                  simp only [Act.put, aS, aC, aZ]
                  refine wl rfl (.bool false) _ (run_lssZ (.tmp 119) (.tmp 121) rfl (i : Nat) (L.length : Nat) rfl rfl false (decide_eq_false (by omega))) ?_
                  simp only [Act.put, aS, aC, aZ]
                  refine wpList_nil ?_
                  go_upto_region 39 with fail
                  refine wp_region_lit ?_
                  refine wl rfl (.bool true) _ (run_mvZ (.tmp 7) rfl (.bool true) rfl) ?_
                  simp only [Act.put, aS, aC, aZ]
                  refine wl rfl (.bool true) _ (run_asZ (.tmp 154) rfl (.bool true) rfl) ?_
                  simp only [Act.put, aS, aC, aZ]
                  refine wpList_nil ?_
                  go_wp2_with fail
                  rw [HPQ.out]
                  exact ⟨rfl, HI.out.h.pl.below⟩

end Go.Proofs.YtofocpmpnjjnkaaDoor

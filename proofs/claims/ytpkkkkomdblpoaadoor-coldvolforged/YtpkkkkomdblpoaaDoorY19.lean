/- Layer 15: names, tags, pieces, how many blocks. Layer 15: a tape's length; labels. -/
import Derived.Test.YtpkkkkomdblpoaaDoorY18
namespace Go.Proofs.YtpkkkkomdblpoaaDoor
open Go.RowKit Go.Maps


theorem results_cell1 {fn : Func} {p : Tmp} {t n : Nat} (ht : AggT t n) (h : fn.results = #[.cell p t]) (tmps : Array Value) (w : World) (g T : Nat) (hp : tmps.getD p undef = .pointer (some ⟨g, 0, none⟩)) (cs : List Value) (hn : cs.length = n) (hr : Row w g T cs) :
  (results fn tmps).run Tryd.prog w = .ok (.agg cs.toArray) w := by
 have hl := run_loadVar ht w g 0 cs hn (fun j v hv => by rw [Nat.zero_add]; exact hr.at j v hv)
 have hp' : tmps[p]?.getD undef = .pointer (some ⟨g, 0, none⟩) := by simpa using hp
 simp [results, h, hp', asAddr, hl]
theorem run_quo56 {w : World} {a : Act} {o : Oper} (x : Operand) (ho : o.op = .binOp .quo 3 x (.const (.int .i64 56)) 3) (n : Nat) (hn : n ≤ 1000000) (hx : a.eval x = .int .i64 ((n + 55 : Nat) : Int)) : (execOp a.eval o).run Tryd.prog w = .ok (.value (.int .i64 (Cold.np n : Nat))) w := by
 have e : ((n : Int) + 55).tdiv 56 = ((n + 55) / 56 : Nat) := by
  rw [Int.tdiv_eq_ediv_of_nonneg (by omega)]
  omega
 have e2 : IntKind.i64.wrap (((n + 55) / 56 : Nat) : Int) = (((n + 55) / 56 : Nat) : Int) := wrap_i64 _ (by omega) (by omega)
 have e3 : ((n : Int) + 55) / 56 = (((n + 55) / 56 : Nat) : Int) := (by omega)
 simp only [execOp, ho, hx]
 simp [go_sem, e]
 rw [e3, e2]
 rfl
open Cold
theorem splice_zs {n : Nat} (cs : List Nat) (h : cs.length = n) : splice (bcells (Zs n)) 0 (bcells cs) = bcells cs := splice_all _ _ (by rw [bcells_length, bz]; exact h)
theorem splice_pc (cs : List Nat) : splice (bcells (Zs 56)) 0 (bcells (cs.take (min cs.length 56))) = bcells (pc cs) := by
 have e : cs.take (min cs.length 56) = cs.take 56 := by
  rcases Nat.le_total cs.length 56 with h | h
  ·rw [Nat.min_eq_left h, List.take_of_length_le (Nat.le_refl _), List.take_of_length_le h]
  ·rw [Nat.min_eq_right h]
 rw [e]
 unfold splice pc
 rw [List.take_zero, List.nil_append, bcells_append, bcells_length, List.length_take, Nat.zero_add]
 congr 1
 unfold Zs bcells
 rw [List.map_replicate, List.map_replicate, List.drop_replicate]
 congr 1
 omega
theorem all_snoc (id : List Nat) (k : Nat) (h : k < id.length) : (id.take (k + 1)).all sign = ((id.take k).all sign && sign (id.getD k 0)) := by
 have e : id.take (k + 1) = id.take k ++ [id.getD k 0] := by
  rw [List.take_add_one]
  simp [h]
 rw [e, List.all_append]
 simp
theorem name_not (id : List Nat) (k : Nat) (h : k < id.length) (hs : sign (id.getD k 0) = false) : nameB id = false := by
 unfold nameB
 have : id.all sign = false := by
  rw [List.all_eq_false]
  exact ⟨id[k], List.getElem_mem h, by simpa [h] using hs⟩
 rw [this, Bool.and_false]
set_option maxHeartbeats 4000000 in
set_option maxRecDepth 100000 in
theorem isName_any (id : List Nat) (hb : ∀ c ∈ id, c < 256) (w : World) : Calls Tryd.prog 37 #[str id] w fun e w' => e = .returned (.bool (nameB id)) ∧ Below w.heap.size w w' := by
 have HB : Hid (∀ c ∈ id, c < 256) := hb
 clear hb
 obtain ⟨PQ, HPQ⟩ := exPQ fun (e : Ending) (w' : World) => e = .returned (.bool (nameB id)) ∧ Below w.heap.size w w'
 rw [← HPQ.out]
 go_enter Tryd.func37, Tryd.ntmps37
 go_upto_region 0 with fail
 refine wp_region_lit ?_
 refine wl rfl (.bool false) _ (run_asZ (.const (.bool false)) rfl (.bool false) rfl) ?_
 simp only [Act.put, aS, aC, aZ]
 refine wpList_nil ?_
 by_cases h0 : id.length < 1
 ·go_upto_region 1 with fail
  refine wp_region_lit ?_
  refine wl rfl (str id) _ (run_mvZ (.tmp 0) rfl (str id) rfl) ?_
  refine wl rfl (.int .i64 (id.length : Nat)) _ (run_lenStr id (.tmp 5) rfl rfl) ?_
  refine wl rfl (.bool true) _ (run_lssZ (.tmp 6) (.const (.int .i64 1)) rfl (id.length : Nat) 1 rfl rfl true (decide_eq_true (by omega))) ?_
  simp only [Act.put, aS, aC, aZ]
  refine wl rfl (.bool true) _ (run_mvZ (.tmp 7) rfl (.bool true) rfl) ?_
  simp only [Act.put, aS, aC, aZ]
  refine wpList_skip (by kernel_rfl) ?_
  simp only [Act.put, aS, aC, aZ]
  refine wpList_skip (by kernel_rfl) ?_
  simp only [Act.put, aS, aC, aZ]
  refine wpList_skip (by kernel_rfl) ?_
  simp only [Act.put, aS, aC, aZ]
  refine wl rfl (.bool true) _ (run_pickZ (.tmp 8) (.const (.bool true)) (.tmp 11) rfl true (.bool true) rfl rfl) ?_
  simp only [Act.put, aS, aC, aZ]
  refine wpList_nil ?_
  go_upto_region 2 with fail
  refine wp_region_lit ?_
  refine wl rfl (.bool false) _ (run_asZ (.const (.bool false)) rfl (.bool false) rfl) ?_
  simp only [Act.put, aS, aC, aZ]
  refine wpList_nil ?_
  go_wp2_with fail
  rw [HPQ.out]
  refine ⟨?_, Below.refl _ _⟩
  have : nameB id = false := (by unfold nameB; simp; omega)
  rw [this] <;> rfl
 by_cases h1 : 16 < id.length
 ·go_upto_region 1 with fail
  refine wp_region_lit ?_
  refine wl rfl (str id) _ (run_mvZ (.tmp 0) rfl (str id) rfl) ?_
  refine wl rfl (.int .i64 (id.length : Nat)) _ (run_lenStr id (.tmp 5) rfl rfl) ?_
  refine wl rfl (.bool false) _ (run_lssZ (.tmp 6) (.const (.int .i64 1)) rfl (id.length : Nat) 1 rfl rfl false (decide_eq_false (by omega))) ?_
  simp only [Act.put, aS, aC, aZ]
  refine wl rfl (.bool false) _ (run_mvZ (.tmp 7) rfl (.bool false) rfl) ?_
  refine wl (by kernel_rfl) (str id) _ (run_mvZ (.tmp 0) rfl (str id) rfl) ?_
  refine wl (by kernel_rfl) (.int .i64 (id.length : Nat)) _ (run_lenStr id (.tmp 9) rfl rfl) ?_
  simp only [Act.put, aS, aC, aZ]
  refine wl (by kernel_rfl) (.bool true) _ (run_gtrZ (.tmp 10) (.const (.int .i64 16)) rfl (id.length : Nat) 16 rfl rfl true (decide_eq_true (by omega))) ?_
  refine wl rfl (.bool true) _ (run_pickZ (.tmp 8) (.const (.bool true)) (.tmp 11) rfl false (.bool true) rfl rfl) ?_
  simp only [Act.put, aS, aC, aZ]
  refine wpList_nil ?_
  go_upto_region 2 with fail
  refine wp_region_lit ?_
  refine wl rfl (.bool false) _ (run_asZ (.const (.bool false)) rfl (.bool false) rfl) ?_
  simp only [Act.put, aS, aC, aZ]
  refine wpList_nil ?_
  go_wp2_with fail
  rw [HPQ.out]
  refine ⟨?_, Below.refl _ _⟩
  have : nameB id = false := (by unfold nameB; simp; omega)
  rw [this] <;> rfl
 go_upto_region 1 with fail
 refine wp_region_lit ?_
 refine wl rfl (str id) _ (run_mvZ (.tmp 0) rfl (str id) rfl) ?_
 refine wl rfl (.int .i64 (id.length : Nat)) _ (run_lenStr id (.tmp 5) rfl rfl) ?_
 refine wl rfl (.bool false) _ (run_lssZ (.tmp 6) (.const (.int .i64 1)) rfl (id.length : Nat) 1 rfl rfl false (decide_eq_false (by omega))) ?_
 simp only [Act.put, aS, aC, aZ]
 refine wl rfl (.bool false) _ (run_mvZ (.tmp 7) rfl (.bool false) rfl) ?_
 refine wl (by kernel_rfl) (str id) _ (run_mvZ (.tmp 0) rfl (str id) rfl) ?_
 refine wl (by kernel_rfl) (.int .i64 (id.length : Nat)) _ (run_lenStr id (.tmp 9) rfl rfl) ?_
 simp only [Act.put, aS, aC, aZ]
 refine wl (by kernel_rfl) (.bool false) _ (run_gtrZ (.tmp 10) (.const (.int .i64 16)) rfl (id.length : Nat) 16 rfl rfl false (decide_eq_false (by omega))) ?_
 refine wl rfl (.bool false) _ (run_pickZ (.tmp 8) (.const (.bool true)) (.tmp 11) rfl false (.bool false) rfl rfl) ?_
 simp only [Act.put, aS, aC, aZ]
 refine wpList_nil ?_
 have H16 : Hid (1 ≤ id.length ∧ id.length ≤ 16) := ⟨by omega, by omega⟩
 go_upto_region 3 with fail
 refine wp_region_lit ?_
 refine wl rfl (str id) _ (run_mvZ (.tmp 0) rfl (str id) rfl) ?_
 simp only [Act.put, aS, aC, aZ]
 obtain ⟨vb, w1, hr_, ho_, hb_⟩ := run_strBs w id HB.out (by omega)
 refine wl rfl vb w1 (hr_ _ _ (.tmp 13) rfl rfl) ?_
 have H1 : Hid (SliceIn w1 vb id ∧ Below w.heap.size w w1) := ⟨ho_.slice, hb_⟩
 clear ho_ hb_ hr_
 simp only [Act.put, aS, aC, aZ]
 refine wl rfl (.int .i64 (id.length : Nat)) _ (run_lenS H1.out.1 (.tmp 14) rfl rfl) ?_
 refine wl rfl (.int .i64 0) _ (run_mvZ (.const (.int .i64 0)) rfl (.int .i64 0) rfl) ?_
 simp only [Act.put, aS, aC, aZ]
 refine wpList_nil ?_
 go_wp2_with fail
 go_loopw [4, 16] (fun _ vk W => ∃ k : Nat, vk = .int .i64 (k : Nat) ∧ k ≤ id.length ∧ Hid ((id.take k).all sign = true) ∧ w1 = W) (fun _ vk _ => id.length - (intOf vk).toNat)
 case atStart => exact ⟨0, rfl, Nat.zero_le _, rfl, rfl⟩
 case round =>
  obtain ⟨k, rfl, hk, HA, hw⟩ := hrel
  subst hw
  by_cases hlt : k < id.length
  ·go_upto_region 4 with fail
   refine wp_region_lit ?_
   refine wl rfl (.bool true) _ (run_lssZ (.tmp 16) (.tmp 15) rfl (k : Nat) (id.length : Nat) rfl rfl true (decide_eq_true (by omega))) ?_
   simp only [Act.put, aS, aC, aZ]
   refine wpList_nil ?_
   obtain ⟨bi, ji, hx_, hc_⟩ := H1.out.1.ix k hlt
   obtain ⟨c, hc⟩ : ∃ c, c = id.getD k 0 := ⟨_, rfl⟩
   rw [← hc] at hc_
   have HX : Hid ((∀ w', (Instr.indexAt 38 vb (.int .i64 (k : Nat))).run Tryd.prog w' = .ok (.pointer (some ⟨bi, ji, none⟩)) w') ∧ w1.cell? ⟨bi, ji, none⟩ = some (.int .u8 (c : Nat)) ∧ c = id.getD k 0) := ⟨hx_, hc_, hc⟩
   clear hx_ hc_ hc
   go_upto_region 5 with fail
   refine wp_region_lit ?_
   refine wl rfl (.pointer (some ⟨bi, ji, none⟩)) _ (run_idx (.tmp 14) (.tmp 16) rfl _ _ _ rfl rfl HX.out.1) ?_
   refine wl rfl (.int .u8 (c : Nat)) _ (run_load1 o5 (.tmp 18) rfl bi (ji) rfl (.int .u8 (c : Nat)) HX.out.2.1) ?_
   refine wl rfl (.int .u8 (c : Nat)) _ (run_asZ (.tmp 19) rfl (.int .u8 (c : Nat)) rfl) ?_
   simp only [Act.put, aS, aC, aZ]
   refine wpList_nil ?_
   have HK : Hid (k < id.length) := hlt
   clear hlt hk
   have HSG : Hid (sign c = ((decide (97 ≤ c) && decide (c ≤ 122)) || (decide (48 ≤ c) && decide (c ≤ 57)) || decide (c = 45) || decide (c = 46))) := rfl
   have HN := H16.out
   have hkb : k < 16 := (by have := HK.out; omega)
   go_wp2_with fail
   all_goals (try (rename_i q1 q2 q3 q4; simp at q1 q2 q3 q4))
   all_goals first
    | (rw [HPQ.out]; refine ⟨?_, H1.out.2⟩; rw [name_not id k HK.out (by rw [← HX.out.2.2, HSG.out]; simp <;> omega)] <;> rfl)
    | (refine ⟨⟨k + 1, by go_num, HK.out, by show _ = true; rw [all_snoc id k HK.out, HA.out, ← HX.out.2.2, HSG.out]; simp <;> omega, trivial⟩, ?_⟩; have := HK.out; simp [intOf]; omega)
  ·go_upto_region 4 with fail
   refine wp_region_lit ?_
   refine wl rfl (.bool false) _ (run_lssZ (.tmp 16) (.tmp 15) rfl (k : Nat) (id.length : Nat) rfl rfl false (decide_eq_false (by omega))) ?_
   simp only [Act.put, aS, aC, aZ]
   refine wpList_nil ?_
   go_upto_region 9 with fail
   refine wp_region_lit ?_
   refine wl rfl (.bool true) _ (run_asZ (.const (.bool true)) rfl (.bool true) rfl) ?_
   simp only [Act.put, aS, aC, aZ]
   refine wpList_nil ?_
   go_wp2_with fail
   rw [HPQ.out]
   refine ⟨?_, H1.out.2⟩
   have hh := HA.out
   rw [show k = id.length by omega, List.take_length] at hh
   have h16 := H16.out
   have : nameB id = true := (by unfold nameB; rw [hh]; simp; omega)
   rw [this] <;> rfl
set_option maxHeartbeats 4000000 in
set_option maxRecDepth 100000 in
theorem tagOf_any (k d a i : Nat) (hk : k < 256) (w : World) : Calls Tryd.prog 70 #[.int .u8 (k : Nat), .int .i64 (d : Nat), .int .i64 (a : Nat), .int .i64 (i : Nat)] w fun e w' => e = .returned (av (tg k d a i)) ∧ Below w.heap.size w w' := by
 have HT : Hid (tg k d a i = [k, d % 256, a / 256 % 256, a % 256, i % 256, 0, 0, 0]) := (by show _ = _; unfold tg; rw [Nat.mod_eq_of_lt hk])
 have H0 : Hid (Loc w w []) := Loc.nil (Below.refl _ _)
 obtain ⟨PQ, HPQ⟩ := exPQ fun (e : Ending) (w' : World) => e = .returned (av (tg k d a i)) ∧ Below w.heap.size w w'
 rw [← HPQ.out]
 go_enter Tryd.func70, Tryd.ntmps70
 go_upto_region 0 with fail
 refine wp_region_lit ?_
 refine wl rfl (ptr w.heap.size) _ (run_allocA (bcells (Zs 8)) zero131 rfl) ?_
 have k_ := H0.out.box 131 (bcells (Zs 8))
 obtain ⟨w1, hW_⟩ : ∃ W, W = w.alloc (.cells (bcells (Zs 8)).toArray 131) := ⟨_, rfl⟩
 obtain ⟨q1, hq_⟩ : ∃ q, q = w.heap.size := ⟨_, rfl⟩
 rw [← hW_, ← hq_] at k_
 rw [← hW_, ← hq_]
 clear hq_
 have Rw1 : Hid (Loc w w1 [(q1, 131, bcells (Zs 8))]) := k_
 clear k_ hW_ H0
 simp only [Act.put, aS, aC, aZ]
 refine wpList_nil ?_
 go_upto_region 1 with fail
 refine wp_region_lit ?_
 refine wl rfl (.int .u8 (k : Nat)) _ (run_mvZ (.tmp 0) rfl (.int .u8 (k : Nat)) rfl) ?_
 refine wl rfl (.int .i64 (d : Nat)) _ (run_mvZ (.tmp 1) rfl (.int .i64 (d : Nat)) rfl) ?_
 refine wl rfl (.int .u8 ((d % 256 : Nat) : Int)) _ (run_toU8 (.tmp 10) rfl d rfl) ?_
 simp only [Act.put, aS, aC, aZ]
 refine wl rfl (.int .i64 (a : Nat)) _ (run_mvZ (.tmp 2) rfl (.int .i64 (a : Nat)) rfl) ?_
 refine wl rfl (.int .i64 ((a / 256 : Nat) : Int)) _ (run_shr8 (.tmp 12) rfl a rfl) ?_
 refine wl rfl (.int .u8 ((a / 256 % 256 : Nat) : Int)) _ (run_toU8 (.tmp 13) rfl (a / 256) rfl) ?_
 simp only [Act.put, aS, aC, aZ]
 refine wl rfl (.int .i64 (a : Nat)) _ (run_mvZ (.tmp 2) rfl (.int .i64 (a : Nat)) rfl) ?_
 refine wl rfl (.int .u8 ((a % 256 : Nat) : Int)) _ (run_toU8 (.tmp 15) rfl a rfl) ?_
 refine wl rfl (.int .i64 (i : Nat)) _ (run_mvZ (.tmp 3) rfl (.int .i64 (i : Nat)) rfl) ?_
 simp only [Act.put, aS, aC, aZ]
 refine wl rfl (.int .u8 ((i % 256 : Nat) : Int)) _ (run_toU8 (.tmp 17) rfl i rfl) ?_
 refine wl rfl (av [k, d % 256, a / 256 % 256, a % 256, i % 256, 0, 0, 0]) _ (run_build131 (.tmp 9) (.tmp 11) (.tmp 14) (.tmp 16) (.tmp 18) rfl k (d % 256) (a / 256 % 256) (a % 256) (i % 256) rfl rfl rfl rfl rfl) ?_
 rw [← HT.out]
 simp only [Act.put, aS, aC, aZ]
 refine wlS rfl rfl _ (run_storeL ag131 (.tmp 8) (.tmp 19) rfl Rw1.out 0 rfl (0) rfl (bcells (tg k d a i)) rfl (by rw [bcells_length]; rfl) (by rw [bcells_length, bz, tg_length]; decide) (bcells_one _)).1 ?_
 have k_ := Rw1.out.lay 0 rfl (0) (bcells (tg k d a i))
 rw [splice_zs (n := 8) _ (tg_length k d a i)] at k_ ⊢
 obtain ⟨w2, hW_⟩ : ∃ W, W = w1.setRow q1 (bcells (tg k d a i)).toArray := ⟨_, rfl⟩
 rw [← hW_] at k_ ⊢
 have Rw2 : Hid (Loc w w2 [(q1, 131, bcells (tg k d a i))]) := k_
 clear k_ hW_ Rw1
 refine wpList_nil ?_
 go_wp2_with fail
 rw [HPQ.out]
 exact bodyPost_ret (results_cell1 ag131 Tryd.results70 _ _ q1 131 rfl _ (by rw [bcells_length]; rfl) (Rw2.out.at 0 rfl)) rfl ⟨rfl, Rw2.out.below⟩
set_option maxHeartbeats 4000000 in
set_option maxRecDepth 100000 in
theorem pieceWith_any (v : Value) (cs : List Nat) (w : World) (h : SliceIn w v cs) : Calls Tryd.prog 63 #[v] w fun e w' => e = .returned (av (pc cs)) ∧ Below w.heap.size w w' := by
 have HIN : Hid (SliceIn w v cs) := h
 have H0 : Hid (Loc w w []) := Loc.nil (Below.refl _ _)
 clear h
 obtain ⟨PQ, HPQ⟩ := exPQ fun (e : Ending) (w' : World) => e = .returned (av (pc cs)) ∧ Below w.heap.size w w'
 rw [← HPQ.out]
 go_enter Tryd.func63, Tryd.ntmps63
 go_upto_region 0 with fail
 refine wp_region_lit ?_
 refine wl rfl (ptr w.heap.size) _ (run_allocA (bcells (Zs 56)) zero129 rfl) ?_
 have k_ := H0.out.box 129 (bcells (Zs 56))
 obtain ⟨w1, hW_⟩ : ∃ W, W = w.alloc (.cells (bcells (Zs 56)).toArray 129) := ⟨_, rfl⟩
 obtain ⟨q1, hq_⟩ : ∃ q, q = w.heap.size := ⟨_, rfl⟩
 rw [← hW_, ← hq_] at k_
 rw [← hW_, ← hq_]
 clear hq_
 have Rw1 : Hid (Loc w w1 [(q1, 129, bcells (Zs 56))]) := k_
 clear k_ hW_ H0
 simp only [Act.put, aS, aC, aZ]
 refine wpList_nil ?_
 go_upto_region 1 with fail
 refine wp_region_lit ?_
 refine wl rfl (ptr w1.heap.size) _ (run_allocA (bcells (Zs 56)) zero129 rfl) ?_
 have k_ := Rw1.out.box 129 (bcells (Zs 56))
 obtain ⟨w2, hW_⟩ : ∃ W, W = w1.alloc (.cells (bcells (Zs 56)).toArray 129) := ⟨_, rfl⟩
 obtain ⟨q2, hq_⟩ : ∃ q, q = w1.heap.size := ⟨_, rfl⟩
 rw [← hW_, ← hq_] at k_
 rw [← hW_, ← hq_]
 clear hq_
 have Rw2 : Hid (Loc w w2 [(q1, 129, bcells (Zs 56)), (q2, 129, bcells (Zs 56))]) := k_
 clear k_ hW_ Rw1
 simp only [Act.put, aS, aC, aZ]
 refine wpList_nil ?_
 go_upto_region 2 with fail
 refine wp_region_lit ?_
 refine wl rfl (.slice (some ⟨q2, 0, none⟩) 56 56) _ (run_slA arr129 (.tmp 3) none none rfl q2 0 0 56 rfl ⟨Or.inl ⟨rfl, rfl⟩, Or.inl ⟨rfl, rfl⟩, by omega, by omega, by omega⟩) ?_
 refine wl rfl v _ (run_mvZ (.tmp 0) rfl v rfl) ?_
 simp only [Act.put, aS, aC, aZ]
 obtain ⟨w3, hr_, hrow_, hch_, hsz_⟩ := copyS (g := q2) (off := 0) (dLen := 56) (dCap := 56) (HIN.out.later Rw2.out.below) (Rw2.out.at 1 rfl) (min cs.length 56) rfl (by rw [bz]; omega)
 rw [splice_pc] at hrow_
 refine wl rfl (.int .i64 ((min cs.length 56 : Nat) : Int)) w3 (run_copyOp (.tmp 4) (.tmp 5) rfl (.slice (some ⟨q2, 0, none⟩) 56 56) v _ rfl rfl hr_) ?_
 have k_ := Rw2.out.set 1 rfl hrow_ hch_
 have Rw3 : Hid (Loc w w3 [(q1, 129, bcells (Zs 56)), (q2, 129, bcells (pc cs))]) := k_
 clear hr_ hrow_ hch_ hsz_ k_ Rw2
 simp only [Act.put, aS, aC, aZ]
 refine wpList_nil ?_
 go_upto_region 3 with fail
 refine wp_region_lit ?_
 refine wl rfl (.agg (bcells (pc cs)).toArray) _ (run_loadA ag129 (.tmp 3) rfl q2 (0) rfl (bcells (pc cs)) (by rw [bcells_length, pc_length]) (rows_all Rw3.out 1 rfl)) ?_
 simp only [Act.put, aS, aC, aZ]
 refine wlS rfl rfl _ (run_storeL ag129 (.tmp 2) (.tmp 7) rfl Rw3.out 0 rfl (0) rfl (bcells (pc cs)) rfl (by rw [bcells_length, pc_length]) (by rw [bcells_length, pc_length, bz]; decide) (bcells_one _)).1 ?_
 have k_ := Rw3.out.lay 0 rfl (0) (bcells (pc cs))
 rw [splice_zs _ (pc_length cs)] at k_ ⊢
 obtain ⟨w4, hW_⟩ : ∃ W, W = w3.setRow q1 (bcells (pc cs)).toArray := ⟨_, rfl⟩
 rw [← hW_] at k_ ⊢
 have Rw4 : Hid (Loc w w4 [(q1, 129, bcells (pc cs)), (q2, 129, bcells (pc cs))]) := k_
 clear k_ hW_ Rw3
 refine wpList_nil ?_
 go_wp2_with fail
 rw [HPQ.out]
 exact bodyPost_ret (results_cell1 ag129 Tryd.results63 _ _ q1 129 rfl _ (by rw [bcells_length, pc_length]) (Rw4.out.at 0 rfl)) rfl ⟨rfl, Rw4.out.below⟩
set_option maxHeartbeats 4000000 in
set_option maxRecDepth 100000 in
theorem blocks_any (n : Nat) (hn : n ≤ 9223372036854775807) (w : World) : Calls Tryd.prog 14 #[.int .i64 (n : Nat)] w fun e w' => e = .returned (.int .i64 (nbP n : Nat)) ∧ w = w' := by
 obtain ⟨PQ, HPQ⟩ := exPQ fun (e : Ending) (w' : World) => e = .returned (.int .i64 (nbP n : Nat)) ∧ w = w'
 rw [← HPQ.out]
 go_enter Tryd.func14, Tryd.ntmps14
 by_cases h : 512 < n
 ·go_upto_region 0 with fail
  refine wp_region_lit ?_
  refine wl rfl (.int .i64 0) _ (run_asZ (.const (.int .i64 0)) rfl (.int .i64 0) rfl) ?_
  simp only [Act.put, aS, aC, aZ]
  refine wpList_nil ?_
  go_upto_region 1 with fail
  refine wp_region_lit ?_
  refine wl rfl (.int .i64 (n : Nat)) _ (run_mvZ (.tmp 0) rfl (.int .i64 (n : Nat)) rfl) ?_
  refine wl rfl (.bool false) _ (run_lssZ (.tmp 3) (.const (.int .i64 0)) rfl (n : Nat) 0 rfl rfl false (decide_eq_false (by omega))) ?_
  refine wl rfl (.bool false) _ (run_mvZ (.tmp 4) rfl (.bool false) rfl) ?_
  simp only [Act.put, aS, aC, aZ]
  refine wl (by kernel_rfl) (.int .i64 (n : Nat)) _ (run_mvZ (.tmp 0) rfl (.int .i64 (n : Nat)) rfl) ?_
  refine wl (by kernel_rfl) (.bool true) _ (run_gtrZ (.tmp 6) (.const (.int .i64 512)) rfl (n : Nat) 512 rfl rfl true (decide_eq_true (by omega))) ?_
  refine wl rfl (.bool true) _ (run_pickZ (.tmp 5) (.const (.bool true)) (.tmp 7) rfl false (.bool true) rfl rfl) ?_
  simp only [Act.put, aS, aC, aZ]
  refine wpList_nil ?_
  go_upto_region 2 with fail
  refine wp_region_lit ?_
  refine wl rfl (.int .i64 0) _ (run_asZ (.const (.int .i64 0)) rfl (.int .i64 0) rfl) ?_
  simp only [Act.put, aS, aC, aZ]
  refine wpList_nil ?_
  go_wp2_with fail
  rw [HPQ.out]
  exact ⟨by unfold nbP; rw [if_neg (by omega)]; rfl, rfl⟩
 ·go_upto_region 0 with fail
  refine wp_region_lit ?_
  refine wl rfl (.int .i64 0) _ (run_asZ (.const (.int .i64 0)) rfl (.int .i64 0) rfl) ?_
  simp only [Act.put, aS, aC, aZ]
  refine wpList_nil ?_
  go_upto_region 1 with fail
  refine wp_region_lit ?_
  refine wl rfl (.int .i64 (n : Nat)) _ (run_mvZ (.tmp 0) rfl (.int .i64 (n : Nat)) rfl) ?_
  refine wl rfl (.bool false) _ (run_lssZ (.tmp 3) (.const (.int .i64 0)) rfl (n : Nat) 0 rfl rfl false (decide_eq_false (by omega))) ?_
  refine wl rfl (.bool false) _ (run_mvZ (.tmp 4) rfl (.bool false) rfl) ?_
  simp only [Act.put, aS, aC, aZ]
  refine wl (by kernel_rfl) (.int .i64 (n : Nat)) _ (run_mvZ (.tmp 0) rfl (.int .i64 (n : Nat)) rfl) ?_
  refine wl (by kernel_rfl) (.bool false) _ (run_gtrZ (.tmp 6) (.const (.int .i64 512)) rfl (n : Nat) 512 rfl rfl false (decide_eq_false (by omega))) ?_
  refine wl rfl (.bool false) _ (run_pickZ (.tmp 5) (.const (.bool true)) (.tmp 7) rfl false (.bool false) rfl rfl) ?_
  simp only [Act.put, aS, aC, aZ]
  refine wpList_nil ?_
  go_upto_region 3 with fail
  refine wp_region_lit ?_
  refine wl rfl (.int .i64 (n : Nat)) _ (run_mvZ (.tmp 0) rfl (.int .i64 (n : Nat)) rfl) ?_
  refine wl rfl (.int .i64 ((n + 56 : Nat) : Int)) _ (run_addZ (.tmp 9) (.const (.int .i64 56)) rfl (n : Nat) 56 _ rfl rfl (by omega) (by omega) (by omega)) ?_
  refine wl rfl (.int .i64 ((n + 55 : Nat) : Int)) _ (run_subZ (.tmp 10) (.const (.int .i64 1)) rfl ((n + 56 : Nat) : Int) 1 _ rfl rfl (by omega) (by omega) (by omega)) ?_
  simp only [Act.put, aS, aC, aZ]
  refine wl rfl (.int .i64 (np n : Nat)) _ (run_quo56 (.tmp 11) rfl n (by omega) rfl) ?_
  refine wl rfl (.int .i64 (nb n : Nat)) _ (run_addZ (.const (.int .i64 2)) (.tmp 12) rfl 2 (np n : Nat) _ rfl rfl (by unfold nb; omega) (by omega) (by unfold nb np; omega)) ?_
  refine wl rfl (.int .i64 (nb n : Nat)) _ (run_asZ (.tmp 13) rfl (.int .i64 (nb n : Nat)) rfl) ?_
  simp only [Act.put, aS, aC, aZ]
  refine wpList_nil ?_
  go_wp2_with fail
  rw [HPQ.out]
  exact ⟨by unfold nbP; rw [if_pos (by omega)]; rfl, rfl⟩

end Go.Proofs.YtpkkkkomdblpoaaDoor

namespace Go.Proofs.YtpkkkkomdblpoaaDoor
open Go.RowKit Go.Maps

open Cold
/-- a tape's cells -/
def tpC (gp : Nat) (d sz : Int) : List Value := [ptr gp, .int .i64 d, .int .i64 sz]
/-- what a tape has -/
def ctn (m : Pl) (d : Nat) : List (List Nat) := m.fl d ++ (m.wt d).map (·.b)
theorem ctn_len {m : Pl} {d : Nat} (h : m.tape d = true) : m.len d = (ctn m d).length := by
 unfold Pl.len ctn
 rw [if_pos h]
 simp
theorem run_u64i64 {w : World} {a : Act} {o : Oper} (x : Operand) (ho : o.op = .convert 153 3 x) (n : Nat) (h : n < 9223372036854775808) (hx : a.eval x = .int .u64 (n : Nat)) : (execOp a.eval o).run Tryd.prog w = .ok (.value (.int .i64 (n : Nat))) w := by
 have hr : (convert 153 3 (.int .u64 (n : Nat))).run Tryd.prog w = .ok (.int .i64 (IntKind.i64.wrap (n : Nat))) w := by kernel_rfl
 have e : IntKind.i64.wrap (n : Nat) = (n : Int) := wrap_i64 _ (by omega) (by omega)
 simp only [execOp, ho, hx, hr, e, Sem.run_bind, Sem.run_pure, Result.andThen_ok]
theorem run_bstr {w : World} {a : Act} {o : Oper} (x : Operand) (ho : o.op = .convert 38 9 x) (v : Value) (cs : List Nat) (hx : a.eval x = v) (hin : SliceIn w v cs) : (execOp a.eval o).run Tryd.prog w = .ok (.value (str cs)) w := by
 have := run_bstring hin
 simp only [execOp, ho, hx, this, Sem.run_bind, Sem.run_pure, Result.andThen_ok]
 rfl
set_option maxHeartbeats 4000000 in
set_option maxRecDepth 100000 in
theorem tlen_any {w : World} {c : Nat → Colour} {t gp : Nat} {m : Pl} (h : Live w c t gp m) (hst : m.steps < 1099511627775) (d : Nat) (hd : d < m.n) (sz : Int) : Calls Tryd.prog 38 #[.agg (tpC gp (d : Nat) sz).toArray] w fun e w' => e = .returned (.int .i64 (m.len d : Nat)) ∧ Below w.heap.size w w' := by
 have HM : Hid (Live w c t gp m ∧ m.steps < 1099511627775 ∧ d < m.n) := ⟨h, hst, hd⟩
 clear h hst hd
 obtain ⟨PQ, HPQ⟩ := exPQ fun (e : Ending) (w' : World) => e = .returned (.int .i64 (m.len d : Nat)) ∧ Below w.heap.size w w'
 rw [← HPQ.out]
 go_enter Tryd.func38, Tryd.ntmps38
 go_upto_region 0 with fail
 refine wp_region_lit ?_
 refine wl rfl (ptr w.heap.size) _ (run_boxA (.tmp 0) rfl (tpC gp (d : Nat) sz) rfl) ?_
 have hb_ := below_alloc w (.cells (tpC gp (d : Nat) sz).toArray 86)
 have r_ := Row.new w 86 (tpC gp (d : Nat) sz)
 obtain ⟨w1, hW_⟩ : ∃ U_ : World, U_ = w.alloc (.cells (tpC gp (d : Nat) sz).toArray 86) := ⟨_, rfl⟩
 obtain ⟨q, hq_⟩ : ∃ q, q = w.heap.size := ⟨_, rfl⟩
 rw [← hW_] at hb_
 rw [← hW_, ← hq_] at r_
 rw [← hW_, ← hq_]
 have HA : Hid (Row w1 q 86 (tpC gp (d : Nat) sz) ∧ Below w.heap.size w w1) := ⟨r_, hb_⟩
 clear r_ hb_ hW_ hq_
 simp only [Act.put, aS, aC, aZ]
 refine wl rfl (.int .i64 0) _ (run_asZ (.const (.int .i64 0)) rfl (.int .i64 0) rfl) ?_
 simp only [Act.put, aS, aC, aZ]
 refine wpList_nil ?_
 go_upto_region 1 with fail
 refine wp_region_lit ?_
 refine wl rfl (.pointer (some ⟨q, 0 + 0, none⟩)) _ (run_fieldOp' f86_0 (.tmp 1) rfl q (0) rfl) ?_
 refine wl rfl (ptr gp) _ (run_load1 o24 (.tmp 6) rfl q (0 + 0) rfl (ptr gp) (HA.out.1.at 0 _ rfl)) ?_
 refine wl rfl (.pointer (some ⟨q, 0 + 1, none⟩)) _ (run_fieldOp' f86_1 (.tmp 1) rfl q (0) rfl) ?_
 simp only [Act.put, aS, aC, aZ]
 refine wl rfl (.int .i64 (d : Nat)) _ (run_load1 o3 (.tmp 8) rfl q (0 + 1) rfl (.int .i64 (d : Nat)) (HA.out.1.at 1 _ rfl)) ?_
 simp only [Act.put, aS, aC, aZ]
 have hh_ := (HM.out.1.below HA.out.2).len HM.out.2.1 (d : Nat)
 rw [if_pos (show m.has ((d : Nat) : Int) from ⟨by omega, by have := HM.out.2.2; omega⟩), if_pos (show m.has ((d : Nat) : Int) from ⟨by omega, by have := HM.out.2.2; omega⟩), Int.toNat_natCast] at hh_
 refine wpList_callW eN33 [.tmp 7, .tmp 9] _ rfl rfl [(ptr gp), (.int .i64 (d : Nat))] rfl ?_
 refine hh_.mono ?_
 rintro e w2 ⟨rfl, n_, hn_⟩
 refine ⟨_, rfl, ?_⟩
 have H2 : Hid (Below w.heap.size w w2) := HA.out.2.trans (hn_ ▸ Below.drewN (Below.refl _ _) _)
 clear hn_
 simp only [Act.put, aS, aC, aZ]
 refine wl rfl (.tuple #[(.int .i64 (m.len d : Nat)), (.int .i64 0)]) _ (run_mvZ (.tmp 10) rfl (.tuple #[(.int .i64 (m.len d : Nat)), (.int .i64 0)]) rfl) ?_
 refine wl rfl (.int .i64 (m.len d : Nat)) _ (run_extZ (.tmp 5) 0 rfl #[(.int .i64 (m.len d : Nat)), (.int .i64 0)] rfl (.int .i64 (m.len d : Nat)) rfl) ?_
 refine wl rfl (.int .i64 0) _ (run_extZ (.tmp 5) 1 rfl #[(.int .i64 (m.len d : Nat)), (.int .i64 0)] rfl (.int .i64 0) rfl) ?_
 simp only [Act.put, aS, aC, aZ]
 refine wl rfl (.int .i64 (m.len d : Nat)) _ (run_asZ (.tmp 11) rfl (.int .i64 (m.len d : Nat)) rfl) ?_
 refine wl rfl (.int .i64 0) _ (run_asZ (.tmp 12) rfl (.int .i64 0) rfl) ?_
 simp only [Act.put, aS, aC, aZ]
 refine wpList_nil ?_
 go_upto_region 2 with fail
 refine wp_region_lit ?_
 refine wl rfl (.int .i64 (m.len d : Nat)) _ (run_mvZ (.tmp 3) rfl (.int .i64 (m.len d : Nat)) rfl) ?_
 refine wl rfl (.int .i64 (m.len d : Nat)) _ (run_asZ (.tmp 13) rfl (.int .i64 (m.len d : Nat)) rfl) ?_
 simp only [Act.put, aS, aC, aZ]
 refine wpList_nil ?_
 go_wp2_with fail
 rw [HPQ.out]
 exact ⟨rfl, H2.out⟩
set_option maxHeartbeats 4000000 in
set_option maxRecDepth 100000 in
theorem tleft_any {w : World} {c : Nat → Colour} {t gp : Nat} {m : Pl} (h : Live w c t gp m) (hst : m.steps < 1099511627775) (d : Nat) (hd : d < m.n) (hl : m.len d ≤ 4096) (sz : Int) (hsz : 0 ≤ sz ∧ sz ≤ 4096) : Calls Tryd.prog 44 #[.agg (tpC gp (d : Nat) sz).toArray] w fun e w' => e = .returned (.int .i64 (sz - (m.len d : Nat))) ∧ Below w.heap.size w w' := by
 have HM : Hid (Live w c t gp m ∧ m.steps < 1099511627775 ∧ d < m.n) := ⟨h, hst, hd⟩
 clear h hst hd
 obtain ⟨PQ, HPQ⟩ := exPQ fun (e : Ending) (w' : World) => e = .returned (.int .i64 (sz - (m.len d : Nat))) ∧ Below w.heap.size w w'
 rw [← HPQ.out]
 go_enter Tryd.func44, Tryd.ntmps44
 go_upto_region 0 with fail
 refine wp_region_lit ?_
 refine wl rfl (ptr w.heap.size) _ (run_boxA (.tmp 0) rfl (tpC gp (d : Nat) sz) rfl) ?_
 have hb_ := below_alloc w (.cells (tpC gp (d : Nat) sz).toArray 86)
 have r_ := Row.new w 86 (tpC gp (d : Nat) sz)
 obtain ⟨w1, hW_⟩ : ∃ U_ : World, U_ = w.alloc (.cells (tpC gp (d : Nat) sz).toArray 86) := ⟨_, rfl⟩
 obtain ⟨q, hq_⟩ : ∃ q, q = w.heap.size := ⟨_, rfl⟩
 rw [← hW_] at hb_
 rw [← hW_, ← hq_] at r_
 rw [← hW_, ← hq_]
 have HA : Hid (Row w1 q 86 (tpC gp (d : Nat) sz) ∧ Below w.heap.size w w1) := ⟨r_, hb_⟩
 clear r_ hb_ hW_ hq_
 simp only [Act.put, aS, aC, aZ]
 refine wl rfl (.int .i64 0) _ (run_asZ (.const (.int .i64 0)) rfl (.int .i64 0) rfl) ?_
 simp only [Act.put, aS, aC, aZ]
 refine wpList_nil ?_
 go_upto_region 1 with fail
 refine wp_region_held (S := fun X => Row X q 86 (tpC gp (d : Nat) sz) ∧ Below w.heap.size w X) (by kernel_rfl) ?_
 show wpAnyH _ _ _ _ _ 6 (Array.replicate 6 false) _ _
 obtain ⟨X, hX⟩ : ∃ X : World, X = { w1 with drawn := w1.drawn + 1 } := ⟨_, rfl⟩
 rw [← hX]
 have HS_ : Row X q 86 (tpC gp (d : Nat) sz) ∧ Below w.heap.size w X := (by rw [hX]; exact ⟨HA.out.1, HA.out.2.trans ⟨rfl, rfl, rfl, Nat.le_refl _, fun _ _ => rfl⟩⟩)
 clear hX
 refine tH 0 3 rfl rfl (gRun rfl (.pointer (some ⟨q, 0 + 2, none⟩)) fun _ h => run_fieldOp' f86_2 (.tmp 1) rfl q (0) rfl) HS_ ?_
 refine tH 1 4 rfl rfl (gRun rfl (.int .i64 sz) fun _ h => run_load1 o3 (.tmp 3) rfl q (0 + 2) rfl (.int .i64 sz) (h.1.at 2 _ rfl)) HS_ ?_
 refine tH 2 5 rfl rfl (gRun rfl (.agg ((tpC gp (d : Nat) sz)).toArray) fun _ h => run_loadA ag86 (.tmp 1) rfl q (0) rfl ((tpC gp (d : Nat) sz)) rfl (rows_one h.1)) HS_ ?_
 simp only [Act.put, aS, aC, aZ]
 refine oneH (i := 3) (by kernel_rfl) ?_
 refine opCallG (some 6) rfl rfl rfl 38 _ (run_call eN38 [.tmp 5] _ rfl [(.agg ((tpC gp (d : Nat) sz)).toArray)] rfl) ?_
 refine (tlen_any (HM.out.1.below HS_.2) HM.out.2.1 d HM.out.2.2 sz).mono ?_
 rintro e W1 ⟨rfl, hb_⟩
 refine ⟨_, rfl, ?_⟩
 replace HS_ : Row W1 q 86 (tpC gp (d : Nat) sz) ∧ Below w.heap.size w W1 := ⟨HS_.1.later hb_ HS_.1.lt, HS_.2.trans (hb_.mono HS_.2.size)⟩
 clear hb_
 refine ⟨HS_, ?_⟩
 simp only [Act.put, aS, aC, aZ]
 refine tH 4 7 rfl rfl (gRun rfl (.int .i64 (sz - (m.len d : Nat))) fun _ h => run_subZ (.tmp 4) (.tmp 6) rfl sz (m.len d : Nat) _ rfl rfl rfl (by omega) (by omega)) HS_ ?_
 refine tH 5 2 rfl rfl (gRun rfl (.int .i64 (sz - (m.len d : Nat))) fun _ h => run_asZ (.tmp 7) rfl (.int .i64 (sz - (m.len d : Nat))) rfl) HS_ ?_
 simp only [Act.put, aS, aC, aZ]
 refine wpAnyH_done (by kernel_rfl) ?_ _
 go_wp2_with fail
 rw [HPQ.out]
 exact ⟨rfl, HS_.2⟩
set_option maxHeartbeats 4000000 in
set_option maxRecDepth 100000 in
theorem labelN_any (n : Nat) (id : List Nat) (hb : ∀ c ∈ id, c < 256) (hl : id.length ≤ 1000) (hn : n ≤ 1000000) (w : World) : Calls Tryd.prog 77 #[.int .i64 (n : Nat), str id] w fun e w' => ∃ v, e = .returned v ∧ BOwn w' w.heap.size v (lb n id) ∧ Below w.heap.size w w' := by
 have HB : Hid (∀ c ∈ id, c < 256) := hb
 clear hb
 obtain ⟨PQ, HPQ⟩ := exPQ fun (e : Ending) (w' : World) => ∃ v, e = .returned v ∧ BOwn w' w.heap.size v (lb n id) ∧ Below w.heap.size w w'
 rw [← HPQ.out]
 go_enter Tryd.func77, Tryd.ntmps77
 go_upto_region 0 with fail
 refine wp_region_lit ?_
 refine wl rfl (.slice none 0 0) _ (run_asZ (.const (.slice none 0 0)) rfl (.slice none 0 0) rfl) ?_
 simp only [Act.put, aS, aC, aZ]
 refine wpList_nil ?_
 go_upto_region 1 with fail
 refine wp_region_lit ?_
 refine wl rfl (.int .i64 (n : Nat)) _ (run_mvZ (.tmp 0) rfl (.int .i64 (n : Nat)) rfl) ?_
 refine wl rfl (.int .u64 (n : Nat)) _ (run_i64u64 (.tmp 5) rfl n (by omega) rfl) ?_
 simp only [Act.put, aS, aC, aZ]
 refine wpList_callW eN93 [.const (.slice none 0 0), .tmp 6, .const (.int .i64 2)] _ rfl rfl [.slice none 0 0, (.int .u64 (n : Nat)), .int .i64 2] rfl ?_
 refine (Fr.number_yes _ [] n 2 w (Fr.SliceIn.nil w) (by decide) (by decide) (by simp)).mono ?_
 rintro e w1 ⟨v1, rfl, o1, b1⟩
 refine ⟨_, rfl, ?_⟩
 have H1 : Hid (BOwn w1 w.heap.size v1 ([] ++ Fr.Frame.be 2 n) ∧ Below w.heap.size w w1) := ⟨o1, b1⟩
 clear o1 b1
 simp only [Act.put, aS, aC, aZ]
 refine wl rfl (str id) _ (run_mvZ (.tmp 1) rfl (str id) rfl) ?_
 simp only [Act.put, aS, aC, aZ]
 obtain ⟨v2, w2, hr_, ho_, hg_⟩ := run_appS w.heap.size v1 ([] ++ Fr.Frame.be 2 n) id HB.out H1.out.1 (by simp [Fr.Frame.be_length]; omega) H1.out.2.size
 refine wl rfl v2 w2 (hr_ _ _ (.tmp 7) (.tmp 8) rfl rfl rfl) ?_
 have H2 : Hid (BOwn w2 w.heap.size v2 (lb n id) ∧ Below w.heap.size w w2) := ⟨ho_, H1.out.2.trans (H1.out.1.belowG hg_ H1.out.2.size)⟩
 clear hr_ ho_ hg_
 simp only [Act.put, aS, aC, aZ]
 refine wl rfl v2 _ (run_asZ (.tmp 9) rfl v2 rfl) ?_
 simp only [Act.put, aS, aC, aZ]
 refine wpList_nil ?_
 go_wp2_with fail
 rw [HPQ.out]
 exact ⟨v2, rfl, H2.out⟩
set_option maxHeartbeats 4000000 in
set_option maxRecDepth 100000 in
theorem label_any (p : List Nat) (hp : p.length = 56) (hb : ∀ c ∈ p, c < 256) (w : World) (ht : Fr.TabIn w) : Calls Tryd.prog 64 #[av p] w fun e w' => ∃ vs vn ok, e = .returned (.tuple #[vs, vn, .bool ok]) ∧ Below w.heap.size w w' ∧ ((ok = true ∧ ∃ id len, labP p = some (id, len) ∧ vs = str id ∧ vn = .int .i64 (len : Nat) ∧ len < 65536) ∨ (ok = false ∧ labP p = none ∧ (∃ id, vs = str id) ∧ ∃ z : Nat, vn = .int .i64 (z : Nat) ∧ z < 65536)) := by
 have HM : Hid (p.length = 56 ∧ (∀ c ∈ p, c < 256) ∧ Fr.TabIn w) := ⟨hp, hb, ht⟩
 have HPL : Hid (Fr.Frame.payOf p = Fr.Frame.payOf p) := rfl
 obtain ⟨pay, hpay⟩ : ∃ x, x = Fr.Frame.payOf p := ⟨_, rfl⟩
 obtain ⟨ok, hok⟩ : ∃ x, x = Fr.Frame.okB p := ⟨_, rfl⟩
 have HY : Hid (pay = Fr.Frame.payOf p ∧ ok = Fr.Frame.okB p ∧ pay.length ≤ 56 ∧ ∀ c ∈ pay, c < 256) := ⟨hpay, hok, by rw [hpay, ← hp]; exact Fr.Frame.payOf_length p, fun c hc => hb c (Fr.Frame.payOf_mem p c (hpay ▸ hc))⟩
 clear hp hb ht hpay hok HPL
 obtain ⟨PQ, HPQ⟩ := exPQ fun (e : Ending) (w' : World) => ∃ vs vn ok, e = .returned (.tuple #[vs, vn, .bool ok]) ∧ Below w.heap.size w w' ∧ ((ok = true ∧ ∃ id len, labP p = some (id, len) ∧ vs = str id ∧ vn = .int .i64 (len : Nat) ∧ len < 65536) ∨ (ok = false ∧ labP p = none ∧ (∃ id, vs = str id) ∧ ∃ z : Nat, vn = .int .i64 (z : Nat) ∧ z < 65536))
 rw [← HPQ.out]
 go_enter Tryd.func64, Tryd.ntmps64
 go_upto_region 0 with fail
 refine wp_region_lit ?_
 refine wl rfl (ptr w.heap.size) _ (run_boxA (.tmp 0) rfl (bcells p) rfl) ?_
 have hb_ := below_alloc w (.cells (bcells p).toArray 129)
 have r_ := Row.new w 129 (bcells p)
 obtain ⟨w1, hW_⟩ : ∃ U_ : World, U_ = w.alloc (.cells (bcells p).toArray 129) := ⟨_, rfl⟩
 obtain ⟨q, hq_⟩ : ∃ q, q = w.heap.size := ⟨_, rfl⟩
 rw [← hW_] at hb_
 rw [← hW_, ← hq_] at r_
 rw [← hW_, ← hq_]
 have HA : Hid (Row w1 q 129 (bcells p) ∧ Below w.heap.size w w1 ∧ SliceIn w1 (.slice (some ⟨q, 0 + 0, none⟩) 56 56) p) := ⟨r_, hb_, ⟨_, 56, by rw [HM.out.1], ⟨by rw [HM.out.1]; decide, by rw [HM.out.1]; decide⟩, Or.inr ⟨q, 0, rfl, fun j hj => by rw [Nat.zero_add]; exact r_.at j _ (bcells_at p j hj), lt256 p HM.out.2.1⟩⟩⟩
 clear r_ hb_ hW_ hq_
 simp only [Act.put, aS, aC, aZ]
 refine wl rfl (.string { data := #[] }) _ (run_asZ (.const (.string { data := #[] })) rfl (.string { data := #[] }) rfl) ?_
 refine wl rfl (.int .i64 0) _ (run_asZ (.const (.int .i64 0)) rfl (.int .i64 0) rfl) ?_
 refine wl rfl (.bool false) _ (run_asZ (.const (.bool false)) rfl (.bool false) rfl) ?_
 simp only [Act.put, aS, aC, aZ]
 refine wpList_nil ?_
 go_upto_region 1 with fail
 refine wp_region_lit ?_
 refine wl rfl (.slice (some ⟨q, 0 + 0, none⟩) 56 56) _ (run_slA arr129 (.tmp 1) none none rfl q 0 0 56 rfl ⟨Or.inl ⟨rfl, rfl⟩, Or.inl ⟨rfl, rfl⟩, by omega, by omega, by omega⟩) ?_
 simp only [Act.put, aS, aC, aZ]
 refine wpList_callW eN78 [.tmp 12] _ rfl rfl [(.slice (some ⟨q, 0 + 0, none⟩) 56 56)] rfl ?_
 refine (Fr.unpack_any _ p w1 HA.out.2.2 (HM.out.2.2.later HA.out.2.1) (by rw [HM.out.1]; decide)).mono ?_
 rintro e w2 ⟨vp, vr, rfl, o1, o2, _, b1⟩
 refine ⟨_, rfl, ?_⟩
 rw [← HY.out.1] at o1
 have H2 : Hid (BOwn w2 w1.heap.size vp pay ∧ Below w.heap.size w w2) := ⟨o1, HA.out.2.1.trans (b1.mono HA.out.2.1.size)⟩
 obtain ⟨kd, hkd⟩ : ∃ k : Nat, k = Fr.Frame.kindOf p := ⟨_, rfl⟩
 obtain ⟨er, her⟩ : ∃ k : Nat, k = Fr.Frame.errOf p := ⟨_, rfl⟩
 rw [← hkd, ← her]
 have HE : Hid (er = if ok then 0 else 40) := (by rw [her]; unfold Fr.Frame.errOf; rw [HY.out.2.1]; rfl)
 clear o1 o2 b1 hkd her
 simp only [Act.put, aS, aC, aZ]
 refine wl rfl (.tuple #[(.int .u8 (kd : Nat)), vp, vr, (.int .i64 (er : Nat))]) _ (run_mvZ (.tmp 13) rfl (.tuple #[(.int .u8 (kd : Nat)), vp, vr, (.int .i64 (er : Nat))]) rfl) ?_
 refine wl rfl (.int .u8 (kd : Nat)) _ (run_extZ (.tmp 11) 0 rfl #[(.int .u8 (kd : Nat)), vp, vr, (.int .i64 (er : Nat))] rfl (.int .u8 (kd : Nat)) rfl) ?_
 refine wl rfl vp _ (run_extZ (.tmp 11) 1 rfl #[(.int .u8 (kd : Nat)), vp, vr, (.int .i64 (er : Nat))] rfl vp rfl) ?_
 simp only [Act.put, aS, aC, aZ]
 refine wl rfl vr _ (run_extZ (.tmp 11) 2 rfl #[(.int .u8 (kd : Nat)), vp, vr, (.int .i64 (er : Nat))] rfl vr rfl) ?_
 refine wl rfl (.int .i64 (er : Nat)) _ (run_extZ (.tmp 11) 3 rfl #[(.int .u8 (kd : Nat)), vp, vr, (.int .i64 (er : Nat))] rfl (.int .i64 (er : Nat)) rfl) ?_
 refine wl rfl (.int .u8 (kd : Nat)) _ (run_asZ (.tmp 14) rfl (.int .u8 (kd : Nat)) rfl) ?_
 simp only [Act.put, aS, aC, aZ]
 refine wl rfl vp _ (run_asZ (.tmp 15) rfl vp rfl) ?_
 refine wl rfl vr _ (run_asZ (.tmp 16) rfl vr rfl) ?_
 refine wl rfl (.int .i64 (er : Nat)) _ (run_asZ (.tmp 17) rfl (.int .i64 (er : Nat)) rfl) ?_
 simp only [Act.put, aS, aC, aZ]
 refine wpList_nil ?_
 cases ok with
 | false =>
  obtain rfl : er = 40 := HE.out
  have HNO : Hid (labP p = none) := (by show _ = _; unfold labP; rw [← HY.out.2.1, if_neg (fun h => by cases h.1)])
  go_upto_region 2 with fail
  refine wp_region_lit ?_
  refine wl rfl (.int .i64 40) _ (run_mvZ (.tmp 8) rfl (.int .i64 40) rfl) ?_
  refine wl rfl (.bool true) _ (run_neZ (.tmp 18) (.const (.int .i64 0)) rfl 40 0 rfl rfl true rfl) ?_
  simp only [Act.put, aS, aC, aZ]
  refine wpList_nil ?_
  go_upto_region 3 with fail
  refine wp_region_lit ?_
  refine wl rfl (.string { data := #[] }) _ (run_asZ (.const (.string { data := #[] })) rfl (.string { data := #[] }) rfl) ?_
  refine wl rfl (.int .i64 0) _ (run_asZ (.const (.int .i64 0)) rfl (.int .i64 0) rfl) ?_
  refine wl rfl (.bool false) _ (run_asZ (.const (.bool false)) rfl (.bool false) rfl) ?_
  simp only [Act.put, aS, aC, aZ]
  refine wpList_nil ?_
  go_wp2_with fail
  rw [HPQ.out]
  exact ⟨_, _, false, rfl, H2.out.2, Or.inr ⟨rfl, HNO.out, ⟨[], rfl⟩, 0, rfl, by decide⟩⟩
 | true =>
  obtain rfl : er = 0 := HE.out
  go_upto_region 2 with fail
  refine wp_region_lit ?_
  refine wl rfl (.int .i64 0) _ (run_mvZ (.tmp 8) rfl (.int .i64 0) rfl) ?_
  refine wl rfl (.bool false) _ (run_neZ (.tmp 18) (.const (.int .i64 0)) rfl 0 0 rfl rfl false rfl) ?_
  simp only [Act.put, aS, aC, aZ]
  refine wpList_nil ?_
  have HVP : Hid (SliceIn w2 vp pay) := H2.out.1.slice HY.out.2.2.2 (by have := HY.out.2.2.1; omega)
  by_cases hlen : pay.length < 2
  ·have HNO : Hid (labP p = none) := (by show _ = _; unfold labP; rw [← HY.out.1, if_neg (fun h => by have := h.2.1; omega)])
   go_upto_region 4 with fail
   refine wp_region_lit ?_
   refine wl rfl vp _ (run_mvZ (.tmp 6) rfl vp rfl) ?_
   simp only [Act.put, aS, aC, aZ]
   refine wpList_callW eN79 [.tmp 21, .const (.int .i64 2)] _ rfl rfl [vp, .int .i64 2] rfl ?_
   refine (Fr.take_short vp pay 2 w2 HVP.out (by decide) (by decide) hlen).mono ?_
   rintro e w3 ⟨rfl, rfl⟩
   refine ⟨_, rfl, ?_⟩
   simp only [Act.put, aS, aC, aZ]
   refine wl rfl (.tuple #[(.int .u64 0), (.slice none 0 0), (.int .i64 40)]) _ (run_mvZ (.tmp 22) rfl (.tuple #[(.int .u64 0), (.slice none 0 0), (.int .i64 40)]) rfl) ?_
   refine wl rfl (.int .u64 0) _ (run_extZ (.tmp 20) 0 rfl #[(.int .u64 0), (.slice none 0 0), (.int .i64 40)] rfl (.int .u64 0) rfl) ?_
   refine wl rfl (.slice none 0 0) _ (run_extZ (.tmp 20) 1 rfl #[(.int .u64 0), (.slice none 0 0), (.int .i64 40)] rfl (.slice none 0 0) rfl) ?_
   simp only [Act.put, aS, aC, aZ]
   refine wl rfl (.int .i64 40) _ (run_extZ (.tmp 20) 2 rfl #[(.int .u64 0), (.slice none 0 0), (.int .i64 40)] rfl (.int .i64 40) rfl) ?_
   refine wl rfl (.int .u64 0) _ (run_asZ (.tmp 23) rfl (.int .u64 0) rfl) ?_
   refine wl rfl (.slice none 0 0) _ (run_asZ (.tmp 24) rfl (.slice none 0 0) rfl) ?_
   simp only [Act.put, aS, aC, aZ]
   refine wl rfl (.int .i64 40) _ (run_asZ (.tmp 25) rfl (.int .i64 40) rfl) ?_
   simp only [Act.put, aS, aC, aZ]
   refine wpList_nil ?_
   go_upto_region 5 with fail
   refine wp_region_held (S := fun X => SliceIn X (.slice none 0 0) [] ∧ Below w.heap.size w X) (by kernel_rfl) ?_
   show wpAnyH _ _ _ _ _ 14 (Array.replicate 14 false) _ _
   obtain ⟨X, hX⟩ : ∃ X : World, X = { w2 with drawn := w2.drawn + 1 } := ⟨_, rfl⟩
   rw [← hX]
   have HS_ : SliceIn X (.slice none 0 0) [] ∧ Below w.heap.size w X := (by rw [hX]; exact ⟨Fr.SliceIn.nil _, H2.out.2.trans ⟨rfl, rfl, rfl, Nat.le_refl _, fun _ _ => rfl⟩⟩)
   clear hX
   refine tH 0 26 rfl rfl (gRun rfl (.slice none 0 0) fun _ h => run_mvZ (.tmp 10) rfl (.slice none 0 0) rfl) HS_ ?_
   refine tH 1 27 rfl rfl (gRun rfl (str []) fun _ h => run_bstr (.tmp 26) rfl _ [] rfl h.1) HS_ ?_
   refine tH 2 28 rfl rfl (gRun rfl (.int .u64 0) fun _ h => run_mvZ (.tmp 9) rfl (.int .u64 0) rfl) HS_ ?_
   simp only [Act.put, aS, aC, aZ]
   refine tH 3 29 rfl rfl (gRun rfl (.int .i64 (0 : Nat)) fun _ h => run_u64i64 (.tmp 28) rfl 0 (by decide) rfl) HS_ ?_
   refine tH 4 30 rfl rfl (gRun rfl (.int .i64 40) fun _ h => run_mvZ (.tmp 8) rfl (.int .i64 40) rfl) HS_ ?_
   refine tH 5 31 rfl rfl (gRun rfl (.bool false) fun _ h => run_eqZ (.tmp 30) (.const (.int .i64 0)) rfl 40 0 rfl rfl false rfl) HS_ ?_
   simp only [Act.put, aS, aC, aZ]
   refine tH 6 32 rfl rfl (gRun rfl (.bool false) fun _ h => run_mvZ (.tmp 31) rfl (.bool false) rfl) HS_ ?_
   refine tH 7 33 rfl rfl (Or.inr ⟨by kernel_rfl, rfl⟩) HS_ ?_
   refine tH 8 34 rfl rfl (Or.inr ⟨by kernel_rfl, rfl⟩) HS_ ?_
   simp only [Act.put, aS, aC, aZ]
   refine tH 9 35 rfl rfl (Or.inr ⟨by kernel_rfl, rfl⟩) HS_ ?_
   refine tH 10 36 rfl rfl (gRun rfl (.bool false) fun _ h => run_pickZ (.tmp 32) (.tmp 35) (.const (.bool false)) rfl false (.bool false) rfl rfl) HS_ ?_
   refine tH 11 2 rfl rfl (gRun rfl (str []) fun _ h => run_asZ (.tmp 27) rfl (str []) rfl) HS_ ?_
   simp only [Act.put, aS, aC, aZ]
   refine tH 12 3 rfl rfl (gRun rfl (.int .i64 (0 : Nat)) fun _ h => run_asZ (.tmp 29) rfl (.int .i64 (0 : Nat)) rfl) HS_ ?_
   refine tH 13 4 rfl rfl (gRun rfl (.bool false) fun _ h => run_asZ (.tmp 36) rfl (.bool false) rfl) HS_ ?_
   simp only [Act.put, aS, aC, aZ]
   refine wpAnyH_done (by kernel_rfl) ?_ _
   go_wp2_with fail
   rw [HPQ.out]
   exact ⟨_, _, false, rfl, HS_.2, Or.inr ⟨rfl, HNO.out, ⟨[], rfl⟩, 0, rfl, by decide⟩⟩
  ·have HLN : Hid (2 ≤ pay.length ∧ (pay.drop 2).length ≤ 54 ∧ Fr.Frame.val (pay.take 2) < 65536 ∧ ∀ c ∈ pay.drop 2, c < 256) := ⟨by omega, by have := HY.out.2.2.1; rw [List.length_drop]; omega, (by have h9 := Fr.Frame.val_lt (pay.take 2) (fun c hc => HY.out.2.2.2 c (List.mem_of_mem_take hc)); have e9 : (pay.take 2).length = 2 := (by rw [List.length_take]; omega); rw [e9] at h9; exact h9), fun c hc => HY.out.2.2.2 c (List.mem_of_mem_drop hc)⟩
   obtain ⟨nv, hnv⟩ : ∃ k, k = Fr.Frame.val (pay.take 2) := ⟨_, rfl⟩
   obtain ⟨nm, hnm⟩ : ∃ k, k = pay.drop 2 := ⟨_, rfl⟩
   have HNV : Hid (nv = Fr.Frame.val (pay.take 2) ∧ nm = pay.drop 2) := ⟨hnv, hnm⟩
   clear hnv hnm
   go_upto_region 4 with fail
   refine wp_region_lit ?_
   refine wl rfl vp _ (run_mvZ (.tmp 6) rfl vp rfl) ?_
   simp only [Act.put, aS, aC, aZ]
   refine wpList_callW eN79 [.tmp 21, .const (.int .i64 2)] _ rfl rfl [vp, .int .i64 2] rfl ?_
   refine (Fr.take_yes vp pay 2 w2 HVP.out (by decide) (by decide) HLN.out.1 (by have := HY.out.2.2.1; omega)).mono ?_
   rintro e w3 ⟨v3, rfl, o1, b1⟩
   refine ⟨_, rfl, ?_⟩
   rw [← HNV.out.1]
   rw [← HNV.out.2] at o1
   have H3 : Hid (SliceIn w3 v3 nm ∧ Below w.heap.size w w3) := ⟨BOwn.slice (ownF o1) (by rw [HNV.out.2]; exact HLN.out.2.2.2) (by rw [HNV.out.2]; have := HLN.out.2.1; omega), H2.out.2.trans (b1.mono H2.out.2.size)⟩
   clear o1 b1
   simp only [Act.put, aS, aC, aZ]
   refine wl rfl (.tuple #[(.int .u64 (nv : Nat)), v3, (.int .i64 0)]) _ (run_mvZ (.tmp 22) rfl (.tuple #[(.int .u64 (nv : Nat)), v3, (.int .i64 0)]) rfl) ?_
   refine wl rfl (.int .u64 (nv : Nat)) _ (run_extZ (.tmp 20) 0 rfl #[(.int .u64 (nv : Nat)), v3, (.int .i64 0)] rfl (.int .u64 (nv : Nat)) rfl) ?_
   refine wl rfl v3 _ (run_extZ (.tmp 20) 1 rfl #[(.int .u64 (nv : Nat)), v3, (.int .i64 0)] rfl v3 rfl) ?_
   simp only [Act.put, aS, aC, aZ]
   refine wl rfl (.int .i64 0) _ (run_extZ (.tmp 20) 2 rfl #[(.int .u64 (nv : Nat)), v3, (.int .i64 0)] rfl (.int .i64 0) rfl) ?_
   refine wl rfl (.int .u64 (nv : Nat)) _ (run_asZ (.tmp 23) rfl (.int .u64 (nv : Nat)) rfl) ?_
   refine wl rfl v3 _ (run_asZ (.tmp 24) rfl v3 rfl) ?_
   simp only [Act.put, aS, aC, aZ]
   refine wl rfl (.int .i64 0) _ (run_asZ (.tmp 25) rfl (.int .i64 0) rfl) ?_
   simp only [Act.put, aS, aC, aZ]
   refine wpList_nil ?_
   go_upto_region 5 with fail
   refine wp_region_held (S := fun X => SliceIn X v3 nm ∧ Below w.heap.size w X) (by kernel_rfl) ?_
   show wpAnyH _ _ _ _ _ 14 (Array.replicate 14 false) _ _
   obtain ⟨X, hX⟩ : ∃ X : World, X = { w3 with drawn := w3.drawn + 1 } := ⟨_, rfl⟩
   rw [← hX]
   have HS_ : SliceIn X v3 nm ∧ Below w.heap.size w X := (by rw [hX]; exact ⟨H3.out.1.later ⟨rfl, rfl, rfl, Nat.le_refl _, fun _ _ => rfl⟩, H3.out.2.trans ⟨rfl, rfl, rfl, Nat.le_refl _, fun _ _ => rfl⟩⟩)
   clear hX
   refine tH 0 26 rfl rfl (gRun rfl v3 fun _ h => run_mvZ (.tmp 10) rfl v3 rfl) HS_ ?_
   refine tH 1 27 rfl rfl (gRun rfl (str nm) fun _ h => run_bstr (.tmp 26) rfl _ nm rfl h.1) HS_ ?_
   refine tH 2 28 rfl rfl (gRun rfl (.int .u64 (nv : Nat)) fun _ h => run_mvZ (.tmp 9) rfl (.int .u64 (nv : Nat)) rfl) HS_ ?_
   simp only [Act.put, aS, aC, aZ]
   refine tH 3 29 rfl rfl (gRun rfl (.int .i64 (nv : Nat)) fun _ h => run_u64i64 (.tmp 28) rfl nv (by have := HLN.out.2.2.1; have := HNV.out.1; omega) rfl) HS_ ?_
   refine tH 4 30 rfl rfl (gRun rfl (.int .i64 0) fun _ h => run_mvZ (.tmp 8) rfl (.int .i64 0) rfl) HS_ ?_
   refine tH 5 31 rfl rfl (gRun rfl (.bool true) fun _ h => run_eqZ (.tmp 30) (.const (.int .i64 0)) rfl 0 0 rfl rfl true rfl) HS_ ?_
   simp only [Act.put, aS, aC, aZ]
   refine tH 6 32 rfl rfl (gRun rfl (.bool true) fun _ h => run_mvZ (.tmp 31) rfl (.bool true) rfl) HS_ ?_
   refine tH 7 33 rfl rfl (gRun (by kernel_rfl) v3 fun _ h => run_mvZ (.tmp 10) rfl v3 rfl) HS_ ?_
   refine tH 8 34 rfl rfl (gRun (by kernel_rfl) (str nm) fun _ h => run_bstr (.tmp 33) rfl _ nm rfl h.1) HS_ ?_
   simp only [Act.put, aS, aC, aZ]
   refine oneH (i := 9) (by kernel_rfl) ?_
   refine opCallG (some 35) rfl rfl (by kernel_rfl) 37 _ (run_call eN37 [.tmp 34] _ rfl [(str nm)] rfl) ?_
   refine (isName_any nm (by rw [HNV.out.2]; exact HLN.out.2.2.2) X).mono ?_
   rintro e W1 ⟨rfl, hb_⟩
   obtain ⟨nb_, hnb⟩ : ∃ b, b = nameB nm := ⟨_, rfl⟩
   rw [← hnb]
   have HNB : Hid (nb_ = nameB nm) := hnb
   clear hnb
   refine ⟨_, rfl, ?_⟩
   replace HS_ : SliceIn W1 v3 nm ∧ Below w.heap.size w W1 := ⟨HS_.1.later hb_, HS_.2.trans (hb_.mono HS_.2.size)⟩
   clear hb_
   refine ⟨HS_, ?_⟩
   simp only [Act.put, aS, aC, aZ]
   refine tH 10 36 rfl rfl (gRun rfl (.bool nb_) fun _ h => run_pickZ (.tmp 32) (.tmp 35) (.const (.bool false)) rfl true (.bool nb_) rfl rfl) HS_ ?_
   refine tH 11 2 rfl rfl (gRun rfl (str nm) fun _ h => run_asZ (.tmp 27) rfl (str nm) rfl) HS_ ?_
   refine tH 12 3 rfl rfl (gRun rfl (.int .i64 (nv : Nat)) fun _ h => run_asZ (.tmp 29) rfl (.int .i64 (nv : Nat)) rfl) HS_ ?_
   simp only [Act.put, aS, aC, aZ]
   refine tH 13 4 rfl rfl (gRun rfl (.bool nb_) fun _ h => run_asZ (.tmp 36) rfl (.bool nb_) rfl) HS_ ?_
   simp only [Act.put, aS, aC, aZ]
   refine wpAnyH_done (by kernel_rfl) ?_ _
   go_wp2_with fail
   rw [HPQ.out]
   refine ⟨_, _, nb_, rfl, HS_.2, ?_⟩
   have hL : labP p = if nameB nm = true then some (nm, nv) else none := (by
    unfold labP
    rw [← HY.out.1, ← HY.out.2.1, ← HNV.out.1, ← HNV.out.2]
    by_cases hq : nameB nm = true
    ·rw [if_pos ⟨rfl, HLN.out.1, hq⟩, if_pos hq]
    ·rw [if_neg (fun h => hq h.2.2), if_neg hq])
   have hv := HLN.out.2.2.1
   rw [← HNV.out.1] at hv
   by_cases hq : nameB nm = true
   ·rw [if_pos hq] at hL
    exact Or.inl ⟨HNB.out.trans hq, nm, nv, hL, rfl, rfl, hv⟩
   ·rw [if_neg hq] at hL
    exact Or.inr ⟨by rw [HNB.out]; simpa using hq, hL, ⟨nm, rfl⟩, nv, rfl, hv⟩

end Go.Proofs.YtpkkkkomdblpoaaDoor

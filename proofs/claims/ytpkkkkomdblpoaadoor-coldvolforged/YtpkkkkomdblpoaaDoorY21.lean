/- Layer 15: structs; an object's blocks. -/
import Derived.Test.YtpkkkkomdblpoaaDoorY20
namespace Go.Proofs.YtpkkkkomdblpoaaDoor
open Go.RowKit Go.Maps

open Cold
/-! structs -/
theorem run_build133 (w : World) (p t : List Nat) (hp : p.length = 56) (ht : t.length = 8) : (Instr.build 133 #[(0, av p), (1, av t)]).run Tryd.prog w = .ok (av (p ++ t)) w := by
 have hf : Instr.fill (fun i => #[(0, 56), (56, 8)][i]?) (bcells (Zs 64)).toArray [(0, av p), (1, av t)] = some (bcells (p ++ t)).toArray := by
  rw [fill_step _ _ 0 (av p) _ 0 56 (bcells p) rfl rfl (by rw [bcells_length]; exact hp) (by simp [bcells_length, hp, Zs_length]), fill_step _ _ 1 (av t) _ 56 8 (bcells t) rfl rfl (by rw [bcells_length]; exact ht) (by simp [splice, bcells_length, hp, ht, Zs_length])]
  simp only [Instr.fill]
  congr 2
  have h1 : splice (bcells (Zs 64)) 0 (bcells p) = bcells p ++ bcells (Zs 8) := by
   unfold splice Zs bcells
   simp [hp]
  show splice (splice (bcells (Zs 64)) 0 (bcells p)) 56 (bcells t) = _
  rw [h1, bcells_append]
  unfold splice
  simp [bcells_length, hp, ht, Zs_length]
 have hz : (zeroValue 133).run Tryd.prog w = .ok (.agg (bcells (Zs 64)).toArray) w := by kernel_rfl
 simp [Instr.build, hz, run_underlying Tryd.underlying133, Value.cells]
 simp at hf
 rw [hf]
 rfl
theorem run_build91 (w : World) (d a l : Int) (b : Bool) (id : List Nat) (p : Option Addr) (n c : Nat) : (Instr.build 91 #[(0, .agg (plC d a l b).toArray), (1, str id), (2, .slice p n c)]).run Tryd.prog w = .ok (.agg (obC d a l b id (.slice p n c)).toArray) w := by kernel_rfl
theorem run_build91b (w : World) (d a l : Int) (b : Bool) (id : List Nat) : (Instr.build 91 #[(0, .agg (plC d a l b).toArray), (1, str id)]).run Tryd.prog w = .ok (.agg (obC d a l b id (.slice none 0 0)).toArray) w := by kernel_rfl
theorem run_build91z (w : World) : (Instr.build 91 #[]).run Tryd.prog w = .ok (.agg (obC 0 0 0 false [] (.slice none 0 0)).toArray) w := by kernel_rfl
theorem zero91 : (Tryd.prog.info? 91).map (·.zero) = some (some (.agg (obC 0 0 0 false [] (.slice none 0 0)).toArray)) := by kernel_rfl
theorem run_blkOp {w : World} {a : Act} {o : Oper} (x y : Operand) (ho : o.op = .build 133 #[(0, x), (1, y)]) (p t : List Nat) (hp : p.length = 56) (ht : t.length = 8) (hx : a.eval x = av p) (hy : a.eval y = av t) : (execOp a.eval o).run Tryd.prog w = .ok (.value (av (p ++ t))) w := by
 have := run_build133 w p t hp ht
 simp [execOp, ho, hx, hy, this]
theorem part133 (b : List Nat) (hb : b.length = 64) (W : World) : (part 129 (bcells b).toArray 0).run Tryd.prog W = .ok (av (b.take 56)) W ∧ (part 131 (bcells b).toArray 56).run Tryd.prog W = .ok (av (b.drop 56)) W := by
 constructor
 ·have ha : (isAgg 129).run Tryd.prog W = .ok true W := by kernel_rfl
  simp [part, ha, av, bcells]
 ·have ha : (isAgg 131).run Tryd.prog W = .ok true W := by kernel_rfl
  simp [part, ha, av, bcells]
  rw [List.take_of_length_le (by simp; omega)]
theorem fields133 : ∃ f0 f1 : Field, (Tryd.prog.fieldsOf 133).toList = [f0, f1] ∧ (f0.type = 129 ∧ f0.offset = 0) ∧ (f1.type = 131 ∧ f1.offset = 56) ∧ (f0.name == "_") = false ∧ (f1.name == "_") = false := by
 have hu := Tryd.underlying133
 unfold Program.fieldsOf
 rw [hu]
 exact ⟨_, _, rfl, ⟨rfl, rfl⟩, ⟨rfl, rfl⟩, by decide, by decide⟩
theorem eqFields2 {P : Program} {w : World} (d : Nat) (xs ys : Array Value) (f0 f1 : Field) (a0 b0 a1 b1 : Value) (r0 r1 : Bool) (n0 : ¬ f0.name = "_") (n1 : ¬ f1.name = "_")
  (p0 : (part f0.type xs f0.offset).run P w = .ok a0 w) (q0 : (part f0.type ys f0.offset).run P w = .ok b0 w) (p1 : (part f1.type xs f1.offset).run P w = .ok a1 w) (q1 : (part f1.type ys f1.offset).run P w = .ok b1 w)
  (e0 : (Op.equalIn d f0.type a0 b0).run P w = .ok r0 w) (e1 : (Op.equalIn d f1.type a1 b1).run P w = .ok r1 w) : (Op.eqFields d xs ys [f0, f1]).run P w = .ok (r0 && r1) w := by
 cases r0 <;> cases r1 <;> simp [Op.eqFields, n0, n1, p0, q0, p1, q1, e0, e1]
theorem beqlB (F : Nat) (a b : List Nat) (ha : a.length = 64) (hb : b.length = 64) (W : World) : (Op.equalIn (F + 2 + 1 + 1) 133 (av a) (av b)).run Tryd.prog W = .ok (decide (a = b)) W := by
 have hu : Tryd.prog.underlying 133 = some (.struct (Tryd.prog.fieldsOf 133)) := by
  have := Tryd.underlying133
  unfold Program.fieldsOf
  rw [this]
 have hsd : Tryd.prog.stoodInHeld 133 = false := by kernel_rfl
 obtain ⟨f0, f1, hfs, ⟨h1, h2⟩, ⟨h3, h4⟩, h5, h6⟩ := fields133
 have h5' : ¬ f0.name = "_" := by simpa using h5
 have h6' : ¬ f1.name = "_" := by simpa using h6
 have pa := part133 a ha W
 have pb := part133 b hb W
 have e1 := beqlA 129 56 arr129 F (a.take 56) (b.take 56) (by simp; omega) (by simp; omega) W
 have e2 := beqlA 131 8 arr131 F (a.drop 56) (b.drop 56) (by simp; omega) (by simp; omega) W
 show (Op.equalIn (F + 2 + 1 + 1) 133 (.agg (bcells a).toArray) (.agg (bcells b).toArray)).run Tryd.prog W = _
 rw [run_equalIn_struct W (F + 2 + 1) 133 _ _ hu hsd, hfs]
 rw [eqFields2 (F + 2 + 1) _ _ f0 f1 _ _ _ _ _ _ h5' h6' (by rw [h1, h2]; exact pa.1) (by rw [h1, h2]; exact pb.1) (by rw [h3, h4]; exact pa.2) (by rw [h3, h4]; exact pb.2) (by rw [h1]; exact e1) (by rw [h3]; exact e2)]
 have hdec : a = b ↔ a.take 56 = b.take 56 ∧ a.drop 56 = b.drop 56 := ⟨fun h => by rw [h]; exact ⟨rfl, rfl⟩, fun ⟨h1, h2⟩ => by rw [← List.take_append_drop 56 a, ← List.take_append_drop 56 b, h1, h2]⟩
 have e9 : (decide (a.take 56 = b.take 56) && decide (a.drop 56 = b.drop 56)) = decide (a = b) := by
  rw [← Bool.decide_and]
  exact decide_eq_decide.2 hdec.symm
 rw [e9]
theorem run_eqBlk {w : World} {a : Act} {o : Oper} (x y : Operand) (ho : o.op = .binOp .eql 133 x y 133) (h h' : List Nat) (hh : h.length = 64) (hh' : h'.length = 64) (hx : a.eval x = av h) (hy : a.eval y = av h') (b : Bool) (hb : decide (h = h') = b) : (execOp a.eval o).run Tryd.prog w = .ok (.value (.bool b)) w := by
 have he : (Op.equalIn 10000 133 (av h) (av h')).run Tryd.prog w = _ := beqlB 9996 h h' hh hh' w
 rw [← hb]
 unfold av at *
 simp [execOp, ho, hx, hy, run_eqGuard_agg w .eql 133 x y _ _ guard133, run_eql_struct w 133, he]
theorem run_toArr {w : World} {a : Act} {o : Oper} (T n : Nat) (hu : Tryd.prog.underlying T = some (.array n 5)) (x : Operand) (ho : o.op = .sliceToArrayPointer T x) (g off len cap : Nat) (hn : n ≤ len) (hx : a.eval x = .slice (some ⟨g, off, none⟩) len cap) : (execOp a.eval o).run Tryd.prog w = .ok (.value (.pointer (some ⟨g, off, none⟩))) w := by
 have h1 : ¬ len < n := by omega
 simp [execOp, ho, hx, Instr.arrayAt, run_underlying hu, h1]
theorem own_ne2 {W : World} {base e sz n base' e' sz' n' : Nat} {v v' : Value} {xs xs' : List Value} (h : W.ownsRow base e sz v n xs) (h' : W.ownsRow base' e' sz' v' n' xs') {b : Nat} (hb : v.ownBlock = some b) (hb' : v'.ownBlock = some b) (hT : e ≠ e') : False := by
 rcases h'.2 with ⟨rfl, _⟩ | ⟨g, cap, cur, rfl, _, hg, _⟩
 ·cases hb'
 ·have e1 : g = b := Option.some.inj hb'
  subst e1
  exact own_ne (cs := cur.toList) h hb (by unfold Row; simpa using hg) (fun q => hT q.symm)
theorem Loc.later2 {w W W' : World} {l : List (Nat × TypeId × List Value)} (h : Loc w W l) {S : Nat → Prop} (hc : Ch S W W') (hne : ∀ (i g : Nat) (T : TypeId) (cs : List Value), l[i]? = some (g, T, cs) → ¬ S g) (hS : ∀ b, b < w.heap.size → ¬ S b) : Loc w W' l :=
 ⟨h.below.trans (hc.below h.below.size fun k hk e => hS k hk e), fun i g T cs e => ⟨hc.row (hne i g T cs e) (h.at i e), h.ge i e⟩, h.ne⟩
def bkTo (d a : Nat) (id bs : List Nat) (k : Nat) : List (List Nat) := (List.range k).map (bk d a id bs)
theorem bkTo_succ (d a : Nat) (id bs : List Nat) (k : Nat) : bkTo d a id bs (k + 1) = bkTo d a id bs k ++ [bk d a id bs k] := by simp [bkTo, List.range_succ]
theorem bkTo_length (d a : Nat) (id bs : List Nat) (k : Nat) : (bkTo d a id bs k).length = k := by simp [bkTo]
set_option maxHeartbeats 4000000 in
set_option maxRecDepth 100000 in
theorem blks_any (d a : Nat) (ln : Int) (bd : Bool) (id bs : List Nat) (vb : Value) (w : World) (hid : ∀ c ∈ id, c < 256) (hil : id.length ≤ 1000) (hl : bs.length ≤ 512) (hin : SliceIn w vb bs) (he : Env w) : Calls Tryd.prog 40 #[.agg (obC (d : Nat) (a : Nat) ln bd id vb).toArray] w fun e w' => ∃ v, e = .returned v ∧ AOwn 133 64 w' w.heap.size v (blks d a id bs) ∧ Below w.heap.size w w' := by
 have HM : Hid (SliceIn w vb bs ∧ Env w ∧ (∀ c ∈ id, c < 256) ∧ id.length ≤ 1000 ∧ bs.length ≤ 512) := ⟨hin, he, hid, hil, hl⟩
 obtain ⟨N, hN⟩ : ∃ n, n = nb bs.length := ⟨_, rfl⟩
 have HN : Hid (N = nb bs.length ∧ N ≤ 12 ∧ (pcs id bs).length = N) := ⟨hN, hN ▸ nb_le hl, by rw [pcs_length, hN]⟩
 have H0 : Hid (Loc w w []) := Loc.nil (Below.refl _ _)
 clear hid hil hin he hN
 obtain ⟨PQ, HPQ⟩ := exPQ fun (e : Ending) (w' : World) => ∃ v, e = .returned v ∧ AOwn 133 64 w' w.heap.size v (blks d a id bs) ∧ Below w.heap.size w w'
 rw [← HPQ.out]
 go_enter Tryd.func40, Tryd.ntmps40
 go_upto_region 0 with fail
 refine wp_region_lit ?_
 refine wl rfl (ptr w.heap.size) _ (run_boxA (.tmp 0) rfl ((obC (d : Nat) (a : Nat) ln bd id vb)) rfl) ?_
 have k_ := H0.out.box 91 ((obC (d : Nat) (a : Nat) ln bd id vb))
 obtain ⟨w1, hW_⟩ : ∃ W, W = w.alloc (.cells ((obC (d : Nat) (a : Nat) ln bd id vb)).toArray 91) := ⟨_, rfl⟩
 obtain ⟨q1, hq_⟩ : ∃ q, q = w.heap.size := ⟨_, rfl⟩
 rw [← hW_, ← hq_] at k_
 rw [← hW_, ← hq_]
 clear hq_
 have Rw1 : Hid (Loc w w1 [(q1, 91, (obC (d : Nat) (a : Nat) ln bd id vb))]) := k_
 clear k_ hW_ H0
 simp only [Act.put, aS, aC, aZ]
 refine wl rfl (.slice none 0 0) _ (run_asZ (.const (.slice none 0 0)) rfl (.slice none 0 0) rfl) ?_
 simp only [Act.put, aS, aC, aZ]
 refine wpList_nil ?_
 go_upto_region 1 with fail
 refine wp_region_lit ?_
 refine wl rfl (.slice none 0 0) _ (run_asZ (.const (.slice none 0 0)) rfl (.slice none 0 0) rfl) ?_
 simp only [Act.put, aS, aC, aZ]
 refine wpList_nil ?_
 go_upto_region 2 with fail
 refine wp_region_lit ?_
 refine wl rfl (.agg ((obC (d : Nat) (a : Nat) ln bd id vb)).toArray) _ (run_loadA ag91 (.tmp 1) rfl q1 (0) rfl ((obC (d : Nat) (a : Nat) ln bd id vb)) rfl (rows_all Rw1.out 0 rfl)) ?_
 simp only [Act.put, aS, aC, aZ]
 refine wpList_callW eN60 [.tmp 6] _ rfl rfl [(.agg ((obC (d : Nat) (a : Nat) ln bd id vb)).toArray)] rfl ?_
 refine (pieces_any d a ln bd id bs vb w1 HM.out.2.2.1 HM.out.2.2.2.1 HM.out.2.2.2.2 (HM.out.1.later Rw1.out.below) (HM.out.2.1.later Rw1.out.below)).mono ?_
 rintro e w2 ⟨vp, rfl, ho_, hb_⟩
 refine ⟨_, rfl, ?_⟩
 have H2 : Hid (Loc w w2 [(q1, 91, (obC (d : Nat) (a : Nat) ln bd id vb))] ∧ AOwn 129 56 w2 w1.heap.size vp (pcs id bs) ∧ w.heap.size ≤ w1.heap.size) := ⟨Rw1.out.later hb_, ho_, Rw1.out.below.size⟩
 clear ho_ hb_
 simp only [Act.put, aS, aC, aZ]
 refine wl rfl (.int .i64 (N : Nat)) _ ((by rw [← HN.out.2.2]; exact run_lenA el134 H2.out.2.1 (.tmp 7) rfl rfl)) ?_
 refine wl rfl (.int .i64 0) _ (run_mvZ (.const (.int .i64 0)) rfl (.int .i64 0) rfl) ?_
 simp only [Act.put, aS, aC, aZ]
 refine wpList_nil ?_
 go_wp2_with fail
 go_loopw [3, 4, 5, 9] (fun vr _ _ vk W => ∃ k : Nat, vk = .int .i64 (k : Nat) ∧ k ≤ N ∧ Hid (Loc w W [(q1, 91, (obC (d : Nat) (a : Nat) ln bd id vb))] ∧ AOwn 133 64 W w.heap.size vr (bkTo d a id bs k) ∧ AOwn 129 56 W w1.heap.size vp (pcs id bs))) (fun _ _ _ vk _ => N - (intOf vk).toNat)
 case atStart => exact ⟨0, rfl, Nat.zero_le _, H2.out.1, AOwn.nil _ _ _ _, H2.out.2.1⟩
 case round =>
  obtain ⟨k, rfl, hk, HI⟩ := hrel
  by_cases hlt : k < N
  ·go_upto_region 3 with fail
   refine wp_region_lit ?_
   refine wl rfl (.bool true) _ (run_lssZ (.tmp 9) (.tmp 8) rfl (k : Nat) (N : Nat) rfl rfl true (decide_eq_true (by omega))) ?_
   simp only [Act.put, aS, aC, aZ]
   refine wpList_nil ?_
   obtain ⟨g, _, hgb_, hx_, hc_⟩ := HI.out.2.2.ix el134 k (by rw [HN.out.2.2]; exact hlt)
   obtain ⟨pk, hpk⟩ : ∃ x, x = (pcs id bs).getD k [] := ⟨_, rfl⟩
   rw [← hpk] at hc_
   have hpl_ := HI.out.2.2.1.at k (by rw [HN.out.2.2]; exact hlt)
   rw [← hpk] at hpl_
   have HX : Hid ((∀ w', (Instr.indexAt 134 vp (.int .i64 (k : Nat))).run Tryd.prog w' = .ok (.pointer (some ⟨g, k * 56, none⟩)) w') ∧ (∀ W' : World, AOwn 129 56 W' w1.heap.size vp (pcs id bs) → ∀ j u, (bcells pk)[j]? = some u → W'.cell? ⟨g, k * 56 + j, none⟩ = some u) ∧ pk = (pcs id bs).getD k [] ∧ pk.length = 56 ∧ (∀ c ∈ pk, c < 256)) := ⟨hx_, hc_, hpk, hpl_⟩
   clear hx_ hc_ hpk hpl_ hgb_
   have HK : Hid (k < N) := hlt
   go_upto_region 4 with fail
   refine wp_region_lit ?_
   refine wl rfl (.int .i64 (k : Nat)) _ (run_mvZ (.tmp 9) rfl (.int .i64 (k : Nat)) rfl) ?_
   refine wl rfl (.pointer (some ⟨g, k * 56, none⟩)) _ (run_idx (.tmp 7) (.tmp 9) rfl _ _ _ rfl rfl HX.out.1) ?_
   refine wl rfl (.agg (bcells pk).toArray) _ (run_loadA ag129 (.tmp 12) rfl g (k * 56) rfl (bcells pk) (by rw [bcells_length]; exact HX.out.2.2.2.1) (HX.out.2.1 _ HI.out.2.2)) ?_
   simp only [Act.put, aS, aC, aZ]
   refine wl rfl (ptr wr.heap.size) _ (run_allocA (bcells (Zs 56)) zero129 rfl) ?_
   have hb_ := below_alloc wr (.cells (bcells (Zs 56)).toArray 129)
   have r_ := Row.new wr 129 (bcells (Zs 56))
   obtain ⟨y1, hW_⟩ : ∃ U_ : World, U_ = wr.alloc (.cells (bcells (Zs 56)).toArray 129) := ⟨_, rfl⟩
   obtain ⟨q5, hq_⟩ : ∃ q, q = wr.heap.size := ⟨_, rfl⟩
   rw [← hW_] at hb_
   rw [← hW_, ← hq_] at r_
   rw [← hW_, ← hq_]
   have Q1 : Hid (Row y1 q5 129 (bcells (Zs 56)) ∧ (Loc w y1 [(q1, 91, (obC (d : Nat) (a : Nat) ln bd id vb))] ∧ AOwn 133 64 y1 w.heap.size u3 (bkTo d a id bs k) ∧ AOwn 129 56 y1 w1.heap.size vp (pcs id bs)) ∧ wr.heap.size ≤ q5) := ⟨r_, ⟨HI.out.1.later hb_, HI.out.2.1.later hb_, HI.out.2.2.later hb_⟩, by omega⟩
   have QL : Hid (w.heap.size ≤ wr.heap.size ∧ (∀ b, u3.ownBlock = some b → b < wr.heap.size) ∧ (∀ b, vp.ownBlock = some b → b < wr.heap.size) ∧ q1 < wr.heap.size) := ⟨HI.out.1.below.size, fun b e => (HI.out.2.1.2.lt b e).2, fun b e => (HI.out.2.2.2.lt b e).2, (HI.out.1.at 0 rfl).lt⟩
   clear r_ hb_ hW_ hq_
   simp only [Act.put, aS, aC, aZ]
   refine wl rfl (.int .i64 (k : Nat)) _ (run_asZ (.tmp 11) rfl (.int .i64 (k : Nat)) rfl) ?_
   simp only [Act.put, aS, aC, aZ]
   refine wlS rfl rfl _ (run_storeA ag129 (.tmp 5) (.tmp 13) rfl q5 129 rfl (bcells pk) _ rfl (by rw [bcells_length]; exact HX.out.2.2.2.1) Q1.out.1 (by rw [bcells_length, bz]; exact HX.out.2.2.2.1) (bcells_one _)) ?_
   have hb_ := (Ch.setRow (S := (· = q5)) (Ch.refl _ y1) (Or.inl rfl) (bcells pk).toArray)
   have r_ := Q1.out.1.setRow (bcells pk)
   obtain ⟨y2, hW_⟩ : ∃ U_ : World, U_ = y1.setRow q5 (bcells pk).toArray := ⟨_, rfl⟩
   rw [← hW_] at hb_ r_ ⊢
   have Q2 : Hid (Row y2 q5 129 (bcells pk) ∧ (Loc w y2 [(q1, 91, (obC (d : Nat) (a : Nat) ln bd id vb))] ∧ AOwn 133 64 y2 w.heap.size u3 (bkTo d a id bs k) ∧ AOwn 129 56 y2 w1.heap.size vp (pcs id bs))) := ⟨r_, Q1.out.2.1.1.later2 hb_ (fun i g T cs e e' => by rcases i with _ | i <;> simp at e; obtain ⟨rfl, _, _⟩ := e; have := QL.out.2.2.2; have := Q1.out.2.2; omega) (by have := Q1.out.2.2; have := QL.out.1; omega), Q1.out.2.1.2.1.keep hb_ (fun b e e' => by have := QL.out.2.1 b e; have := Q1.out.2.2; omega), Q1.out.2.1.2.2.keep hb_ (fun b e e' => by have := QL.out.2.2.1 b e; have := Q1.out.2.2; omega)⟩
   clear hb_ r_ hW_ Q1
   refine wpList_nil ?_
   obtain ⟨bl, hbl⟩ : ∃ x, x = pk ++ tg 111 d a k := ⟨_, rfl⟩
   have HB : Hid (bl.length = 64 ∧ ∀ c ∈ bl, c < 256) := ⟨by rw [hbl, List.length_append, HX.out.2.2.2.1]; rfl, fun c hc => by rw [hbl] at hc; rcases List.mem_append.1 hc with hc | hc; exact HX.out.2.2.2.2 c hc; exact tg_lt _ _ _ _ c hc⟩
   have HBE : Hid (bl = pk ++ tg 111 d a k) := hbl
   clear hbl
   go_upto_region 5 with fail
   refine wp_region_until (S := fun X => Row X q5 129 (bcells pk) ∧ (Loc w X [(q1, 91, (obC (d : Nat) (a : Nat) ln bd id vb))] ∧ AOwn 133 64 X w.heap.size u3 (bkTo d a id bs k) ∧ AOwn 129 56 X w1.heap.size vp (pcs id bs))) 7 (by kernel_rfl) ?_
   show wpAnyU _ _ _ _ _ _ 9 (Array.replicate 9 false) _ _
   obtain ⟨X, hX⟩ : ∃ X : World, X = { y2 with drawn := y2.drawn + 1 } := ⟨_, rfl⟩
   rw [← hX]
   have HS_ : Row X q5 129 (bcells pk) ∧ (Loc w X [(q1, 91, (obC (d : Nat) (a : Nat) ln bd id vb))] ∧ AOwn 133 64 X w.heap.size u3 (bkTo d a id bs k) ∧ AOwn 129 56 X w1.heap.size vp (pcs id bs)) := (by rw [hX]; exact ⟨Q2.out.1.later ⟨rfl, rfl, rfl, Nat.le_refl _, fun _ _ => rfl⟩ Q2.out.1.lt, Q2.out.2.1.later ⟨rfl, rfl, rfl, Nat.le_refl _, fun _ _ => rfl⟩, Q2.out.2.2.1.later ⟨rfl, rfl, rfl, Nat.le_refl _, fun _ _ => rfl⟩, Q2.out.2.2.2.later ⟨rfl, rfl, rfl, Nat.le_refl _, fun _ _ => rfl⟩⟩)
   clear hX
   refine tV 0 [7] 14 rfl rfl (gRun rfl u3 fun _ h => run_mvZ (.tmp 3) rfl u3 rfl) HS_ ?_
   refine tV 1 [5, 6, 7] 15 rfl rfl (gRun rfl (.agg (bcells pk).toArray) fun _ h => run_loadA ag129 (.tmp 5) rfl q5 (0) rfl (bcells pk) (by rw [bcells_length]; exact HX.out.2.2.2.1) (rows_one h.1)) HS_ ?_
   refine tV 2 [4, 7] 16 rfl rfl (gRun rfl (.agg ((obC (d : Nat) (a : Nat) ln bd id vb)).toArray) fun _ h => run_loadA ag91 (.tmp 1) rfl q1 (0) rfl ((obC (d : Nat) (a : Nat) ln bd id vb)) rfl (rows_all h.2.1 0 rfl)) HS_ ?_
   simp only [Act.put, aS, aC, aZ]
   refine tV 3 [4, 7] 17 rfl rfl (gRun rfl (.int .i64 (k : Nat)) fun _ h => run_mvZ (.tmp 4) rfl (.int .i64 (k : Nat)) rfl) HS_ ?_
   simp only [Act.put, aS, aC, aZ]
   refine oneU (i := 4) (by kernel_rfl) ?_
   refine opCallG (some 18) rfl rfl rfl 61 _ (run_call eN61 [.tmp 16, .tmp 17] _ rfl [(.agg ((obC (d : Nat) (a : Nat) ln bd id vb)).toArray), (.int .i64 (k : Nat))] rfl) ?_
   refine (tag_any d a k ln bd id vb X).mono ?_
   rintro e Y1 ⟨rfl, hb_⟩
   refine ⟨_, rfl, ?_⟩
   replace HS_ : Row Y1 q5 129 (bcells pk) ∧ (Loc w Y1 [(q1, 91, (obC (d : Nat) (a : Nat) ln bd id vb))] ∧ AOwn 133 64 Y1 w.heap.size u3 (bkTo d a id bs k) ∧ AOwn 129 56 Y1 w1.heap.size vp (pcs id bs)) := ⟨HS_.1.later hb_ HS_.1.lt, HS_.2.1.later hb_, HS_.2.2.1.later hb_, HS_.2.2.2.later hb_⟩
   clear hb_
   refine ⟨fun _ => HS_, ?_⟩
   simp only [Act.put, aS, aC, aZ]
   refine tV 5 [6, 7] 19 rfl rfl (gRun rfl (av bl) fun _ h => (by rw [HBE.out]; exact run_blkOp (.tmp 15) (.tmp 18) rfl pk _ HX.out.2.2.2.1 (tg_length _ _ _ _) rfl rfl)) HS_ ?_
   simp only [Act.put, aS, aC, aZ]
   refine oneU (i := 6) (by kernel_rfl) ?_
   have ho_ := lit_own el93 Y1 w.heap.size HS_.2.1.below.size bl HB.out
   have hb_ := below_alloc Y1 (.cells (bcells bl).toArray 133)
   have hc_ : ∀ j u, (bcells bl)[j]? = some u → (Y1.alloc (.cells (bcells bl).toArray 133)).cell? ⟨Y1.heap.size, j, none⟩ = some u := fun j u hu => (Row.new Y1 133 (bcells bl)).at j u hu
   refine opValueG (some 20) rfl rfl rfl (.slice (some ⟨Y1.heap.size, 0, none⟩) 1 1) _ (run_litOp el93 (.tmp 19) rfl bl HB.out.1 rfl) ?_
   obtain ⟨Y2, hW_⟩ : ∃ U_ : World, U_ = Y1.alloc (.cells (bcells bl).toArray 133) := ⟨_, rfl⟩
   obtain ⟨q6, hq_⟩ : ∃ q, q = Y1.heap.size := ⟨_, rfl⟩
   rw [← hW_] at hb_ hc_ ho_ ⊢
   rw [← hq_] at ho_ hc_ ⊢
   replace HS_ : Row Y2 q5 129 (bcells pk) ∧ (Loc w Y2 [(q1, 91, (obC (d : Nat) (a : Nat) ln bd id vb))] ∧ AOwn 133 64 Y2 w.heap.size u3 (bkTo d a id bs k) ∧ AOwn 129 56 Y2 w1.heap.size vp (pcs id bs)) := ⟨HS_.1.later hb_ HS_.1.lt, HS_.2.1.later hb_, HS_.2.2.1.later hb_, HS_.2.2.2.later hb_⟩
   have HC : Hid (∀ j u, (bcells bl)[j]? = some u → Y2.cell? ⟨q6, j, none⟩ = some u) := hc_
   clear ho_ hb_ hc_ hW_ hq_
   refine ⟨fun _ => HS_, ?_⟩
   simp only [Act.put, aS, aC, aZ]
   refine oneU (i := 7) (by kernel_rfl) ?_
   obtain ⟨v9, Y3, hr_, ho_, hg_, _⟩ := run_app1 el93 w.heap.size u3 (bkTo d a id bs k) bl HS_.2.2.1 HB.out q6 HC.out (by rw [bkTo_length]; have := HN.out.2.1; have := HK.out; omega) HS_.2.1.below.size
   refine opValueG (some 21) rfl rfl rfl v9 Y3 (run_appOp (.tmp 14) (.tmp 20) rfl _ _ _ rfl rfl hr_) ?_
   have HS3 : Row Y3 q5 129 (bcells pk) ∧ (Loc w Y3 [(q1, 91, (obC (d : Nat) (a : Nat) ln bd id vb))] ∧ AOwn 133 64 Y3 w.heap.size v9 (bkTo d a id bs k ++ [bl]) ∧ AOwn 129 56 Y3 w1.heap.size vp (pcs id bs)) := ⟨HS_.1.grown hg_ (fun e => own_ne HS_.2.2.1.2 e HS_.1 (by decide)), ⟨HS_.2.1.below.trans (HS_.2.2.1.belowG hg_ HS_.2.1.below.size), fun i g T cs e => ⟨(HS_.2.1.at i e).grown hg_ (fun e' => own_ne HS_.2.2.1.2 e' (HS_.2.1.at i e) (by rcases i with _ | i <;> simp at e; obtain ⟨_, rfl, _⟩ := e; decide)), HS_.2.1.ge i e⟩, HS_.2.1.ne⟩, ho_, ⟨HS_.2.2.2.1, ownK HS_.2.2.2.2 fun b e => hg_.block b (HS_.2.2.2.2.lt b e).2 (fun e' => own_ne2 HS_.2.2.1.2 HS_.2.2.2.2 e'.symm e (by decide))⟩⟩
   clear hr_ ho_ hg_ HS_ HC
   refine ⟨fun h => absurd (show true = false from h) (by decide), ?_⟩
   simp only [Act.put, aS, aC, aZ]
   refine oneU (i := 8) (by kernel_rfl) ?_
   refine opValueG (some 3) rfl rfl rfl v9 _ (run_asZ (.tmp 21) rfl v9 rfl) ?_
   refine ⟨fun h => absurd (show true = false from h) (by decide), ?_⟩
   simp only [Act.put, aS, aC, aZ]
   refine wpAnyU_done (by kernel_rfl) ?_ _
   have Q4 : Hid (Loc w Y3 [(q1, 91, (obC (d : Nat) (a : Nat) ln bd id vb))] ∧ AOwn 133 64 Y3 w.heap.size v9 (bkTo d a id bs (k + 1)) ∧ AOwn 129 56 Y3 w1.heap.size vp (pcs id bs)) := (by rw [bkTo_succ]; have e9 : bk d a id bs k = bl := (by rw [HBE.out, HX.out.2.2.1]; rfl); rw [e9]; exact HS3.2)
   clear HS3
   go_upto_region 6 with fail
   refine wp_region_lit ?_
   refine wl rfl (.int .i64 ((k + 1 : Nat) : Int)) _ (run_addZ (.tmp 9) (.const (.int .i64 1)) rfl (k : Nat) 1 _ rfl rfl (by omega) (by omega) (by have := HN.out.2.1; omega)) ?_
   refine wl rfl (.int .i64 ((k + 1 : Nat) : Int)) _ (run_mvZ (.tmp 22) rfl (.int .i64 ((k + 1 : Nat) : Int)) rfl) ?_
   simp only [Act.put, aS, aC, aZ]
   refine wpList_nil ?_
   go_wp2_with fail
   exact ⟨⟨k + 1, rfl, by omega, Q4.out⟩, by simp [intOf]; omega⟩
  ·go_upto_region 3 with fail
   refine wp_region_lit ?_
   refine wl rfl (.bool false) _ (run_lssZ (.tmp 9) (.tmp 8) rfl (k : Nat) (N : Nat) rfl rfl false (decide_eq_false (by omega))) ?_
   simp only [Act.put, aS, aC, aZ]
   refine wpList_nil ?_
   go_upto_region 7 with fail
   refine wp_region_lit ?_
   refine wl rfl u3 _ (run_mvZ (.tmp 3) rfl u3 rfl) ?_
   refine wl rfl u3 _ (run_asZ (.tmp 23) rfl u3 rfl) ?_
   simp only [Act.put, aS, aC, aZ]
   refine wpList_nil ?_
   go_wp2_with fail
   rw [HPQ.out]
   refine ⟨u3, rfl, ?_, HI.out.1.below⟩
   have h9 := HI.out.2.1
   rw [show k = nb bs.length by have := HN.out.1; omega] at h9
   exact h9

end Go.Proofs.YtpkkkkomdblpoaaDoor

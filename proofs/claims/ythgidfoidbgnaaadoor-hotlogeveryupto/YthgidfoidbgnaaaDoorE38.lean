/- Places held against one another. Layer 14: the document's examples. -/
import Derived.Test.YthgidfoidbgnaaaDoorE37
namespace Go.Proofs.YthgidfoidbgnaaaDoor
open Go.RowKit Go.Maps

theorem fields30 : ∃ f0 f1 f2 f3 : Field, Tryd.prog.underlying 30 = some (.struct #[f0, f1, f2, f3]) ∧ (f0.type = 3 ∧ f0.offset = 0 ∧ (f0.name ≠ "_")) ∧ (f1.type = 3 ∧ f1.offset = 1 ∧ (f1.name ≠ "_")) ∧ (f2.type = 3 ∧ f2.offset = 2 ∧ (f2.name ≠ "_")) ∧ (f3.type = 4 ∧ f3.offset = 3 ∧ (f3.name ≠ "_")) :=
 ⟨_, _, _, _, Tryd.underlying30, ⟨rfl, rfl, by decide⟩, ⟨rfl, rfl, by decide⟩, ⟨rfl, rfl, by decide⟩, rfl, rfl, by decide⟩
theorem eqlPl (a b c a' b' c' : Int) (d d' : Bool) (W : World) : (Op.equalIn 10000 30 (.agg (plC a b c d).toArray) (.agg (plC a' b' c' d').toArray)).run Tryd.prog W = .ok (decide (a = a' ∧ b = b' ∧ c = c' ∧ d = d')) W := by
 have h1 : Tryd.prog.underlying 30 = some (.struct (Tryd.prog.fieldsOf 30)) := by kernel_rfl
 have h2 : Tryd.prog.stoodInHeld 30 = false := by kernel_rfl
 obtain ⟨f0, f1, f2, f3, hf0, ⟨a1, a2, a3⟩, ⟨b1, b2, b3⟩, ⟨c1, c2, c3⟩, d1, d2, d3⟩ := fields30
 have hf : (Tryd.prog.fieldsOf 30).toList = [f0, f1, f2, f3] := by
  have h3 := TypeDesc.struct.inj (Option.some.inj (h1.symm.trans hf0))
  rw [h3]
 have hq : ∀ x y : Int, (Op.equalIn (9998 + 1) 3 (.int .i64 x) (.int .i64 y)).run Tryd.prog W = .ok (decide (x = y)) W := fun x y => by
  rw [run_equalIn_int W 9998 3 .i64 .i64 x y Tryd.underlying3]
  by_cases h : x = y <;> simp [h]
 have hb : (Op.equalIn (9998 + 1) 4 (.bool d) (.bool d')).run Tryd.prog W = .ok (decide (d = d')) W := by
  rw [run_equalIn_bool' W 9998 4 d d' Tryd.underlying4]
  by_cases h : d = d' <;> simp [h]
 have p3 : ∀ (i : Nat) (cs : List Value) (v : Value), cs[i]? = some v → (part 3 cs.toArray i).run Tryd.prog W = .ok v W := fun i cs v hv => by simp [part, isAgg, run_underlying Tryd.underlying3, hv]
 have p4 : ∀ (i : Nat) (cs : List Value) (v : Value), cs[i]? = some v → (part 4 cs.toArray i).run Tryd.prog W = .ok v W := fun i cs v hv => by simp [part, isAgg, run_underlying Tryd.underlying4, hv]
 rw [show (10000 : Nat) = 9998 + 1 + 1 from rfl, run_equalIn_struct W (9998 + 1) 30 _ _ h1 h2, hf]
 have P0 := p3 0 (plC a b c d) (.int .i64 a) rfl
 have P1 := p3 0 (plC a' b' c' d') (.int .i64 a') rfl
 have P2 := p3 1 (plC a b c d) (.int .i64 b) rfl
 have P3 := p3 1 (plC a' b' c' d') (.int .i64 b') rfl
 have P4 := p3 2 (plC a b c d) (.int .i64 c) rfl
 have P5 := p3 2 (plC a' b' c' d') (.int .i64 c') rfl
 have P6 := p4 3 (plC a b c d) (.bool d) rfl
 have P7 := p4 3 (plC a' b' c' d') (.bool d') rfl
 generalize plC a b c d = X at P0 P2 P4 P6 ⊢
 generalize plC a' b' c' d' = Y at P1 P3 P5 P7 ⊢
 simp only [Op.eqFields, a1, a2, b1, b2, c1, c2, d1, d2, a3, b3, c3, d3, ne_eq, not_false_eq_true, if_true, Sem.run_bind, P0, P1, Result.andThen_ok, hq]
 by_cases e1 : a = a'
 ·simp only [e1, decide_true, Bool.not_true, Bool.false_eq_true, if_false, Sem.run_bind, P2, P3, Result.andThen_ok, hq, true_and]
  by_cases e2 : b = b'
  ·simp only [e2, decide_true, Bool.not_true, Bool.false_eq_true, if_false, Sem.run_bind, P4, P5, Result.andThen_ok, hq, true_and]
   by_cases e3 : c = c'
   ·simp only [e3, decide_true, Bool.not_true, Bool.false_eq_true, if_false, Sem.run_bind, P6, P7, Result.andThen_ok, hb, true_and]
    by_cases e4 : d = d' <;> simp [e4]
   ·simp [e3]
  ·simp [e2]
 ·simp [e1]
theorem run_eqPl {w : World} {x : Act} {o : Oper} (u v : Operand) (ho : o.op = .binOp .eql 30 u v 30) (a b c a' b' c' : Int) (d d' : Bool) (hx : x.eval u = .agg (plC a b c d).toArray) (hy : x.eval v = .agg (plC a' b' c' d').toArray) (r : Bool) (hr : decide (a = a' ∧ b = b' ∧ c = c' ∧ d = d') = r) : (execOp x.eval o).run Tryd.prog w = .ok (.value (.bool r)) w := by
 have hm : Tryd.prog.eqGuardType Tryd.prog.depth 30 = false := by kernel_rfl
 have he := eqlPl a b c a' b' c' d d' w
 rw [hr] at he
 simp [execOp, ho, hx, hy, run_eqGuard_agg w .eql 30 u v _ _ hm, run_eql_struct w 30, he]
theorem run_nePl {w : World} {x : Act} {o : Oper} (u v : Operand) (ho : o.op = .binOp .neq 30 u v 30) (a b c a' b' c' : Int) (d d' : Bool) (hx : x.eval u = .agg (plC a b c d).toArray) (hy : x.eval v = .agg (plC a' b' c' d').toArray) (r : Bool) (hr : (!decide (a = a' ∧ b = b' ∧ c = c' ∧ d = d')) = r) : (execOp x.eval o).run Tryd.prog w = .ok (.value (.bool r)) w := by
 have hm : Tryd.prog.eqGuardType Tryd.prog.depth 30 = false := by kernel_rfl
 have he := eqlPl a b c a' b' c' d d' w
 rw [← hr]
 simp [execOp, ho, hx, hy, run_eqGuard_agg w .neq 30 u v _ _ hm, run_neq_struct w 30, he]
section
variable {w W W' : World} {c c' : Nat → Colour} {gp gh gf gm : Nat} {m m' : Pl} {n K : Nat} {us : List (Nat × List Nat)}
/-- an Append where the power can't go off -/
theorem HtW.appendAt (h : HtW w W c gp gh gf gm m n us K) (hK : K ≤ 1000000000000) (hf : m.fuse < 0) (vb : Value) (b : List Nat) (hin : SliceIn W vb b) (hl : b.length ≤ 512) (a : Nat) (ha : Fits (n / 16) (us.map plc) a (costN b.length)) : Calls Tryd.prog 21 #[ptr gh, vb] W fun e W' => ∃ c' m', e = ret1 (a : Nat) 0 (costN b.length : Nat) ∧ Sq W W' c c' gf gm ∧ m'.fuse < 0 ∧ HtW w W' c' gp gh gf gm m' n (us ++ [(a, b)]) (K + 20) := by
 refine (h.append hK vb b hin hl).mono ?_
 rintro e W' ⟨c', hs, ⟨h1, _⟩ | ⟨a', m', h1, h2, h3, h4⟩ | ⟨a', m', _, h2, _⟩⟩
 ·exact absurd ha.1 (h1 a)
 ·obtain rfl : a' = a := h1.uniq ha
  exact ⟨c', m', h2, hs, h3 hf, h4⟩
 ·omega
theorem HtW.appendFull (h : HtW w W c gp gh gf gm m n us K) (hK : K ≤ 1000000000000) (vb : Value) (b : List Nat) (hin : SliceIn W vb b) (hl : b.length ≤ 512) (ha : ∀ a, ¬ Room1 (n / 16) (us.map plc) a (costN b.length)) : Calls Tryd.prog 21 #[ptr gh, vb] W fun e W' => ∃ c', e = retZ 3 ∧ Sq W W' c c' gf gm ∧ HtW w W' c' gp gh gf gm m n us K := by
 refine (h.append hK vb b hin hl).mono ?_
 rintro e W' ⟨c', hs, ⟨_, h2, h3⟩ | ⟨a', m', h1, _⟩ | ⟨a', m', h1, _⟩⟩
 ·exact ⟨c', h2, hs, h3⟩
 ·exact absurd h1.1 (ha a')
 ·exact absurd h1.1 (ha a')
end
def zr (k : Nat) : List Nat := List.replicate k 0
theorem zr_length (k : Nat) : (zr k).length = k := List.length_replicate
theorem zr_lt (k : Nat) : ∀ c ∈ zr k, c < 256 := fun c hc => by rw [(List.mem_replicate.1 hc).2]; decide
theorem zr_slice {w : World} {g k : Nat} (h : Row w g 5 (bcells (zr k))) (hk : k ≤ 1000000) : SliceIn w (whole g k) (zr k) := by
 have := whole_slice h (zr_lt k) (by rw [zr_length]; omega)
 rwa [zr_length] at this
end Go.Proofs.YthgidfoidbgnaaaDoor

namespace Go.Proofs.YthgidfoidbgnaaaDoor
open Go.RowKit Go.Maps


/-- places of the law's own -/
def Mine (w W : World) (c : Nat → Colour) (gh gf gm : Nat) (l : List (Nat × List Value)) : Prop := ∀ x ∈ l, Row W x.1 30 x.2 ∧ Out w W c gh gf gm x.1
section
variable {w W W' : World} {c c' : Nat → Colour} {gp gh gf gm : Nat} {m m' : Pl} {n K : Nat} {us : List (Nat × List Nat)} {l : List (Nat × List Value)}
theorem Mine.bel (h : Mine w W c gh gf gm l) (hb : Below W.heap.size W W') : Mine w W' c gh gf gm l := fun x hx => ⟨(h x hx).1.later hb (h x hx).1.lt, (h x hx).2.bel hb.size⟩
theorem Mine.sq (h : Mine w W c gh gf gm l) (s : Sq W W' c c' gf gm) : Mine w W' c' gh gf gm l := fun x hx => ⟨(h x hx).2.row s (h x hx).1, ((h x hx).2.step s).1⟩
theorem Mine.add (h : Mine w W c gh gf gm l) (hb : Below W.heap.size W W') (hh : HtW w W c gp gh gf gm m n us K) {q : Nat} {cs : List Value} (hq : W.heap.size ≤ q) (hr : Row W' q 30 cs) : Mine w W' c gh gf gm (l ++ [(q, cs)]) := fun x hx => by
 rcases List.mem_append.1 hx with hx | hx
 ·exact h.bel hb x hx
 ·rw [List.mem_singleton] at hx
  subst hx
  exact ⟨hr, Out.new hh hq hr.lt⟩
theorem Mine.at (h : Mine w W c gh gf gm l) (i : Nat) {q : Nat} {cs : List Value} (e : l[i]? = some (q, cs)) : Row W q 30 cs := (h (q, cs) (List.mem_of_getElem? e)).1
end
theorem plc_z (a k : Nat) : plc (a, zr k) = (a, costN k) := by unfold plc; rw [zr_length]
theorem und28 : Tryd.prog.underlying 28 = some (.slice 5) := by kernel_rfl
theorem run_lit43 {w : World} {a : Act} {o : Oper} (x : Operand) (ho : o.op = .buildSlice 43 1 #[(0, x)]) (d t l : Int) (b : Bool) (hx : a.eval x = .agg (plC d t l b).toArray) : (execOp a.eval o).run Tryd.prog w = .ok (.value (whole w.heap.size 1)) (w.alloc (.cells (plC d t l b).toArray 30)) := by
 have hr : (Instr.buildSlice 43 1 #[(0, .agg (plC d t l b).toArray)]).run Tryd.prog w = .ok (whole w.heap.size 1) (w.alloc (.cells (plC d t l b).toArray 30)) := by kernel_rfl
 simp only [execOp, ho, List.map_toArray, List.map_cons, List.map_nil, hx, hr, Sem.run_bind, Sem.run_pure, Result.andThen_ok]
theorem pls_one {w : World} {g : Nat} {x : Pq} (h : Row w g 30 x.cells) (hx : x.ok) : PlsIn w (whole g 1) [x] :=
 ⟨some ⟨g, 0, none⟩, 1, rfl, Nat.le_refl _, (by decide : 1 ≤ 140737488355328), Or.inr ⟨g, 0, rfl, fun i hi j hj => (by
  have : i = 0 := (by simpa using hi)
  subst this
  rw [Nat.zero_add, Nat.zero_mul, Nat.zero_add]
  exact h.cell j)⟩, fun y hy => (by rw [List.mem_singleton] at hy; subst hy; exact hx)⟩
set_option maxHeartbeats 4000000 in
set_option maxRecDepth 100000 in
theorem shown_any (w : World) (ht : Fr.TabIn w) (hz : TzIn w) : Calls Tryd.prog 9 #[] w fun e w' => e = .returned (.bool true) ∧ Below w.heap.size w w' := by
 have HM : Hid (Fr.TabIn w ∧ TzIn w) := ⟨ht, hz⟩
 clear ht hz
 obtain ⟨bf, hbf⟩ : ∃ b, b = false := ⟨_, rfl⟩
 obtain ⟨bt, hbt⟩ : ∃ b, b = true := ⟨_, rfl⟩
 have HBF : Hid (bf = false) := hbf
 have HBT : Hid (bt = true) := hbt
 clear hbf hbt
 obtain ⟨PQ, HPQ⟩ := exPQ fun (e : Ending) (w' : World) => e = .returned (.bool true) ∧ Below w.heap.size w w'
 rw [← HPQ.out]
 go_enter Tryd.func9, Tryd.ntmps9
 go_upto_region 0 with fail
 refine wp_region_lit ?_
 refine wl rfl (.bool false) _ (run_asZ (.const (.bool false)) rfl (.bool false) rfl) ?_
 simp only [Act.put, aS, aZ]
 refine wpList_nil ?_
 go_upto_region 1 with fail
 refine wp_region_lit ?_
 refine wpList_callW eN17 [.const (.int .i64 40)] _ rfl rfl [.int .i64 40] rfl ?_
 refine (made_any (Below.refl _ w) HM.out.1 HM.out.2 40 (by decide)).mono ?_
 rintro e W1 ⟨gp, c1, rfl, hb_, hp_⟩
 refine ⟨_, rfl, ?_⟩
 have H1 : Hid (PlW w W1 c1 gp (newPl [1, (40 : Int)] [9]) 40 0) := hp_
 clear hb_ hp_
 simp only [Act.put, aS, aC, aZ]
 refine wl rfl (ptr gp) _ (run_asZ (.tmp 25) rfl (ptr gp) rfl) ?_
 simp only [Act.put, aS, aC, aZ]
 refine wpList_nil ?_
 go_upto_region 2 with fail
 refine wp_region_lit ?_
 refine wl rfl (ptr gp) _ (run_mvZ (.tmp 1) rfl (ptr gp) rfl) ?_
 refine wl rfl (.bool false) _ (run_binOp' (.tmp 26) (.const (.pointer none)) rfl _ _ _ rfl rfl rfl (by kernel_rfl)) ?_
 simp only [Act.put, aS, aC, aZ]
 refine wpList_nil ?_
 go_upto_region 4 with fail
 refine wp_region_lit ?_
 refine wl rfl (ptr gp) _ (run_mvZ (.tmp 1) rfl (ptr gp) rfl) ?_
 simp only [Act.put, aS, aC, aZ]
 refine wpList_callW eN18 [.tmp 29, .const (.int .i64 1), .const (.slice none 0 0)] _ rfl rfl [(ptr gp), .int .i64 1, .slice none 0 0] rfl ?_
 refine (H1.out.open0 rfl rfl).mono ?_
 rintro e W2 ⟨gh, gf, gm, rfl, hb_, _, _, _, hp_⟩
 refine ⟨_, rfl, ?_⟩
 have HS : Hid (HtW w W2 c1 gp gh gf gm (newPl [1, (40 : Int)] [9]) 40 [] 0 ∧ (newPl [1, (40 : Int)] [9]).fuse < 0 ∧ Mine w W2 c1 gh gf gm []) := ⟨hp_, (by decide), fun x hx => (by cases hx)⟩
 clear hb_ hp_
 simp only [Act.put, aS, aC, aZ]
 refine wl rfl (.tuple #[(ptr gh), (.int .i64 0)]) _ (run_mvZ (.tmp 30) rfl (.tuple #[(ptr gh), (.int .i64 0)]) rfl) ?_
 refine wl rfl (ptr gh) _ (run_extZ (.tmp 28) 0 rfl #[(ptr gh), (.int .i64 0)] rfl (ptr gh) rfl) ?_
 refine wl rfl (.int .i64 0) _ (run_extZ (.tmp 28) 1 rfl #[(ptr gh), (.int .i64 0)] rfl (.int .i64 0) rfl) ?_
 refine wl rfl (ptr gh) _ (run_asZ (.tmp 31) rfl (ptr gh) rfl) ?_
 simp only [Act.put, aS, aC, aZ]
 refine wl rfl (.int .i64 0) _ (run_asZ (.tmp 32) rfl (.int .i64 0) rfl) ?_
 simp only [Act.put, aS, aC, aZ]
 refine wpList_nil ?_
 go_upto_region 5 with fail
 refine wp_region_lit ?_
 refine wl rfl (ptr gh) _ (run_mvZ (.tmp 2) rfl (ptr gh) rfl) ?_
 refine wl rfl (.bool false) _ (run_binOp' (.tmp 33) (.const (.pointer none)) rfl _ _ _ rfl rfl rfl (by kernel_rfl)) ?_
 refine wl rfl (.bool false) _ (run_mvZ (.tmp 34) rfl (.bool false) rfl) ?_
 refine wl (by kernel_rfl) (.int .i64 0) _ (run_mvZ (.tmp 3) rfl (.int .i64 0) rfl) ?_
 simp only [Act.put, aS, aC, aZ]
 refine wl (by kernel_rfl) (.bool false) _ (run_neZ (.tmp 36) (.const (.int .i64 0)) rfl (0) (0) rfl rfl false rfl) ?_
 refine wl rfl (.bool false) _ (run_pickZ (.tmp 35) (.const (.bool true)) (.tmp 37) rfl false (.bool false) rfl rfl) ?_
 simp only [Act.put, aS, aC, aZ]
 refine wpList_nil ?_
 go_upto_region 7 with fail
 refine wp_region_lit ?_
 refine wl rfl (ptr gh) _ (run_mvZ (.tmp 2) rfl (ptr gh) rfl) ?_
 simp only [Act.put, aS, aC, aZ]
 refine wpList_callW eN21 [.tmp 40, .const (.slice none 0 0)] _ rfl rfl [(ptr gh), (.slice none 0 0)] rfl ?_
 refine (HS.out.1.appendAt (by decide) HS.out.2.1 _ (zr 0) (Fr.SliceIn.nil W2) (by rw [zr_length]; decide) 0 (by simp only [List.map_nil, zr_length]; unfold Fits Room1 costN; decide)).mono ?_
 rintro e W3 ⟨c3, m3, he_, hs_, hf_, hh_⟩
 have he_ : e = .returned (.tuple #[.agg (plC 1 0 1 false).toArray, .int .i64 0]) := he_.trans (by unfold ret1; rw [zr_length]; rfl)
 subst he_
 refine ⟨_, rfl, ?_⟩
 replace HS : Hid (HtW w W3 c3 gp gh gf gm m3 40 [(0, zr 0)] 20 ∧ m3.fuse < 0 ∧ Mine w W3 c3 gh gf gm []) := ⟨hh_, hf_, HS.out.2.2.sq hs_⟩
 clear hs_ hf_ hh_
 simp only [Act.put, aS, aC, aZ]
 refine wl rfl (.tuple #[(.agg (plC 1 0 1 false).toArray), (.int .i64 0)]) _ (run_mvZ (.tmp 41) rfl (.tuple #[(.agg (plC 1 0 1 false).toArray), (.int .i64 0)]) rfl) ?_
 refine wl rfl (.agg (plC 1 0 1 false).toArray) _ (run_extZ (.tmp 39) 0 rfl #[(.agg (plC 1 0 1 false).toArray), (.int .i64 0)] rfl (.agg (plC 1 0 1 false).toArray) rfl) ?_
 refine wl rfl (.int .i64 0) _ (run_extZ (.tmp 39) 1 rfl #[(.agg (plC 1 0 1 false).toArray), (.int .i64 0)] rfl (.int .i64 0) rfl) ?_
 refine wl rfl (ptr W3.heap.size) _ (run_allocA (plC 0 0 0 false) zero30 rfl) ?_
 have hb_ := below_alloc W3 (.cells (plC 0 0 0 false).toArray 30)
 have r_ := Row.new W3 30 (plC 0 0 0 false)
 obtain ⟨W4, hW_⟩ : ∃ U_ : World, U_ = W3.alloc (.cells (plC 0 0 0 false).toArray 30) := ⟨_, rfl⟩
 obtain ⟨q4, hq_⟩ : ∃ q, q = W3.heap.size := ⟨_, rfl⟩
 rw [← hW_] at hb_
 rw [← hW_, ← hq_] at r_
 rw [← hW_, ← hq_]
 have HQ : Hid (Row W4 q4 30 (plC 0 0 0 false) ∧ Below W3.heap.size W3 W4 ∧ W3.heap.size ≤ q4) := ⟨r_, hb_, by omega⟩
 clear r_ hb_ hW_ hq_
 simp only [Act.put, aS, aC, aZ]
 refine wlS rfl rfl _ (run_storeA ag30 (.tmp 4) (.tmp 42) rfl q4 30 rfl (plC 1 0 1 false) _ rfl rfl HQ.out.1 rfl (plC_one _ _ _ _)) ?_
 have hb_ := (Ch.setRow (S := (· = q4)) (Ch.refl _ W4) (Or.inl rfl) (plC 1 0 1 false).toArray)
 have r_ := HQ.out.1.setRow (plC 1 0 1 false)
 obtain ⟨W5, hW_⟩ : ∃ U_ : World, U_ = W4.setRow q4 (plC 1 0 1 false).toArray := ⟨_, rfl⟩
 rw [← hW_] at hb_ r_ ⊢
 have hbb := HQ.out.2.1.trans (hb_.below HQ.out.2.1.size fun k hk e => by have := HQ.out.2.2; omega)
 replace HS : Hid (HtW w W5 c3 gp gh gf gm m3 40 [(0, zr 0)] 20 ∧ m3.fuse < 0 ∧ Mine w W5 c3 gh gf gm [(q4, (plC 1 0 1 false))]) := ⟨HS.out.1.bel hbb, HS.out.2.1, HS.out.2.2.add hbb HS.out.1 HQ.out.2.2 r_⟩
 clear hW_ r_ hb_ hbb HQ
 refine wl rfl (.int .i64 0) _ (run_asZ (.tmp 43) rfl (.int .i64 0) rfl) ?_
 simp only [Act.put, aS, aC, aZ]
 refine wpList_nil ?_
 go_upto_region 8 with fail
 refine wp_region_lit ?_
 refine wl rfl (ptr gh) _ (run_mvZ (.tmp 2) rfl (ptr gh) rfl) ?_
 simp only [Act.put, aS, aC, aZ]
 refine wl_make (.const (.int .i64 512)) (.const (.int .i64 512)) 28 5 (.int .u8 0) 1 1 rfl rfl und28 info5z 512 rfl rfl (by decide) (by decide) ?_
 intro W6 r_ z_ b_
 rw [made5] at r_
 obtain ⟨qb, hqb⟩ : ∃ g, g = W5.heap.size := ⟨_, rfl⟩
 rw [← hqb] at r_ z_ ⊢
 have HB : Hid (SliceIn W6 (whole qb 512) (zr 512)) := zr_slice r_ (by decide)
 replace HS : Hid (HtW w W6 c3 gp gh gf gm m3 40 [(0, zr 0)] 20 ∧ m3.fuse < 0 ∧ Mine w W6 c3 gh gf gm [(q4, (plC 1 0 1 false))]) := ⟨HS.out.1.bel b_, HS.out.2.1, HS.out.2.2.bel b_⟩
 clear r_ z_ b_ hqb
 simp only [Act.put, aS, aC, aZ]
 refine wpList_callW eN21 [.tmp 45, .tmp 46] _ rfl rfl [(ptr gh), ((whole qb 512))] rfl ?_
 refine (HS.out.1.appendAt (by decide) HS.out.2.1 _ (zr 512) HB.out (by rw [zr_length]; decide) 1 (by simp only [List.map_cons, List.map_nil, plc_z, zr_length]; unfold Fits Room1 costN; decide)).mono ?_
 rintro e W7 ⟨c7, m7, he_, hs_, hf_, hh_⟩
 have he_ : e = .returned (.tuple #[.agg (plC 1 1 9 false).toArray, .int .i64 0]) := he_.trans (by unfold ret1; rw [zr_length]; rfl)
 subst he_
 refine ⟨_, rfl, ?_⟩
 replace HS : Hid (HtW w W7 c7 gp gh gf gm m7 40 [(0, zr 0), (1, zr 512)] 40 ∧ m7.fuse < 0 ∧ Mine w W7 c7 gh gf gm [(q4, (plC 1 0 1 false))]) := ⟨hh_, hf_, HS.out.2.2.sq hs_⟩
 clear hs_ hf_ hh_ HB
 simp only [Act.put, aS, aC, aZ]
 refine wl rfl (.tuple #[(.agg (plC 1 1 9 false).toArray), (.int .i64 0)]) _ (run_mvZ (.tmp 47) rfl (.tuple #[(.agg (plC 1 1 9 false).toArray), (.int .i64 0)]) rfl) ?_
 refine wl rfl (.agg (plC 1 1 9 false).toArray) _ (run_extZ (.tmp 44) 0 rfl #[(.agg (plC 1 1 9 false).toArray), (.int .i64 0)] rfl (.agg (plC 1 1 9 false).toArray) rfl) ?_
 refine wl rfl (.int .i64 0) _ (run_extZ (.tmp 44) 1 rfl #[(.agg (plC 1 1 9 false).toArray), (.int .i64 0)] rfl (.int .i64 0) rfl) ?_
 refine wl rfl (ptr W7.heap.size) _ (run_allocA (plC 0 0 0 false) zero30 rfl) ?_
 have hb_ := below_alloc W7 (.cells (plC 0 0 0 false).toArray 30)
 have r_ := Row.new W7 30 (plC 0 0 0 false)
 obtain ⟨W8, hW_⟩ : ∃ U_ : World, U_ = W7.alloc (.cells (plC 0 0 0 false).toArray 30) := ⟨_, rfl⟩
 obtain ⟨q6, hq_⟩ : ∃ q, q = W7.heap.size := ⟨_, rfl⟩
 rw [← hW_] at hb_
 rw [← hW_, ← hq_] at r_
 rw [← hW_, ← hq_]
 have HQ : Hid (Row W8 q6 30 (plC 0 0 0 false) ∧ Below W7.heap.size W7 W8 ∧ W7.heap.size ≤ q6) := ⟨r_, hb_, by omega⟩
 clear r_ hb_ hW_ hq_
 simp only [Act.put, aS, aC, aZ]
 refine wlS rfl rfl _ (run_storeA ag30 (.tmp 6) (.tmp 48) rfl q6 30 rfl (plC 1 1 9 false) _ rfl rfl HQ.out.1 rfl (plC_one _ _ _ _)) ?_
 have hb_ := (Ch.setRow (S := (· = q6)) (Ch.refl _ W8) (Or.inl rfl) (plC 1 1 9 false).toArray)
 have r_ := HQ.out.1.setRow (plC 1 1 9 false)
 obtain ⟨W9, hW_⟩ : ∃ U_ : World, U_ = W8.setRow q6 (plC 1 1 9 false).toArray := ⟨_, rfl⟩
 rw [← hW_] at hb_ r_ ⊢
 have hbb := HQ.out.2.1.trans (hb_.below HQ.out.2.1.size fun k hk e => by have := HQ.out.2.2; omega)
 replace HS : Hid (HtW w W9 c7 gp gh gf gm m7 40 [(0, zr 0), (1, zr 512)] 40 ∧ m7.fuse < 0 ∧ Mine w W9 c7 gh gf gm [(q4, (plC 1 0 1 false)), (q6, (plC 1 1 9 false))]) := ⟨HS.out.1.bel hbb, HS.out.2.1, HS.out.2.2.add hbb HS.out.1 HQ.out.2.2 r_⟩
 clear hW_ r_ hb_ hbb HQ
 refine wl rfl (.int .i64 0) _ (run_asZ (.tmp 49) rfl (.int .i64 0) rfl) ?_
 simp only [Act.put, aS, aC, aZ]
 refine wpList_nil ?_
 go_upto_region 9 with fail
 refine wp_region_lit ?_
 refine wl rfl (ptr gh) _ (run_mvZ (.tmp 2) rfl (ptr gh) rfl) ?_
 simp only [Act.put, aS, aC, aZ]
 refine wl_make (.const (.int .i64 320)) (.const (.int .i64 320)) 28 5 (.int .u8 0) 1 1 rfl rfl und28 info5z 320 rfl rfl (by decide) (by decide) ?_
 intro W10 r_ z_ b_
 rw [made5] at r_
 obtain ⟨qb, hqb⟩ : ∃ g, g = W9.heap.size := ⟨_, rfl⟩
 rw [← hqb] at r_ z_ ⊢
 have HB : Hid (SliceIn W10 (whole qb 320) (zr 320)) := zr_slice r_ (by decide)
 replace HS : Hid (HtW w W10 c7 gp gh gf gm m7 40 [(0, zr 0), (1, zr 512)] 40 ∧ m7.fuse < 0 ∧ Mine w W10 c7 gh gf gm [(q4, (plC 1 0 1 false)), (q6, (plC 1 1 9 false))]) := ⟨HS.out.1.bel b_, HS.out.2.1, HS.out.2.2.bel b_⟩
 clear r_ z_ b_ hqb
 simp only [Act.put, aS, aC, aZ]
 refine wpList_callW eN21 [.tmp 51, .tmp 52] _ rfl rfl [(ptr gh), ((whole qb 320))] rfl ?_
 refine (HS.out.1.appendAt (by decide) HS.out.2.1 _ (zr 320) HB.out (by rw [zr_length]; decide) 10 (by simp only [List.map_cons, List.map_nil, plc_z, zr_length]; unfold Fits Room1 costN; decide)).mono ?_
 rintro e W11 ⟨c11, m11, he_, hs_, hf_, hh_⟩
 have he_ : e = .returned (.tuple #[.agg (plC 1 10 6 false).toArray, .int .i64 0]) := he_.trans (by unfold ret1; rw [zr_length]; rfl)
 subst he_
 refine ⟨_, rfl, ?_⟩
 replace HS : Hid (HtW w W11 c11 gp gh gf gm m11 40 [(0, zr 0), (1, zr 512), (10, zr 320)] 60 ∧ m11.fuse < 0 ∧ Mine w W11 c11 gh gf gm [(q4, (plC 1 0 1 false)), (q6, (plC 1 1 9 false))]) := ⟨hh_, hf_, HS.out.2.2.sq hs_⟩
 clear hs_ hf_ hh_ HB
 simp only [Act.put, aS, aC, aZ]
 refine wl rfl (.tuple #[(.agg (plC 1 10 6 false).toArray), (.int .i64 0)]) _ (run_mvZ (.tmp 53) rfl (.tuple #[(.agg (plC 1 10 6 false).toArray), (.int .i64 0)]) rfl) ?_
 refine wl rfl (.agg (plC 1 10 6 false).toArray) _ (run_extZ (.tmp 50) 0 rfl #[(.agg (plC 1 10 6 false).toArray), (.int .i64 0)] rfl (.agg (plC 1 10 6 false).toArray) rfl) ?_
 refine wl rfl (.int .i64 0) _ (run_extZ (.tmp 50) 1 rfl #[(.agg (plC 1 10 6 false).toArray), (.int .i64 0)] rfl (.int .i64 0) rfl) ?_
 refine wl rfl (ptr W11.heap.size) _ (run_allocA (plC 0 0 0 false) zero30 rfl) ?_
 have hb_ := below_alloc W11 (.cells (plC 0 0 0 false).toArray 30)
 have r_ := Row.new W11 30 (plC 0 0 0 false)
 obtain ⟨W12, hW_⟩ : ∃ U_ : World, U_ = W11.alloc (.cells (plC 0 0 0 false).toArray 30) := ⟨_, rfl⟩
 obtain ⟨q8, hq_⟩ : ∃ q, q = W11.heap.size := ⟨_, rfl⟩
 rw [← hW_] at hb_
 rw [← hW_, ← hq_] at r_
 rw [← hW_, ← hq_]
 have HQ : Hid (Row W12 q8 30 (plC 0 0 0 false) ∧ Below W11.heap.size W11 W12 ∧ W11.heap.size ≤ q8) := ⟨r_, hb_, by omega⟩
 clear r_ hb_ hW_ hq_
 simp only [Act.put, aS, aC, aZ]
 refine wlS rfl rfl _ (run_storeA ag30 (.tmp 8) (.tmp 54) rfl q8 30 rfl (plC 1 10 6 false) _ rfl rfl HQ.out.1 rfl (plC_one _ _ _ _)) ?_
 have hb_ := (Ch.setRow (S := (· = q8)) (Ch.refl _ W12) (Or.inl rfl) (plC 1 10 6 false).toArray)
 have r_ := HQ.out.1.setRow (plC 1 10 6 false)
 obtain ⟨W13, hW_⟩ : ∃ U_ : World, U_ = W12.setRow q8 (plC 1 10 6 false).toArray := ⟨_, rfl⟩
 rw [← hW_] at hb_ r_ ⊢
 have hbb := HQ.out.2.1.trans (hb_.below HQ.out.2.1.size fun k hk e => by have := HQ.out.2.2; omega)
 replace HS : Hid (HtW w W13 c11 gp gh gf gm m11 40 [(0, zr 0), (1, zr 512), (10, zr 320)] 60 ∧ m11.fuse < 0 ∧ Mine w W13 c11 gh gf gm [(q4, (plC 1 0 1 false)), (q6, (plC 1 1 9 false)), (q8, (plC 1 10 6 false))]) := ⟨HS.out.1.bel hbb, HS.out.2.1, HS.out.2.2.add hbb HS.out.1 HQ.out.2.2 r_⟩
 clear hW_ r_ hb_ hbb HQ
 refine wl rfl (.int .i64 0) _ (run_asZ (.tmp 55) rfl (.int .i64 0) rfl) ?_
 simp only [Act.put, aS, aC, aZ]
 refine wpList_nil ?_
 go_upto_region 10 with fail
 refine wp_region_lit ?_
 refine wl rfl (ptr gh) _ (run_mvZ (.tmp 2) rfl (ptr gh) rfl) ?_
 simp only [Act.put, aS, aC, aZ]
 refine wpList_callW eN21 [.tmp 57, .const (.slice none 0 0)] _ rfl rfl [(ptr gh), (.slice none 0 0)] rfl ?_
 refine (HS.out.1.appendAt (by decide) HS.out.2.1 _ (zr 0) (Fr.SliceIn.nil W13) (by rw [zr_length]; decide) 16 (by simp only [List.map_cons, List.map_nil, plc_z, zr_length]; unfold Fits Room1 costN; decide)).mono ?_
 rintro e W14 ⟨c14, m14, he_, hs_, hf_, hh_⟩
 have he_ : e = .returned (.tuple #[.agg (plC 1 16 1 false).toArray, .int .i64 0]) := he_.trans (by unfold ret1; rw [zr_length]; rfl)
 subst he_
 refine ⟨_, rfl, ?_⟩
 replace HS : Hid (HtW w W14 c14 gp gh gf gm m14 40 [(0, zr 0), (1, zr 512), (10, zr 320), (16, zr 0)] 80 ∧ m14.fuse < 0 ∧ Mine w W14 c14 gh gf gm [(q4, (plC 1 0 1 false)), (q6, (plC 1 1 9 false)), (q8, (plC 1 10 6 false))]) := ⟨hh_, hf_, HS.out.2.2.sq hs_⟩
 clear hs_ hf_ hh_
 simp only [Act.put, aS, aC, aZ]
 refine wl rfl (.tuple #[(.agg (plC 1 16 1 false).toArray), (.int .i64 0)]) _ (run_mvZ (.tmp 58) rfl (.tuple #[(.agg (plC 1 16 1 false).toArray), (.int .i64 0)]) rfl) ?_
 refine wl rfl (.agg (plC 1 16 1 false).toArray) _ (run_extZ (.tmp 56) 0 rfl #[(.agg (plC 1 16 1 false).toArray), (.int .i64 0)] rfl (.agg (plC 1 16 1 false).toArray) rfl) ?_
 refine wl rfl (.int .i64 0) _ (run_extZ (.tmp 56) 1 rfl #[(.agg (plC 1 16 1 false).toArray), (.int .i64 0)] rfl (.int .i64 0) rfl) ?_
 refine wl rfl (ptr W14.heap.size) _ (run_allocA (plC 0 0 0 false) zero30 rfl) ?_
 have hb_ := below_alloc W14 (.cells (plC 0 0 0 false).toArray 30)
 have r_ := Row.new W14 30 (plC 0 0 0 false)
 obtain ⟨W15, hW_⟩ : ∃ U_ : World, U_ = W14.alloc (.cells (plC 0 0 0 false).toArray 30) := ⟨_, rfl⟩
 obtain ⟨q10, hq_⟩ : ∃ q, q = W14.heap.size := ⟨_, rfl⟩
 rw [← hW_] at hb_
 rw [← hW_, ← hq_] at r_
 rw [← hW_, ← hq_]
 have HQ : Hid (Row W15 q10 30 (plC 0 0 0 false) ∧ Below W14.heap.size W14 W15 ∧ W14.heap.size ≤ q10) := ⟨r_, hb_, by omega⟩
 clear r_ hb_ hW_ hq_
 simp only [Act.put, aS, aC, aZ]
 refine wlS rfl rfl _ (run_storeA ag30 (.tmp 10) (.tmp 59) rfl q10 30 rfl (plC 1 16 1 false) _ rfl rfl HQ.out.1 rfl (plC_one _ _ _ _)) ?_
 have hb_ := (Ch.setRow (S := (· = q10)) (Ch.refl _ W15) (Or.inl rfl) (plC 1 16 1 false).toArray)
 have r_ := HQ.out.1.setRow (plC 1 16 1 false)
 obtain ⟨W16, hW_⟩ : ∃ U_ : World, U_ = W15.setRow q10 (plC 1 16 1 false).toArray := ⟨_, rfl⟩
 rw [← hW_] at hb_ r_ ⊢
 have hbb := HQ.out.2.1.trans (hb_.below HQ.out.2.1.size fun k hk e => by have := HQ.out.2.2; omega)
 replace HS : Hid (HtW w W16 c14 gp gh gf gm m14 40 [(0, zr 0), (1, zr 512), (10, zr 320), (16, zr 0)] 80 ∧ m14.fuse < 0 ∧ Mine w W16 c14 gh gf gm [(q4, (plC 1 0 1 false)), (q6, (plC 1 1 9 false)), (q8, (plC 1 10 6 false)), (q10, (plC 1 16 1 false))]) := ⟨HS.out.1.bel hbb, HS.out.2.1, HS.out.2.2.add hbb HS.out.1 HQ.out.2.2 r_⟩
 clear hW_ r_ hb_ hbb HQ
 refine wl rfl (.int .i64 0) _ (run_asZ (.tmp 60) rfl (.int .i64 0) rfl) ?_
 simp only [Act.put, aS, aC, aZ]
 refine wpList_nil ?_
 go_upto_region 11 with fail
 refine wp_region_lit ?_
 refine wl rfl (ptr gh) _ (run_mvZ (.tmp 2) rfl (ptr gh) rfl) ?_
 refine wl rfl (.agg ((plC 1 1 9 false)).toArray) _ (run_loadA ag30 (.tmp 6) rfl q6 (0) rfl ((plC 1 1 9 false)) rfl (rows_one (HS.out.2.2.at 1 rfl))) ?_
 simp only [Act.put, aS, aC, aZ]
 refine wpList_callW eN26 [.tmp 61, .tmp 62] _ rfl rfl [(ptr gh), (.agg (plC 1 1 9 false).toArray)] rfl ?_
 have HF := HS.out.1.free 1 (by decide) false
 rw [show costN (([(0, zr 0), (1, zr 512), (10, zr 320), (16, zr 0)] : List (Nat × List Nat)).getD 1 default).2.length = 9 from (by show costN (zr 512).length = 9; rw [zr_length]; rfl)] at HF
 refine HF.mono ?_
 rintro e W17 ⟨rfl, hc_, hh_⟩
 refine ⟨_, rfl, ?_⟩
 replace HS : Hid (HtW w W17 c14 gp gh gf gm m14 40 [(0, zr 0), (10, zr 320), (16, zr 0)] 80 ∧ m14.fuse < 0 ∧ Mine w W17 c14 gh gf gm [(q4, (plC 1 0 1 false)), (q6, (plC 1 1 9 false)), (q8, (plC 1 10 6 false)), (q10, (plC 1 16 1 false))]) := ⟨hh_, HS.out.2.1, HS.out.2.2.sq (Sq.one c14 hc_)⟩
 clear hc_ hh_ HF
 simp only [Act.put, aS, aC, aZ]
 refine wl rfl (.int .i64 0) _ (run_asZ (.tmp 63) rfl (.int .i64 0) rfl) ?_
 simp only [Act.put, aS, aC, aZ]
 refine wpList_nil ?_
 go_upto_region 12 with fail
 refine wp_region_lit ?_
 refine wl rfl (ptr gh) _ (run_mvZ (.tmp 2) rfl (ptr gh) rfl) ?_
 simp only [Act.put, aS, aC, aZ]
 refine wl_make (.const (.int .i64 64)) (.const (.int .i64 64)) 28 5 (.int .u8 0) 1 1 rfl rfl und28 info5z 64 rfl rfl (by decide) (by decide) ?_
 intro W18 r_ z_ b_
 rw [made5] at r_
 obtain ⟨qb, hqb⟩ : ∃ g, g = W17.heap.size := ⟨_, rfl⟩
 rw [← hqb] at r_ z_ ⊢
 have HB : Hid (SliceIn W18 (whole qb 64) (zr 64)) := zr_slice r_ (by decide)
 replace HS : Hid (HtW w W18 c14 gp gh gf gm m14 40 [(0, zr 0), (10, zr 320), (16, zr 0)] 80 ∧ m14.fuse < 0 ∧ Mine w W18 c14 gh gf gm [(q4, (plC 1 0 1 false)), (q6, (plC 1 1 9 false)), (q8, (plC 1 10 6 false)), (q10, (plC 1 16 1 false))]) := ⟨HS.out.1.bel b_, HS.out.2.1, HS.out.2.2.bel b_⟩
 clear r_ z_ b_ hqb
 simp only [Act.put, aS, aC, aZ]
 refine wpList_callW eN21 [.tmp 65, .tmp 66] _ rfl rfl [(ptr gh), ((whole qb 64))] rfl ?_
 refine (HS.out.1.appendAt (by decide) HS.out.2.1 _ (zr 64) HB.out (by rw [zr_length]; decide) 1 (by simp only [List.map_cons, List.map_nil, plc_z, zr_length]; unfold Fits Room1 costN; decide)).mono ?_
 rintro e W19 ⟨c19, m19, he_, hs_, hf_, hh_⟩
 have he_ : e = .returned (.tuple #[.agg (plC 1 1 2 false).toArray, .int .i64 0]) := he_.trans (by unfold ret1; rw [zr_length]; rfl)
 subst he_
 refine ⟨_, rfl, ?_⟩
 replace HS : Hid (HtW w W19 c19 gp gh gf gm m19 40 [(0, zr 0), (10, zr 320), (16, zr 0), (1, zr 64)] 100 ∧ m19.fuse < 0 ∧ Mine w W19 c19 gh gf gm [(q4, (plC 1 0 1 false)), (q6, (plC 1 1 9 false)), (q8, (plC 1 10 6 false)), (q10, (plC 1 16 1 false))]) := ⟨hh_, hf_, HS.out.2.2.sq hs_⟩
 clear hs_ hf_ hh_ HB
 simp only [Act.put, aS, aC, aZ]
 refine wl rfl (.tuple #[(.agg (plC 1 1 2 false).toArray), (.int .i64 0)]) _ (run_mvZ (.tmp 67) rfl (.tuple #[(.agg (plC 1 1 2 false).toArray), (.int .i64 0)]) rfl) ?_
 refine wl rfl (.agg (plC 1 1 2 false).toArray) _ (run_extZ (.tmp 64) 0 rfl #[(.agg (plC 1 1 2 false).toArray), (.int .i64 0)] rfl (.agg (plC 1 1 2 false).toArray) rfl) ?_
 refine wl rfl (.int .i64 0) _ (run_extZ (.tmp 64) 1 rfl #[(.agg (plC 1 1 2 false).toArray), (.int .i64 0)] rfl (.int .i64 0) rfl) ?_
 refine wl rfl (ptr W19.heap.size) _ (run_allocA (plC 0 0 0 false) zero30 rfl) ?_
 have hb_ := below_alloc W19 (.cells (plC 0 0 0 false).toArray 30)
 have r_ := Row.new W19 30 (plC 0 0 0 false)
 obtain ⟨W20, hW_⟩ : ∃ U_ : World, U_ = W19.alloc (.cells (plC 0 0 0 false).toArray 30) := ⟨_, rfl⟩
 obtain ⟨q13, hq_⟩ : ∃ q, q = W19.heap.size := ⟨_, rfl⟩
 rw [← hW_] at hb_
 rw [← hW_, ← hq_] at r_
 rw [← hW_, ← hq_]
 have HQ : Hid (Row W20 q13 30 (plC 0 0 0 false) ∧ Below W19.heap.size W19 W20 ∧ W19.heap.size ≤ q13) := ⟨r_, hb_, by omega⟩
 clear r_ hb_ hW_ hq_
 simp only [Act.put, aS, aC, aZ]
 refine wlS rfl rfl _ (run_storeA ag30 (.tmp 13) (.tmp 68) rfl q13 30 rfl (plC 1 1 2 false) _ rfl rfl HQ.out.1 rfl (plC_one _ _ _ _)) ?_
 have hb_ := (Ch.setRow (S := (· = q13)) (Ch.refl _ W20) (Or.inl rfl) (plC 1 1 2 false).toArray)
 have r_ := HQ.out.1.setRow (plC 1 1 2 false)
 obtain ⟨W21, hW_⟩ : ∃ U_ : World, U_ = W20.setRow q13 (plC 1 1 2 false).toArray := ⟨_, rfl⟩
 rw [← hW_] at hb_ r_ ⊢
 have hbb := HQ.out.2.1.trans (hb_.below HQ.out.2.1.size fun k hk e => by have := HQ.out.2.2; omega)
 replace HS : Hid (HtW w W21 c19 gp gh gf gm m19 40 [(0, zr 0), (10, zr 320), (16, zr 0), (1, zr 64)] 100 ∧ m19.fuse < 0 ∧ Mine w W21 c19 gh gf gm [(q4, (plC 1 0 1 false)), (q6, (plC 1 1 9 false)), (q8, (plC 1 10 6 false)), (q10, (plC 1 16 1 false)), (q13, (plC 1 1 2 false))]) := ⟨HS.out.1.bel hbb, HS.out.2.1, HS.out.2.2.add hbb HS.out.1 HQ.out.2.2 r_⟩
 clear hW_ r_ hb_ hbb HQ
 refine wl rfl (.int .i64 0) _ (run_asZ (.tmp 69) rfl (.int .i64 0) rfl) ?_
 simp only [Act.put, aS, aC, aZ]
 refine wpList_nil ?_
 go_upto_region 13 with fail
 refine wp_region_lit ?_
 refine wl rfl (ptr gh) _ (run_mvZ (.tmp 2) rfl (ptr gh) rfl) ?_
 simp only [Act.put, aS, aC, aZ]
 refine wl_make (.const (.int .i64 512)) (.const (.int .i64 512)) 28 5 (.int .u8 0) 1 1 rfl rfl und28 info5z 512 rfl rfl (by decide) (by decide) ?_
 intro W22 r_ z_ b_
 rw [made5] at r_
 obtain ⟨qb, hqb⟩ : ∃ g, g = W21.heap.size := ⟨_, rfl⟩
 rw [← hqb] at r_ z_ ⊢
 have HB : Hid (SliceIn W22 (whole qb 512) (zr 512)) := zr_slice r_ (by decide)
 replace HS : Hid (HtW w W22 c19 gp gh gf gm m19 40 [(0, zr 0), (10, zr 320), (16, zr 0), (1, zr 64)] 100 ∧ m19.fuse < 0 ∧ Mine w W22 c19 gh gf gm [(q4, (plC 1 0 1 false)), (q6, (plC 1 1 9 false)), (q8, (plC 1 10 6 false)), (q10, (plC 1 16 1 false)), (q13, (plC 1 1 2 false))]) := ⟨HS.out.1.bel b_, HS.out.2.1, HS.out.2.2.bel b_⟩
 clear r_ z_ b_ hqb
 simp only [Act.put, aS, aC, aZ]
 refine wpList_callW eN21 [.tmp 71, .tmp 72] _ rfl rfl [(ptr gh), ((whole qb 512))] rfl ?_
 refine (HS.out.1.appendAt (by decide) HS.out.2.1 _ (zr 512) HB.out (by rw [zr_length]; decide) 17 (by simp only [List.map_cons, List.map_nil, plc_z, zr_length]; unfold Fits Room1 costN; decide)).mono ?_
 rintro e W23 ⟨c23, m23, he_, hs_, hf_, hh_⟩
 have he_ : e = .returned (.tuple #[.agg (plC 1 17 9 false).toArray, .int .i64 0]) := he_.trans (by unfold ret1; rw [zr_length]; rfl)
 subst he_
 refine ⟨_, rfl, ?_⟩
 replace HS : Hid (HtW w W23 c23 gp gh gf gm m23 40 [(0, zr 0), (10, zr 320), (16, zr 0), (1, zr 64), (17, zr 512)] 120 ∧ m23.fuse < 0 ∧ Mine w W23 c23 gh gf gm [(q4, (plC 1 0 1 false)), (q6, (plC 1 1 9 false)), (q8, (plC 1 10 6 false)), (q10, (plC 1 16 1 false)), (q13, (plC 1 1 2 false))]) := ⟨hh_, hf_, HS.out.2.2.sq hs_⟩
 clear hs_ hf_ hh_ HB
 simp only [Act.put, aS, aC, aZ]
 refine wl rfl (.tuple #[(.agg (plC 1 17 9 false).toArray), (.int .i64 0)]) _ (run_mvZ (.tmp 73) rfl (.tuple #[(.agg (plC 1 17 9 false).toArray), (.int .i64 0)]) rfl) ?_
 refine wl rfl (.agg (plC 1 17 9 false).toArray) _ (run_extZ (.tmp 70) 0 rfl #[(.agg (plC 1 17 9 false).toArray), (.int .i64 0)] rfl (.agg (plC 1 17 9 false).toArray) rfl) ?_
 refine wl rfl (.int .i64 0) _ (run_extZ (.tmp 70) 1 rfl #[(.agg (plC 1 17 9 false).toArray), (.int .i64 0)] rfl (.int .i64 0) rfl) ?_
 refine wl rfl (ptr W23.heap.size) _ (run_allocA (plC 0 0 0 false) zero30 rfl) ?_
 have hb_ := below_alloc W23 (.cells (plC 0 0 0 false).toArray 30)
 have r_ := Row.new W23 30 (plC 0 0 0 false)
 obtain ⟨W24, hW_⟩ : ∃ U_ : World, U_ = W23.alloc (.cells (plC 0 0 0 false).toArray 30) := ⟨_, rfl⟩
 obtain ⟨q15, hq_⟩ : ∃ q, q = W23.heap.size := ⟨_, rfl⟩
 rw [← hW_] at hb_
 rw [← hW_, ← hq_] at r_
 rw [← hW_, ← hq_]
 have HQ : Hid (Row W24 q15 30 (plC 0 0 0 false) ∧ Below W23.heap.size W23 W24 ∧ W23.heap.size ≤ q15) := ⟨r_, hb_, by omega⟩
 clear r_ hb_ hW_ hq_
 simp only [Act.put, aS, aC, aZ]
 refine wlS rfl rfl _ (run_storeA ag30 (.tmp 15) (.tmp 74) rfl q15 30 rfl (plC 1 17 9 false) _ rfl rfl HQ.out.1 rfl (plC_one _ _ _ _)) ?_
 have hb_ := (Ch.setRow (S := (· = q15)) (Ch.refl _ W24) (Or.inl rfl) (plC 1 17 9 false).toArray)
 have r_ := HQ.out.1.setRow (plC 1 17 9 false)
 obtain ⟨W25, hW_⟩ : ∃ U_ : World, U_ = W24.setRow q15 (plC 1 17 9 false).toArray := ⟨_, rfl⟩
 rw [← hW_] at hb_ r_ ⊢
 have hbb := HQ.out.2.1.trans (hb_.below HQ.out.2.1.size fun k hk e => by have := HQ.out.2.2; omega)
 replace HS : Hid (HtW w W25 c23 gp gh gf gm m23 40 [(0, zr 0), (10, zr 320), (16, zr 0), (1, zr 64), (17, zr 512)] 120 ∧ m23.fuse < 0 ∧ Mine w W25 c23 gh gf gm [(q4, (plC 1 0 1 false)), (q6, (plC 1 1 9 false)), (q8, (plC 1 10 6 false)), (q10, (plC 1 16 1 false)), (q13, (plC 1 1 2 false)), (q15, (plC 1 17 9 false))]) := ⟨HS.out.1.bel hbb, HS.out.2.1, HS.out.2.2.add hbb HS.out.1 HQ.out.2.2 r_⟩
 clear hW_ r_ hb_ hbb HQ
 refine wl rfl (.int .i64 0) _ (run_asZ (.tmp 75) rfl (.int .i64 0) rfl) ?_
 simp only [Act.put, aS, aC, aZ]
 refine wpList_nil ?_
 have no9 : ∀ k, k = 512 → ∀ a, ¬ Room1 (40 / 16) (([(0, zr 0), (10, zr 320), (16, zr 0), (1, zr 64), (17, zr 512)] : List (Nat × List Nat)).map plc) a (costN (zr k).length) := (by
  rintro k rfl a ha
  have hk : a < 32 := (by have := ha.1; omega)
  revert ha
  simp only [List.map_cons, List.map_nil, plc_z, zr_length]
  unfold Room1 costN
  revert hk
  revert a
  decide)
 have NO9 : Hid (∀ k, k = 512 → ∀ a, ¬ Room1 (40 / 16) (([(0, zr 0), (10, zr 320), (16, zr 0), (1, zr 64), (17, zr 512)] : List (Nat × List Nat)).map plc) a (costN (zr k).length)) := no9
 clear no9
 go_upto_region 14 with fail
 refine wp_region_lit ?_
 refine wl rfl (ptr gh) _ (run_mvZ (.tmp 2) rfl (ptr gh) rfl) ?_
 simp only [Act.put, aS, aC, aZ]
 refine wl_make (.const (.int .i64 512)) (.const (.int .i64 512)) 28 5 (.int .u8 0) 1 1 rfl rfl und28 info5z 512 rfl rfl (by decide) (by decide) ?_
 intro W26 r_ z_ b_
 rw [made5] at r_
 obtain ⟨qb, hqb⟩ : ∃ g, g = W25.heap.size := ⟨_, rfl⟩
 rw [← hqb] at r_ z_ ⊢
 have HB : Hid (SliceIn W26 (whole qb 512) (zr 512)) := zr_slice r_ (by decide)
 replace HS : Hid (HtW w W26 c23 gp gh gf gm m23 40 [(0, zr 0), (10, zr 320), (16, zr 0), (1, zr 64), (17, zr 512)] 120 ∧ m23.fuse < 0 ∧ Mine w W26 c23 gh gf gm [(q4, (plC 1 0 1 false)), (q6, (plC 1 1 9 false)), (q8, (plC 1 10 6 false)), (q10, (plC 1 16 1 false)), (q13, (plC 1 1 2 false)), (q15, (plC 1 17 9 false))]) := ⟨HS.out.1.bel b_, HS.out.2.1, HS.out.2.2.bel b_⟩
 clear r_ z_ b_ hqb
 simp only [Act.put, aS, aC, aZ]
 refine wpList_callW eN21 [.tmp 77, .tmp 78] _ rfl rfl [(ptr gh), ((whole qb 512))] rfl ?_
 refine (HS.out.1.appendFull (by decide) _ (zr 512) HB.out (by rw [zr_length]; decide) (NO9.out 512 rfl)).mono ?_
 rintro e W27 ⟨c27, he_, hs_, hh_⟩
 have he_ : e = .returned (.tuple #[.agg (plC 0 0 0 false).toArray, .int .i64 3]) := he_
 subst he_
 refine ⟨_, rfl, ?_⟩
 replace HS : Hid (HtW w W27 c27 gp gh gf gm m23 40 [(0, zr 0), (10, zr 320), (16, zr 0), (1, zr 64), (17, zr 512)] 120 ∧ m23.fuse < 0 ∧ Mine w W27 c27 gh gf gm [(q4, (plC 1 0 1 false)), (q6, (plC 1 1 9 false)), (q8, (plC 1 10 6 false)), (q10, (plC 1 16 1 false)), (q13, (plC 1 1 2 false)), (q15, (plC 1 17 9 false))]) := ⟨hh_, HS.out.2.1, HS.out.2.2.sq hs_⟩
 clear hs_ hh_ HB
 simp only [Act.put, aS, aC, aZ]
 refine wl rfl (.tuple #[(.agg (plC 0 0 0 false).toArray), (.int .i64 3)]) _ (run_mvZ (.tmp 79) rfl (.tuple #[(.agg (plC 0 0 0 false).toArray), (.int .i64 3)]) rfl) ?_
 refine wl rfl (.agg (plC 0 0 0 false).toArray) _ (run_extZ (.tmp 76) 0 rfl #[(.agg (plC 0 0 0 false).toArray), (.int .i64 3)] rfl (.agg (plC 0 0 0 false).toArray) rfl) ?_
 refine wl rfl (.int .i64 3) _ (run_extZ (.tmp 76) 1 rfl #[(.agg (plC 0 0 0 false).toArray), (.int .i64 3)] rfl (.int .i64 3) rfl) ?_
 refine wl rfl (ptr W27.heap.size) _ (run_allocA (plC 0 0 0 false) zero30 rfl) ?_
 have hb_ := below_alloc W27 (.cells (plC 0 0 0 false).toArray 30)
 have r_ := Row.new W27 30 (plC 0 0 0 false)
 obtain ⟨W28, hW_⟩ : ∃ U_ : World, U_ = W27.alloc (.cells (plC 0 0 0 false).toArray 30) := ⟨_, rfl⟩
 obtain ⟨q17, hq_⟩ : ∃ q, q = W27.heap.size := ⟨_, rfl⟩
 rw [← hW_] at hb_
 rw [← hW_, ← hq_] at r_
 rw [← hW_, ← hq_]
 have HQ : Hid (Row W28 q17 30 (plC 0 0 0 false) ∧ Below W27.heap.size W27 W28 ∧ W27.heap.size ≤ q17) := ⟨r_, hb_, by omega⟩
 clear r_ hb_ hW_ hq_
 simp only [Act.put, aS, aC, aZ]
 refine wlS rfl rfl _ (run_storeA ag30 (.tmp 17) (.tmp 80) rfl q17 30 rfl (plC 0 0 0 false) _ rfl rfl HQ.out.1 rfl (plC_one _ _ _ _)) ?_
 have hb_ := (Ch.setRow (S := (· = q17)) (Ch.refl _ W28) (Or.inl rfl) (plC 0 0 0 false).toArray)
 have r_ := HQ.out.1.setRow (plC 0 0 0 false)
 obtain ⟨W29, hW_⟩ : ∃ U_ : World, U_ = W28.setRow q17 (plC 0 0 0 false).toArray := ⟨_, rfl⟩
 rw [← hW_] at hb_ r_ ⊢
 have hbb := HQ.out.2.1.trans (hb_.below HQ.out.2.1.size fun k hk e => by have := HQ.out.2.2; omega)
 replace HS : Hid (HtW w W29 c27 gp gh gf gm m23 40 [(0, zr 0), (10, zr 320), (16, zr 0), (1, zr 64), (17, zr 512)] 120 ∧ m23.fuse < 0 ∧ Mine w W29 c27 gh gf gm [(q4, (plC 1 0 1 false)), (q6, (plC 1 1 9 false)), (q8, (plC 1 10 6 false)), (q10, (plC 1 16 1 false)), (q13, (plC 1 1 2 false)), (q15, (plC 1 17 9 false)), (q17, (plC 0 0 0 false))]) := ⟨HS.out.1.bel hbb, HS.out.2.1, HS.out.2.2.add hbb HS.out.1 HQ.out.2.2 r_⟩
 clear hW_ r_ hb_ hbb HQ
 refine wl rfl (.int .i64 3) _ (run_asZ (.tmp 81) rfl (.int .i64 3) rfl) ?_
 simp only [Act.put, aS, aC, aZ]
 refine wpList_nil ?_
 go_upto_region 15 with fail
 refine wp_region_lit ?_
 refine wl rfl (ptr gh) _ (run_mvZ (.tmp 2) rfl (ptr gh) rfl) ?_
 refine wl rfl (.agg ((plC 1 1 9 false)).toArray) _ (run_loadA ag30 (.tmp 6) rfl q6 (0) rfl ((plC 1 1 9 false)) rfl (rows_one (HS.out.2.2.at 1 rfl))) ?_
 simp only [Act.put, aS, aC, aZ]
 refine wpList_callW eN25 [.tmp 83, .tmp 84] _ rfl rfl [(ptr gh), (.agg (plC 1 1 9 false).toArray)] rfl ?_
 refine (HS.out.1.readNo 1 1 9 false ⟨by decide, by decide⟩ (by
  rintro ⟨_, u, hu, h1, h2⟩
  simp only [List.mem_cons, List.not_mem_nil, or_false] at hu
  rcases hu with rfl | rfl | rfl | rfl | rfl
  ·exact absurd h1 (by decide)
  ·exact absurd h1 (by decide)
  ·exact absurd h1 (by decide)
  ·rw [zr_length] at h2
   exact absurd h2 (by decide)
  ·exact absurd h1 (by decide))).mono ?_
 rintro e W30 ⟨rfl, hb_⟩
 refine ⟨_, rfl, ?_⟩
 replace HS : Hid (HtW w W30 c27 gp gh gf gm m23 40 [(0, zr 0), (10, zr 320), (16, zr 0), (1, zr 64), (17, zr 512)] 120 ∧ m23.fuse < 0 ∧ Mine w W30 c27 gh gf gm [(q4, (plC 1 0 1 false)), (q6, (plC 1 1 9 false)), (q8, (plC 1 10 6 false)), (q10, (plC 1 16 1 false)), (q13, (plC 1 1 2 false)), (q15, (plC 1 17 9 false)), (q17, (plC 0 0 0 false))]) := ⟨HS.out.1.bel hb_, HS.out.2.1, HS.out.2.2.bel hb_⟩
 clear hb_
 simp only [Act.put, aS, aC, aZ]
 refine wl rfl (.tuple #[(.slice none 0 0), (.int .i64 31)]) _ (run_mvZ (.tmp 85) rfl (.tuple #[(.slice none 0 0), (.int .i64 31)]) rfl) ?_
 refine wl rfl (.slice none 0 0) _ (run_extZ (.tmp 82) 0 rfl #[(.slice none 0 0), (.int .i64 31)] rfl (.slice none 0 0) rfl) ?_
 refine wl rfl (.int .i64 31) _ (run_extZ (.tmp 82) 1 rfl #[(.slice none 0 0), (.int .i64 31)] rfl (.int .i64 31) rfl) ?_
 refine wl rfl (.slice none 0 0) _ (run_asZ (.tmp 86) rfl (.slice none 0 0) rfl) ?_
 simp only [Act.put, aS, aC, aZ]
 refine wl rfl (.int .i64 31) _ (run_asZ (.tmp 87) rfl (.int .i64 31) rfl) ?_
 simp only [Act.put, aS, aC, aZ]
 refine wpList_nil ?_
 go_upto_region 16 with fail
 refine wp_region_lit ?_
 refine wl rfl (ptr gh) _ (run_mvZ (.tmp 2) rfl (ptr gh) rfl) ?_
 refine wl rfl (.agg ((plC 1 1 2 false)).toArray) _ (run_loadA ag30 (.tmp 13) rfl q13 (0) rfl ((plC 1 1 2 false)) rfl (rows_one (HS.out.2.2.at 4 rfl))) ?_
 simp only [Act.put, aS, aC, aZ]
 refine wpList_callW eN25 [.tmp 89, .tmp 90] _ rfl rfl [(ptr gh), (.agg (plC 1 1 2 false).toArray)] rfl ?_
 have HF := HS.out.1.read (by decide) (u := (1, zr 64)) (by simp) false
 rw [show costN ((1, zr 64) : Nat × List Nat).2.length = 2 from (by show costN (zr 64).length = 2; rw [zr_length]; rfl)] at HF
 refine HF.mono ?_
 rintro e W31 ⟨vy, rfl, hn_, hb_⟩
 refine ⟨_, rfl, ?_⟩
 have HY : Hid (SliceIn W31 vy (zr 64)) := hn_.1
 replace HS : Hid (HtW w W31 c27 gp gh gf gm m23 40 [(0, zr 0), (10, zr 320), (16, zr 0), (1, zr 64), (17, zr 512)] 120 ∧ m23.fuse < 0 ∧ Mine w W31 c27 gh gf gm [(q4, (plC 1 0 1 false)), (q6, (plC 1 1 9 false)), (q8, (plC 1 10 6 false)), (q10, (plC 1 16 1 false)), (q13, (plC 1 1 2 false)), (q15, (plC 1 17 9 false)), (q17, (plC 0 0 0 false))]) := ⟨HS.out.1.bel hb_, HS.out.2.1, HS.out.2.2.bel hb_⟩
 clear hb_ hn_ HF
 simp only [Act.put, aS, aC, aZ]
 refine wl rfl (.tuple #[vy, (.int .i64 0)]) _ (run_mvZ (.tmp 91) rfl (.tuple #[vy, (.int .i64 0)]) rfl) ?_
 refine wl rfl vy _ (run_extZ (.tmp 88) 0 rfl #[vy, (.int .i64 0)] rfl vy rfl) ?_
 refine wl rfl (.int .i64 0) _ (run_extZ (.tmp 88) 1 rfl #[vy, (.int .i64 0)] rfl (.int .i64 0) rfl) ?_
 refine wl rfl vy _ (run_asZ (.tmp 92) rfl vy rfl) ?_
 simp only [Act.put, aS, aC, aZ]
 refine wl rfl (.int .i64 0) _ (run_asZ (.tmp 93) rfl (.int .i64 0) rfl) ?_
 simp only [Act.put, aS, aC, aZ]
 refine wpList_nil ?_
 go_upto_region 17 with fail
 refine wp_region_lit ?_
 refine wl rfl (.int .i64 0) _ (run_mvZ (.tmp 5) rfl (.int .i64 0) rfl) ?_
 refine wl rfl (.bool bf) _ ((by rw [HBF.out]; exact run_neZ (.tmp 94) (.const (.int .i64 0)) rfl 0 0 rfl rfl false rfl)) ?_
 refine wl rfl (.bool bf) _ (run_mvZ (.tmp 95) rfl (.bool bf) rfl) ?_
 refine wl (by rw [HBF.out]; kernel_rfl) (.int .i64 0) _ (run_mvZ (.tmp 7) rfl (.int .i64 0) rfl) ?_
 simp only [Act.put, aS, aC, aZ]
 refine wl (by rw [HBF.out]; kernel_rfl) (.bool bf) _ ((by rw [HBF.out]; exact run_neZ (.tmp 97) (.const (.int .i64 0)) rfl 0 0 rfl rfl false rfl)) ?_
 refine wl rfl (.bool bf) _ (run_pickZ (.tmp 96) (.const (.bool true)) (.tmp 98) rfl bf (.bool bf) rfl (by rw [HBF.out]; rfl)) ?_
 refine wl rfl (.bool bf) _ (run_mvZ (.tmp 99) rfl (.bool bf) rfl) ?_
 refine wl (by rw [HBF.out]; kernel_rfl) (.int .i64 0) _ (run_mvZ (.tmp 9) rfl (.int .i64 0) rfl) ?_
 simp only [Act.put, aS, aC, aZ]
 refine wl (by rw [HBF.out]; kernel_rfl) (.bool bf) _ ((by rw [HBF.out]; exact run_neZ (.tmp 101) (.const (.int .i64 0)) rfl 0 0 rfl rfl false rfl)) ?_
 refine wl rfl (.bool bf) _ (run_pickZ (.tmp 100) (.const (.bool true)) (.tmp 102) rfl bf (.bool bf) rfl (by rw [HBF.out]; rfl)) ?_
 refine wl rfl (.bool bf) _ (run_mvZ (.tmp 103) rfl (.bool bf) rfl) ?_
 refine wl (by rw [HBF.out]; kernel_rfl) (.int .i64 0) _ (run_mvZ (.tmp 11) rfl (.int .i64 0) rfl) ?_
 simp only [Act.put, aS, aC, aZ]
 refine wl (by rw [HBF.out]; kernel_rfl) (.bool bf) _ ((by rw [HBF.out]; exact run_neZ (.tmp 105) (.const (.int .i64 0)) rfl 0 0 rfl rfl false rfl)) ?_
 refine wl rfl (.bool bf) _ (run_pickZ (.tmp 104) (.const (.bool true)) (.tmp 106) rfl bf (.bool bf) rfl (by rw [HBF.out]; rfl)) ?_
 refine wl rfl (.bool bf) _ (run_mvZ (.tmp 107) rfl (.bool bf) rfl) ?_
 refine wl (by rw [HBF.out]; kernel_rfl) (.int .i64 0) _ (run_mvZ (.tmp 12) rfl (.int .i64 0) rfl) ?_
 simp only [Act.put, aS, aC, aZ]
 refine wl (by rw [HBF.out]; kernel_rfl) (.bool bf) _ ((by rw [HBF.out]; exact run_neZ (.tmp 109) (.const (.int .i64 0)) rfl 0 0 rfl rfl false rfl)) ?_
 refine wl rfl (.bool bf) _ (run_pickZ (.tmp 108) (.const (.bool true)) (.tmp 110) rfl bf (.bool bf) rfl (by rw [HBF.out]; rfl)) ?_
 refine wl rfl (.bool bf) _ (run_mvZ (.tmp 111) rfl (.bool bf) rfl) ?_
 refine wl (by rw [HBF.out]; kernel_rfl) (.int .i64 0) _ (run_mvZ (.tmp 14) rfl (.int .i64 0) rfl) ?_
 simp only [Act.put, aS, aC, aZ]
 refine wl (by rw [HBF.out]; kernel_rfl) (.bool bf) _ ((by rw [HBF.out]; exact run_neZ (.tmp 113) (.const (.int .i64 0)) rfl 0 0 rfl rfl false rfl)) ?_
 refine wl rfl (.bool bf) _ (run_pickZ (.tmp 112) (.const (.bool true)) (.tmp 114) rfl bf (.bool bf) rfl (by rw [HBF.out]; rfl)) ?_
 refine wl rfl (.bool bf) _ (run_mvZ (.tmp 115) rfl (.bool bf) rfl) ?_
 refine wl (by rw [HBF.out]; kernel_rfl) (.int .i64 0) _ (run_mvZ (.tmp 16) rfl (.int .i64 0) rfl) ?_
 simp only [Act.put, aS, aC, aZ]
 refine wl (by rw [HBF.out]; kernel_rfl) (.bool bf) _ ((by rw [HBF.out]; exact run_neZ (.tmp 117) (.const (.int .i64 0)) rfl 0 0 rfl rfl false rfl)) ?_
 refine wl rfl (.bool bf) _ (run_pickZ (.tmp 116) (.const (.bool true)) (.tmp 118) rfl bf (.bool bf) rfl (by rw [HBF.out]; rfl)) ?_
 refine wl rfl (.bool bf) _ (run_mvZ (.tmp 119) rfl (.bool bf) rfl) ?_
 refine wl (by rw [HBF.out]; kernel_rfl) (.int .i64 3) _ (run_mvZ (.tmp 18) rfl (.int .i64 3) rfl) ?_
 simp only [Act.put, aS, aC, aZ]
 refine wl (by rw [HBF.out]; kernel_rfl) (.bool bf) _ ((by rw [HBF.out]; exact run_neZ (.tmp 121) (.const (.int .i64 3)) rfl 3 3 rfl rfl false rfl)) ?_
 refine wl rfl (.bool bf) _ (run_pickZ (.tmp 120) (.const (.bool true)) (.tmp 122) rfl bf (.bool bf) rfl (by rw [HBF.out]; rfl)) ?_
 refine wl rfl (.bool bf) _ (run_mvZ (.tmp 123) rfl (.bool bf) rfl) ?_
 refine wl (by rw [HBF.out]; kernel_rfl) (.int .i64 31) _ (run_mvZ (.tmp 20) rfl (.int .i64 31) rfl) ?_
 simp only [Act.put, aS, aC, aZ]
 refine wl (by rw [HBF.out]; kernel_rfl) (.bool bf) _ ((by rw [HBF.out]; exact run_neZ (.tmp 125) (.const (.int .i64 31)) rfl 31 31 rfl rfl false rfl)) ?_
 refine wl rfl (.bool bf) _ (run_pickZ (.tmp 124) (.const (.bool true)) (.tmp 126) rfl bf (.bool bf) rfl (by rw [HBF.out]; rfl)) ?_
 refine wl rfl (.bool bf) _ (run_mvZ (.tmp 127) rfl (.bool bf) rfl) ?_
 refine wl (by rw [HBF.out]; kernel_rfl) (.int .i64 0) _ (run_mvZ (.tmp 22) rfl (.int .i64 0) rfl) ?_
 simp only [Act.put, aS, aC, aZ]
 refine wl (by rw [HBF.out]; kernel_rfl) (.bool bf) _ ((by rw [HBF.out]; exact run_neZ (.tmp 129) (.const (.int .i64 0)) rfl 0 0 rfl rfl false rfl)) ?_
 refine wl rfl (.bool bf) _ (run_pickZ (.tmp 128) (.const (.bool true)) (.tmp 130) rfl bf (.bool bf) rfl (by rw [HBF.out]; rfl)) ?_
 simp only [Act.put, aS, aC, aZ]
 refine wpList_nil ?_
 obtain rfl : bf = false := HBF.out
 go_upto_region 19 with fail
 refine wp_region_lit ?_
 refine wl rfl (ptr gp) _ (run_mvZ (.tmp 1) rfl (ptr gp) rfl) ?_
 refine wl rfl (.agg (plC 1 15 2 false).toArray) _ (run_build30 (.const (.int .i64 1)) (.const (.int .i64 15)) (.const (.int .i64 2)) rfl 1 15 2 rfl rfl rfl) ?_
 refine wl rfl (whole W31.heap.size 1) _ (run_lit43 (.tmp 134) rfl 1 15 2 false rfl) ?_
 have hb_ := below_alloc W31 (.cells (plC 1 15 2 false).toArray 30)
 have r_ := Row.new W31 30 (plC 1 15 2 false)
 obtain ⟨W32, hW_⟩ : ∃ U_ : World, U_ = W31.alloc (.cells (plC 1 15 2 false).toArray 30) := ⟨_, rfl⟩
 obtain ⟨ql, hq_⟩ : ∃ q, q = W31.heap.size := ⟨_, rfl⟩
 rw [← hW_] at hb_
 rw [← hW_, ← hq_] at r_
 rw [← hW_, ← hq_]
 have HL : Hid (PlsIn W32 (whole ql 1) [⟨1, 15, 2, false⟩]) := pls_one (x := ⟨1, 15, 2, false⟩) r_ ⟨⟨by decide, by decide⟩, ⟨by decide, by decide⟩, by decide, by decide⟩
 replace HS : Hid (HtW w W32 c27 gp gh gf gm m23 40 [(0, zr 0), (10, zr 320), (16, zr 0), (1, zr 64), (17, zr 512)] 120 ∧ m23.fuse < 0 ∧ Mine w W32 c27 gh gf gm [(q4, (plC 1 0 1 false)), (q6, (plC 1 1 9 false)), (q8, (plC 1 10 6 false)), (q10, (plC 1 16 1 false)), (q13, (plC 1 1 2 false)), (q15, (plC 1 17 9 false)), (q17, (plC 0 0 0 false))]) := ⟨HS.out.1.bel hb_, HS.out.2.1, HS.out.2.2.bel hb_⟩
 clear r_ hb_ hW_ hq_
 simp only [Act.put, aS, aC, aZ]
 refine wpList_callW eN18 [.tmp 133, .const (.int .i64 1), .tmp 135] _ rfl rfl [(ptr gp), (.int .i64 1), (whole ql 1)] rfl ?_
 refine (openH_any HS.out.1.pl.live HS.out.1.pl.shape (fun x hx => by simp at hx; omega) 1 2 (by simp) rfl _ _ HL.out).mono ?_
 rintro e W33 ⟨hb_, h_⟩
 have he_ : e = .returned (.tuple #[.pointer none, .int .i64 31]) := (by
  rcases h_ with ⟨_, h_⟩ | ⟨_, _, _, _, _, _, h_, _⟩
  ·exact h_
  ·have h2 : opn 1 [⟨1, 15, 2, false⟩] (List.replicate 2 65535) (fun _ => none) 0 = none := (by
    show (if _ then _ else _) = none
    rw [if_neg (by decide)])
   rw [h2] at h_
   cases h_)
 subst he_
 refine ⟨_, rfl, ?_⟩
 replace HS : Hid (HtW w W33 c27 gp gh gf gm m23 40 [(0, zr 0), (10, zr 320), (16, zr 0), (1, zr 64), (17, zr 512)] 120 ∧ m23.fuse < 0 ∧ Mine w W33 c27 gh gf gm [(q4, (plC 1 0 1 false)), (q6, (plC 1 1 9 false)), (q8, (plC 1 10 6 false)), (q10, (plC 1 16 1 false)), (q13, (plC 1 1 2 false)), (q15, (plC 1 17 9 false)), (q17, (plC 0 0 0 false))]) := ⟨HS.out.1.bel hb_, HS.out.2.1, HS.out.2.2.bel hb_⟩
 clear hb_ h_
 simp only [Act.put, aS, aC, aZ]
 refine wl rfl (.tuple #[(.pointer none), (.int .i64 31)]) _ (run_mvZ (.tmp 136) rfl (.tuple #[(.pointer none), (.int .i64 31)]) rfl) ?_
 refine wl rfl (.pointer none) _ (run_extZ (.tmp 132) 0 rfl #[(.pointer none), (.int .i64 31)] rfl (.pointer none) rfl) ?_
 refine wl rfl (.int .i64 31) _ (run_extZ (.tmp 132) 1 rfl #[(.pointer none), (.int .i64 31)] rfl (.int .i64 31) rfl) ?_
 refine wl rfl (.pointer none) _ (run_asZ (.tmp 137) rfl (.pointer none) rfl) ?_
 simp only [Act.put, aS, aC, aZ]
 refine wl rfl (.int .i64 31) _ (run_asZ (.tmp 138) rfl (.int .i64 31) rfl) ?_
 simp only [Act.put, aS, aC, aZ]
 refine wpList_nil ?_
 go_upto_region 20 with fail
 refine wp_region_lit ?_
 refine wl rfl (.agg ((plC 1 0 1 false)).toArray) _ (run_loadA ag30 (.tmp 4) rfl q4 (0) rfl ((plC 1 0 1 false)) rfl (rows_one (HS.out.2.2.at 0 rfl))) ?_
 refine wl rfl (.agg (plC 1 0 1 false).toArray) _ (run_build30 (.const (.int .i64 1)) (.const (.int .i64 0)) (.const (.int .i64 1)) rfl 1 0 1 rfl rfl rfl) ?_
 refine wl rfl (.bool bt) _ ((by rw [HBT.out]; exact run_eqPl (.tmp 139) (.tmp 140) rfl 1 0 1 1 0 1 false false rfl rfl true (by decide))) ?_
 refine wl rfl (.bool bt) _ (run_mvZ (.tmp 141) rfl (.bool bt) rfl) ?_
 simp only [Act.put, aS, aC, aZ]
 refine wl (by rw [HBT.out]; kernel_rfl) (.agg ((plC 1 1 9 false)).toArray) _ (run_loadA ag30 (.tmp 6) rfl q6 (0) rfl ((plC 1 1 9 false)) rfl (rows_one (HS.out.2.2.at 1 rfl))) ?_
 refine wl (by rw [HBT.out]; kernel_rfl) (.agg (plC 1 1 9 false).toArray) _ (run_build30 (.const (.int .i64 1)) (.const (.int .i64 1)) (.const (.int .i64 9)) rfl 1 1 9 rfl rfl rfl) ?_
 refine wl (by rw [HBT.out]; kernel_rfl) (.bool bt) _ ((by rw [HBT.out]; exact run_eqPl (.tmp 143) (.tmp 144) rfl 1 1 9 1 1 9 false false rfl rfl true (by decide))) ?_
 refine wl rfl (.bool bt) _ (run_pickZ (.tmp 142) (.tmp 145) (.const (.bool false)) rfl bt (.bool bt) rfl (by rw [HBT.out]; rfl)) ?_
 simp only [Act.put, aS, aC, aZ]
 refine wl rfl (.bool bt) _ (run_mvZ (.tmp 146) rfl (.bool bt) rfl) ?_
 refine wl (by rw [HBT.out]; kernel_rfl) (.agg ((plC 1 10 6 false)).toArray) _ (run_loadA ag30 (.tmp 8) rfl q8 (0) rfl ((plC 1 10 6 false)) rfl (rows_one (HS.out.2.2.at 2 rfl))) ?_
 refine wl (by rw [HBT.out]; kernel_rfl) (.agg (plC 1 10 6 false).toArray) _ (run_build30 (.const (.int .i64 1)) (.const (.int .i64 10)) (.const (.int .i64 6)) rfl 1 10 6 rfl rfl rfl) ?_
 refine wl (by rw [HBT.out]; kernel_rfl) (.bool bt) _ ((by rw [HBT.out]; exact run_eqPl (.tmp 148) (.tmp 149) rfl 1 10 6 1 10 6 false false rfl rfl true (by decide))) ?_
 simp only [Act.put, aS, aC, aZ]
 refine wl rfl (.bool bt) _ (run_pickZ (.tmp 147) (.tmp 150) (.const (.bool false)) rfl bt (.bool bt) rfl (by rw [HBT.out]; rfl)) ?_
 refine wl rfl (.bool bt) _ (run_mvZ (.tmp 151) rfl (.bool bt) rfl) ?_
 refine wl (by rw [HBT.out]; kernel_rfl) (.agg ((plC 1 16 1 false)).toArray) _ (run_loadA ag30 (.tmp 10) rfl q10 (0) rfl ((plC 1 16 1 false)) rfl (rows_one (HS.out.2.2.at 3 rfl))) ?_
 refine wl (by rw [HBT.out]; kernel_rfl) (.agg (plC 1 16 1 false).toArray) _ (run_build30 (.const (.int .i64 1)) (.const (.int .i64 16)) (.const (.int .i64 1)) rfl 1 16 1 rfl rfl rfl) ?_
 simp only [Act.put, aS, aC, aZ]
 refine wl (by rw [HBT.out]; kernel_rfl) (.bool bt) _ ((by rw [HBT.out]; exact run_eqPl (.tmp 153) (.tmp 154) rfl 1 16 1 1 16 1 false false rfl rfl true (by decide))) ?_
 refine wl rfl (.bool bt) _ (run_pickZ (.tmp 152) (.tmp 155) (.const (.bool false)) rfl bt (.bool bt) rfl (by rw [HBT.out]; rfl)) ?_
 refine wl rfl (.bool bt) _ (run_mvZ (.tmp 156) rfl (.bool bt) rfl) ?_
 refine wl (by rw [HBT.out]; kernel_rfl) (.agg ((plC 1 1 2 false)).toArray) _ (run_loadA ag30 (.tmp 13) rfl q13 (0) rfl ((plC 1 1 2 false)) rfl (rows_one (HS.out.2.2.at 4 rfl))) ?_
 simp only [Act.put, aS, aC, aZ]
 refine wl (by rw [HBT.out]; kernel_rfl) (.agg (plC 1 1 2 false).toArray) _ (run_build30 (.const (.int .i64 1)) (.const (.int .i64 1)) (.const (.int .i64 2)) rfl 1 1 2 rfl rfl rfl) ?_
 refine wl (by rw [HBT.out]; kernel_rfl) (.bool bt) _ ((by rw [HBT.out]; exact run_eqPl (.tmp 158) (.tmp 159) rfl 1 1 2 1 1 2 false false rfl rfl true (by decide))) ?_
 refine wl rfl (.bool bt) _ (run_pickZ (.tmp 157) (.tmp 160) (.const (.bool false)) rfl bt (.bool bt) rfl (by rw [HBT.out]; rfl)) ?_
 refine wl rfl (.bool bt) _ (run_mvZ (.tmp 161) rfl (.bool bt) rfl) ?_
 simp only [Act.put, aS, aC, aZ]
 refine wl (by rw [HBT.out]; kernel_rfl) vy _ (run_mvZ (.tmp 21) rfl vy rfl) ?_
 refine wl (by rw [HBT.out]; kernel_rfl) (.int .i64 ((zr 64).length : Nat)) _ (run_lenS HY.out (.tmp 163) rfl rfl) ?_
 refine wl (by rw [HBT.out]; kernel_rfl) (.bool bt) _ ((by rw [HBT.out]; exact run_eqZ (.tmp 164) (.const (.int .i64 64)) rfl ((zr 64).length : Nat) 64 rfl rfl true (by rw [zr_length]; rfl))) ?_
 refine wl rfl (.bool bt) _ (run_pickZ (.tmp 162) (.tmp 165) (.const (.bool false)) rfl bt (.bool bt) rfl (by rw [HBT.out]; rfl)) ?_
 simp only [Act.put, aS, aC, aZ]
 refine wl rfl (.bool bt) _ (run_mvZ (.tmp 166) rfl (.bool bt) rfl) ?_
 refine wl (by rw [HBT.out]; kernel_rfl) (.pointer none) _ (run_mvZ (.tmp 23) rfl (.pointer none) rfl) ?_
 refine wl (by rw [HBT.out]; kernel_rfl) (.bool bt) _ ((by rw [HBT.out]; exact run_binOp' (.tmp 168) (.const (.pointer none)) rfl _ _ _ rfl rfl rfl (by kernel_rfl))) ?_
 refine wl rfl (.bool bt) _ (run_pickZ (.tmp 167) (.tmp 169) (.const (.bool false)) rfl bt (.bool bt) rfl (by rw [HBT.out]; rfl)) ?_
 simp only [Act.put, aS, aC, aZ]
 refine wl rfl (.bool bt) _ (run_mvZ (.tmp 170) rfl (.bool bt) rfl) ?_
 refine wl (by rw [HBT.out]; kernel_rfl) (.int .i64 31) _ (run_mvZ (.tmp 24) rfl (.int .i64 31) rfl) ?_
 refine wl (by rw [HBT.out]; kernel_rfl) (.bool bt) _ ((by rw [HBT.out]; exact run_eqZ (.tmp 172) (.const (.int .i64 31)) rfl 31 31 rfl rfl true rfl)) ?_
 refine wl rfl (.bool bt) _ (run_pickZ (.tmp 171) (.tmp 173) (.const (.bool false)) rfl bt (.bool bt) rfl (by rw [HBT.out]; rfl)) ?_
 simp only [Act.put, aS, aC, aZ]
 refine wl rfl (.bool bt) _ (run_asZ (.tmp 174) rfl (.bool bt) rfl) ?_
 simp only [Act.put, aS, aZ]
 refine wpList_nil ?_
 obtain rfl : bt = true := HBT.out
 go_wp2_with fail
 rw [HPQ.out]
 exact ⟨rfl, HS.out.1.pl.below⟩

end Go.Proofs.YthgidfoidbgnaaaDoor

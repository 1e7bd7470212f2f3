/- Layer 14: labels, marks; bytes copied. Layer 14: what an Append writes to a place. -/
import Derived.Test.YthgidfoidbgnaaaDoorE28
namespace Go.Proofs.YthgidfoidbgnaaaDoor
open Go.RowKit Go.Maps


/-- bytes copied into a row that is known whole -/
theorem copyS {W : World} {g off dLen dCap T : Nat} {v : Value} {ys : List Nat} {cur : List Value} (hin : SliceIn W v ys) (hr : Row W g T cur) (k : Nat) (hk : k = min ys.length dLen) (hfit : off + k ≤ cur.length) :
  ∃ W', (∀ ty, (Builtin.copy_ #[28, 28] ty #[.slice (some ⟨g, off, none⟩) dLen dCap, v]).run Tryd.prog W = .ok (.int .i64 (k : Nat)) W') ∧ Row W' g T (splice cur off (bcells (ys.take k))) ∧ Ch (· = g) W W' ∧ W'.heap.size = W.heap.size := by
 obtain ⟨p, cap, rfl, hl, hin⟩ := hin
 have hm : Nat.min ys.length dLen = k := hk.symm
 by_cases h0 : k = 0
 ·refine ⟨W, fun ty => ?_, ?_, Ch.refl _ _, rfl⟩
  ·rw [run_copy_none W 28 28 ty 5 _ _ _ _ _ _ Tryd.underlying28 info5 (by rw [hm]; exact h0), h0]
   rfl
  ·rw [h0]
   simpa [splice, bcells] using hr
 ·rcases hin with rfl | ⟨b, so, rfl, hb⟩
  ·exact absurd (by rw [hk]; simp) h0
  have hkl : (ys.take k).length = k := by rw [List.length_take, hk]; omega
  have hbl : (bcells (ys.take k)).length = k := by rw [bcells_length, hkl]
  have e_ : cur.toArray.toList.take off ++ bcells (ys.take k) ++ cur.toArray.toList.drop (off + (bcells (ys.take k)).length) = splice cur off (bcells (ys.take k)) := by
   unfold splice
   rw [List.append_assoc]
  refine ⟨W.setRow g (splice cur off (bcells (ys.take k))).toArray, fun ty => (run_copy_row (P := Tryd.prog) W 28 28 ty 5 g off dLen dCap ⟨b, so, none⟩ ys.length cap cur.toArray T (bcells (ys.take k)) Tryd.underlying28 info5 hr (by rw [hbl]; exact hm.symm) ?_ (by rw [hbl]; simpa using hfit) (bcells_one _)).trans (by rw [e_, hbl]; rfl), hr.setRow _, (Ch.refl (· = g) W).setRow (Or.inl rfl) _, by simp [World.setRow]⟩
  intro j u hv
  have hj : j < (ys.take k).length := by
   have := (List.getElem?_eq_some_iff.1 hv).1
   rwa [bcells_length] at this
  have hj2 : j < ys.length := by rw [hkl] at hj; omega
  have hjk : j < k := by rw [hkl] at hj; exact hj
  rw [bcells_at _ _ hj] at hv
  rw [add_none, hb.1 j hj2, ← hv]
  have eg : (ys.take k).getD j 0 = ys.getD j 0 := by simp [List.getD_eq_getElem?_getD, hjk]
  rw [eg]
theorem run_copyOp {w w' : World} {a : Act} {o : Oper} (d s : Operand) (ho : o.op = .call { callee := .builtin .copy, args := #[d, s], argTypes := #[28, 28] }) (vd vs r : Value) (hd : a.eval d = vd) (hs : a.eval s = vs) (hr : ∀ ty, (Builtin.copy_ #[28, 28] ty #[vd, vs]).run Tryd.prog w = .ok r w') : (execOp a.eval o).run Tryd.prog w = .ok (.value r) w' := by
 simp [execOp, ho, resolve, invoke, builtin, hd, hs, hr, Result.andThen]
theorem run_subB {w : World} {a : Act} {o : Oper} (x : Operand) (lo hi mx : Option Operand) (ho : o.op = .slice 28 x lo hi mx) (v v' : Value) (hx : a.eval x = v) (hr : ∀ w', (Instr.slice 28 v (lo.map a.eval) (hi.map a.eval) (mx.map a.eval)).run Tryd.prog w' = .ok v' w') : (execOp a.eval o).run Tryd.prog w = .ok (.value v') w := by
 simp [execOp, ho, hx, run_sliceAt_slice _ _ _ _ _ _ sl28, hr]
theorem run_lenS {w w0 : World} {a : Act} {o : Oper} {v : Value} {cs : List Nat} (h : SliceIn w0 v cs) (x : Operand) (ho : o.op = .call { callee := .builtin .len, args := #[x], argTypes := #[28] }) (hx : a.eval x = v) : (execOp a.eval o).run Tryd.prog w = .ok (.value (.int .i64 (cs.length : Nat))) w := by
 obtain ⟨p, cap, rfl, _⟩ := h
 exact run_lenZ sl28 x ho p _ _ hx
set_option maxHeartbeats 4000000 in
set_option maxRecDepth 100000 in
theorem label_any (w : World) (d A l t : Nat) (bd : Bool) (hd : d ≤ 9223372036854775807) (ha : A ≤ 9223372036854775807) : Calls Tryd.prog 63 #[.agg (plC (d : Nat) (A : Nat) (l : Nat) bd).toArray, .int .u64 (t : Nat)] w fun e w' => ∃ v, e = .returned v ∧ BOwn w' w.heap.size v (labP d A t) ∧ Below w.heap.size w w' := by
 obtain ⟨PQ, HPQ⟩ := exPQ fun (e : Ending) (w' : World) => ∃ v, e = .returned v ∧ BOwn w' w.heap.size v (labP d A t) ∧ Below w.heap.size w w'
 rw [← HPQ.out]
 go_enter Tryd.func63, Tryd.ntmps63
 go_upto_region 0 with fail
 refine wp_region_lit ?_
 refine wl rfl (ptr w.heap.size) _ (run_boxA (.tmp 0) rfl (plC (d : Nat) (A : Nat) (l : Nat) bd) rfl) ?_
 have hb_ := below_alloc w (.cells (plC (d : Nat) (A : Nat) (l : Nat) bd).toArray 30)
 have r_ := Row.new w 30 (plC (d : Nat) (A : Nat) (l : Nat) bd)
 obtain ⟨w1, hW_⟩ : ∃ W, W = w.alloc (.cells (plC (d : Nat) (A : Nat) (l : Nat) bd).toArray 30) := ⟨_, rfl⟩
 obtain ⟨q, hq_⟩ : ∃ q, q = w.heap.size := ⟨_, rfl⟩
 rw [← hW_] at hb_
 rw [← hW_, ← hq_] at r_
 rw [← hW_, ← hq_]
 have HA : Hid (Row w1 q 30 (plC (d : Nat) (A : Nat) (l : Nat) bd) ∧ Below w.heap.size w w1 ∧ w.heap.size ≤ q) := ⟨r_, hb_, by omega⟩
 clear r_ hb_ hW_ hq_
 simp only [Act.put, aS, aC, aZ]
 refine wl rfl (.slice none 0 0) _ (run_asZ (.const (.slice none 0 0)) rfl (.slice none 0 0) rfl) ?_
 simp only [Act.put, aS, aC, aZ]
 refine wpList_nil ?_
 go_upto_region 1 with fail
 refine wp_region_lit ?_
 refine wl rfl (.int .u64 (t : Nat)) _ (run_mvZ (.tmp 1) rfl (.int .u64 (t : Nat)) rfl) ?_
 simp only [Act.put, aS, aC, aZ]
 refine wpList_callW eN76 [.const (.slice none 0 0), .tmp 6, .const (.int .i64 4)] _ rfl rfl [.slice none 0 0, (.int .u64 (t : Nat)), .int .i64 4] rfl ?_
 refine (Fr.number_yes _ [] t 4 w1 (Fr.SliceIn.nil w1) (by decide) (by decide) (by simp)).mono ?_
 rintro e w2 ⟨v1, rfl, o1, b1⟩
 refine ⟨_, rfl, ?_⟩
 have H1 : Hid (BOwn w2 w1.heap.size v1 ([] ++ Fr.Frame.be 4 t) ∧ Below w1.heap.size w1 w2 ∧ Row w2 q 30 (plC (d : Nat) (A : Nat) (l : Nat) bd)) := ⟨o1, b1, HA.out.1.later b1 HA.out.1.lt⟩
 clear o1 b1
 simp only [Act.put, aS, aC, aZ]
 refine wl rfl v1 _ (run_asZ (.tmp 7) rfl v1 rfl) ?_
 simp only [Act.put, aS, aC, aZ]
 refine wpList_nil ?_
 go_upto_region 2 with fail
 refine wp_region_lit ?_
 refine wl rfl v1 _ (run_mvZ (.tmp 5) rfl v1 rfl) ?_
 refine wl rfl (.pointer (some ⟨q, 0 + 0, none⟩)) _ (run_fieldOp' f30_0 (.tmp 2) rfl q (0) rfl) ?_
 refine wl rfl (.int .i64 (d : Nat)) _ (run_load1 o3 (.tmp 9) rfl q (0 + 0) rfl (.int .i64 (d : Nat)) (H1.out.2.2.at 0 _ rfl)) ?_
 refine wl rfl (.int .u64 (d : Nat)) _ (run_i64u64 (.tmp 10) rfl d hd rfl) ?_
 simp only [Act.put, aS, aC, aZ]
 refine wpList_callW eN76 [.tmp 8, .tmp 11, .const (.int .i64 1)] _ rfl rfl [v1, (.int .u64 (d : Nat)), .int .i64 1] rfl ?_
 refine (Fr.number_yes v1 ([] ++ Fr.Frame.be 4 t) d 1 w2 (H1.out.1.slice (fun c hc => Fr.Frame.be_lt 4 t c (by simpa using hc)) (by simp [Fr.Frame.be_length])) (by decide) (by decide) (by simp [Fr.Frame.be_length])).mono ?_
 rintro e w3 ⟨v2, rfl, o1, b1⟩
 refine ⟨_, rfl, ?_⟩
 have H2 : Hid (BOwn w3 w2.heap.size v2 ([] ++ Fr.Frame.be 4 t ++ Fr.Frame.be 1 d) ∧ Below w2.heap.size w2 w3 ∧ Row w3 q 30 (plC (d : Nat) (A : Nat) (l : Nat) bd)) := ⟨o1, b1, H1.out.2.2.later b1 H1.out.2.2.lt⟩
 clear o1 b1
 simp only [Act.put, aS, aC, aZ]
 refine wl rfl v2 _ (run_asZ (.tmp 12) rfl v2 rfl) ?_
 simp only [Act.put, aS, aC, aZ]
 refine wpList_nil ?_
 go_upto_region 3 with fail
 refine wp_region_lit ?_
 refine wl rfl v2 _ (run_mvZ (.tmp 5) rfl v2 rfl) ?_
 refine wl rfl (.pointer (some ⟨q, 0 + 1, none⟩)) _ (run_fieldOp' f30_1 (.tmp 2) rfl q (0) rfl) ?_
 refine wl rfl (.int .i64 (A : Nat)) _ (run_load1 o3 (.tmp 14) rfl q (0 + 1) rfl (.int .i64 (A : Nat)) (H2.out.2.2.at 1 _ rfl)) ?_
 refine wl rfl (.int .u64 (A : Nat)) _ (run_i64u64 (.tmp 15) rfl A ha rfl) ?_
 simp only [Act.put, aS, aC, aZ]
 refine wpList_callW eN76 [.tmp 13, .tmp 16, .const (.int .i64 2)] _ rfl rfl [v2, (.int .u64 (A : Nat)), .int .i64 2] rfl ?_
 refine (Fr.number_yes v2 ([] ++ Fr.Frame.be 4 t ++ Fr.Frame.be 1 d) A 2 w3 (H2.out.1.slice (fun c hc => (by rcases List.mem_append.1 hc with hc | hc; exact Fr.Frame.be_lt 4 t c (by simpa using hc); exact Fr.Frame.be_lt 1 d c hc)) (by simp [Fr.Frame.be_length])) (by decide) (by decide) (by simp [Fr.Frame.be_length])).mono ?_
 rintro e w4 ⟨v3, rfl, o1, b1⟩
 refine ⟨_, rfl, ?_⟩
 have H3 : Hid (BOwn w4 w3.heap.size v3 ([] ++ Fr.Frame.be 4 t ++ Fr.Frame.be 1 d ++ Fr.Frame.be 2 A) ∧ Below w3.heap.size w3 w4) := ⟨o1, b1⟩
 clear o1 b1
 simp only [Act.put, aS, aC, aZ]
 refine wl rfl v3 _ (run_asZ (.tmp 17) rfl v3 rfl) ?_
 simp only [Act.put, aS, aC, aZ]
 refine wpList_nil ?_
 go_wp2_with fail
 rw [HPQ.out]
 have z1 := HA.out.2.1.size
 have z2 := H1.out.2.1.size
 have z3 := H2.out.2.1.size
 have e_ : [] ++ Fr.Frame.be 4 t ++ Fr.Frame.be 1 d ++ Fr.Frame.be 2 A = labP d A t := (by unfold labP; simp [List.append_assoc])
 exact ⟨v3, rfl, e_ ▸ (Fr.BOwn.weaken H3.out.1 (by omega)), HA.out.2.1.trans ((H1.out.2.1.mono z1).trans ((H2.out.2.1.mono (by omega)).trans (H3.out.2.mono (by omega))))⟩
set_option maxHeartbeats 4000000 in
set_option maxRecDepth 100000 in
theorem mark_any (w : World) (t i : Nat) (hi : i ≤ 9223372036854775807) : Calls Tryd.prog 64 #[.int .u64 (t : Nat), .int .i64 (i : Nat)] w fun e w' => ∃ v, e = .returned v ∧ BOwn w' w.heap.size v (mrkP t i) ∧ Below w.heap.size w w' := by
 obtain ⟨PQ, HPQ⟩ := exPQ fun (e : Ending) (w' : World) => ∃ v, e = .returned v ∧ BOwn w' w.heap.size v (mrkP t i) ∧ Below w.heap.size w w'
 rw [← HPQ.out]
 go_enter Tryd.func64, Tryd.ntmps64
 go_upto_region 0 with fail
 refine wp_region_lit ?_
 refine wl rfl (.slice none 0 0) _ (run_asZ (.const (.slice none 0 0)) rfl (.slice none 0 0) rfl) ?_
 simp only [Act.put, aS, aC, aZ]
 refine wpList_nil ?_
 go_upto_region 1 with fail
 refine wp_region_lit ?_
 refine wl rfl (.int .u64 (t : Nat)) _ (run_mvZ (.tmp 0) rfl (.int .u64 (t : Nat)) rfl) ?_
 simp only [Act.put, aS, aC, aZ]
 refine wpList_callW eN76 [.const (.slice none 0 0), .tmp 5, .const (.int .i64 4)] _ rfl rfl [.slice none 0 0, (.int .u64 (t : Nat)), .int .i64 4] rfl ?_
 refine (Fr.number_yes _ [] t 4 w (Fr.SliceIn.nil w) (by decide) (by decide) (by simp)).mono ?_
 rintro e w2 ⟨v1, rfl, o1, b1⟩
 refine ⟨_, rfl, ?_⟩
 have H1 : Hid (BOwn w2 w.heap.size v1 ([] ++ Fr.Frame.be 4 t) ∧ Below w.heap.size w w2) := ⟨o1, b1⟩
 clear o1 b1
 simp only [Act.put, aS, aC, aZ]
 refine wl rfl (.int .i64 (i : Nat)) _ (run_mvZ (.tmp 1) rfl (.int .i64 (i : Nat)) rfl) ?_
 refine wl rfl (.int .u64 (i : Nat)) _ (run_i64u64 (.tmp 7) rfl i hi rfl) ?_
 simp only [Act.put, aS, aC, aZ]
 refine wpList_callW eN76 [.tmp 6, .tmp 8, .const (.int .i64 1)] _ rfl rfl [v1, (.int .u64 (i : Nat)), .int .i64 1] rfl ?_
 refine (Fr.number_yes v1 ([] ++ Fr.Frame.be 4 t) i 1 w2 (H1.out.1.slice (fun c hc => Fr.Frame.be_lt 4 t c (by simpa using hc)) (by simp [Fr.Frame.be_length])) (by decide) (by decide) (by simp [Fr.Frame.be_length])).mono ?_
 rintro e w3 ⟨v2, rfl, o1, b1⟩
 refine ⟨_, rfl, ?_⟩
 have H2 : Hid (BOwn w3 w2.heap.size v2 ([] ++ Fr.Frame.be 4 t ++ Fr.Frame.be 1 i) ∧ Below w2.heap.size w2 w3) := ⟨o1, b1⟩
 clear o1 b1
 simp only [Act.put, aS, aC, aZ]
 refine wl rfl v2 _ (run_asZ (.tmp 9) rfl v2 rfl) ?_
 simp only [Act.put, aS, aC, aZ]
 refine wpList_nil ?_
 go_wp2_with fail
 rw [HPQ.out]
 have z1 := H1.out.2.size
 have e_ : [] ++ Fr.Frame.be 4 t ++ Fr.Frame.be 1 i = mrkP t i := (by unfold mrkP; simp)
 exact ⟨v2, rfl, e_ ▸ (Fr.BOwn.weaken H2.out.1 (by omega)), H1.out.2.trans (H2.out.2.mono z1)⟩

end Go.Proofs.YthgidfoidbgnaaaDoor

namespace Go.Proofs.YthgidfoidbgnaaaDoor
open Go.RowKit Go.Maps


theorem splice_mid {α : Type} (S Z X : List α) (o : Nat) (ho : S.length = o) : splice (S ++ Z) o X = S ++ (X ++ Z.drop X.length) := by
 subst ho
 unfold splice
 simp [List.drop_append]
theorem bcells_splice (L X : List Nat) (o : Nat) : bcells (splice L o X) = splice (bcells L) o (bcells X) := by
 unfold splice bcells
 simp [List.map_take, List.map_drop]
/-- the sectors up to i are laid -/
def imgTo (d a t : Nat) (b : List Nat) (n i : Nat) : List Nat := ((List.range i).map (secI d a t b)).flatten ++ List.replicate (64 * (n - i)) 0
theorem flat64 {L : List (List Nat)} (h : ∀ s ∈ L, s.length = 64) : L.flatten.length = 64 * L.length := by
 induction L with
 | nil => rfl
 | cons x r ih => rw [List.flatten_cons, List.length_append, h x (by simp), ih (fun s hs => h s (by simp [hs])), List.length_cons]; omega
theorem secs_flat (d a t : Nat) (b : List Nat) (i : Nat) : ((List.range i).map (secI d a t b)).flatten.length = 64 * i := by
 rw [flat64 (fun s hs => by obtain ⟨j, _, rfl⟩ := List.mem_map.1 hs; exact secI_length d a t b j)]
 simp
theorem imgTo_length (d a t : Nat) (b : List Nat) (n i : Nat) (h : i ≤ n) : (imgTo d a t b n i).length = 64 * n := by
 unfold imgTo
 rw [List.length_append, secs_flat, List.length_replicate]
 omega
theorem imgTo_zero (d a t : Nat) (b : List Nat) (n : Nat) : imgTo d a t b n 0 = List.replicate (64 * n) 0 := by simp [imgTo]
theorem imgTo_all (d a t : Nat) (b : List Nat) : imgTo d a t b (costN b.length) (costN b.length) = (imgP d a t b).flatten := by simp [imgTo, imgP]
theorem imgTo_step (d a t : Nat) (b : List Nat) (n i k : Nat) (h : i < n) (hk : k = min ((frmP d a t b).drop (59 * i)).length 59) :
  splice (splice (imgTo d a t b n i) (i * 64) (((frmP d a t b).drop (59 * i)).take k)) (i * 64 + 59) (mrkP t i) = imgTo d a t b n (i + 1) := by
 obtain ⟨X, hX⟩ : ∃ X, X = ((frmP d a t b).drop (59 * i)).take 59 := ⟨_, rfl⟩
 have ek : ((frmP d a t b).drop (59 * i)).take k = X := by
  rw [hX, hk]
  rcases Nat.le_total ((frmP d a t b).drop (59 * i)).length 59 with q | q
  ·rw [Nat.min_eq_left q, List.take_of_length_le (Nat.le_refl _), List.take_of_length_le q]
  ·rw [Nat.min_eq_right q]
 have hXl : X.length ≤ 59 := by rw [hX, List.length_take]; omega
 have hs : secI d a t b i = X ++ (List.replicate (59 - X.length) 0 ++ mrkP t i) := by
  unfold secI piece
  rw [← hX, List.append_assoc]
 rw [ek]
 unfold imgTo
 rw [splice_mid _ _ _ _ (by rw [secs_flat]; omega), List.drop_replicate]
 have e2 : List.replicate (64 * (n - i) - X.length) 0 = List.replicate (59 - X.length) 0 ++ List.replicate (64 * (n - i) - 59) (0 : Nat) := by
  rw [List.replicate_append_replicate]
  congr 1
  omega
 rw [e2, ← List.append_assoc X, ← List.append_assoc _ (X ++ _), splice_mid _ _ _ _ (by rw [List.length_append, secs_flat, List.length_append, List.length_replicate]; omega), List.drop_replicate, mrkP_length, List.range_succ, List.map_append, List.flatten_append]
 simp only [List.map_cons, List.map_nil, List.flatten_cons, List.flatten_nil, List.append_nil]
 rw [hs]
 simp only [List.append_assoc]
 congr 5
 omega
theorem drop_rest (fs : List Nat) (i k : Nat) (hk : k = min (fs.drop (59 * i)).length 59) : (fs.drop (59 * i)).drop k = fs.drop (59 * (i + 1)) := by
 rw [List.drop_drop]
 have hl : (fs.drop (59 * i)).length = fs.length - 59 * i := by simp
 rw [hl] at hk
 rcases Nat.lt_or_ge k 59 with q | q
 ·rw [List.drop_of_length_le (by omega), List.drop_of_length_le (by omega)]
 ·congr 1
  omega
def Z64 : Value := .agg (bcells (List.replicate 64 0)).toArray
theorem und96 : Tryd.prog.underlying 96 = some (.slice 73) := by kernel_rfl
theorem sz73 : (Tryd.prog.info? 73).map (·.size) = some 64 := by kernel_rfl
theorem info73 : (Tryd.prog.info? 73).map (fun i => (i.zero, i.size, i.bytes)) = some (some Z64, 64, 64) := by kernel_rfl
theorem Z64_cells : Z64.cells = Array.replicate 64 (.int .u8 0) := by kernel_rfl
theorem made73 (n : Nat) : (madeCells Z64.cells (n * 64)).toList = bcells (List.replicate (64 * n) 0) := by
 rw [Z64_cells]
 apply List.ext_getElem
 ·rw [bcells_length]
  simp [madeCells]
  omega
 ·intro j h1 h2
  have hj : j % 64 < 64 := Nat.mod_lt _ (by decide)
  simp [bcells, madeCells, hj]
theorem ix96 (g n k : Nat) (hk : k < n) (w : World) : (Instr.indexAt 96 (whole g n) (.int .i64 (k : Nat))).run Tryd.prog w = .ok (.pointer (some ⟨g, k * 64, none⟩)) w := ixW und96 sz73 g n k hk w
set_option maxHeartbeats 4000000 in
set_option maxRecDepth 100000 in
theorem imageOf_any (w : World) (d A l t : Nat) (bd : Bool) (vb : Value) (b : List Nat) (hin : SliceIn w vb b) (ht : Fr.TabIn w) (hbl : b.length ≤ 512) (hd : d ≤ 9223372036854775807) (ha : A ≤ 9223372036854775807) : Calls Tryd.prog 43 #[.agg (plC (d : Nat) (A : Nat) (l : Nat) bd).toArray, .int .u64 (t : Nat), vb] w fun e w' => ∃ gi, e = .returned (whole gi (costN b.length)) ∧ w.heap.size ≤ gi ∧ Row w' gi 73 (bcells (imgP d A t b).flatten) ∧ Below w.heap.size w w' := by
 have HIN : Hid (SliceIn w vb b ∧ Fr.TabIn w ∧ (labP d A t ++ b).length = b.length + 7) := ⟨hin, ht, by rw [List.length_append, labP_length]; omega⟩
 have HLT : Hid (∀ c ∈ labP d A t ++ b, c < 256) := labb_lt d A t hin.lt256
 have HC9 := costN_le hbl
 obtain ⟨n, hn⟩ : ∃ n, n = costN b.length := ⟨_, rfl⟩
 rw [← hn] at HC9
 have HCN : Hid (n = costN b.length) := hn
 obtain ⟨fs, hfs⟩ : ∃ fs, fs = frmP d A t b := ⟨_, rfl⟩
 have HFS : Hid (fs = frmP d A t b ∧ fs.length ≤ 1000) := ⟨hfs, by rw [hfs, frmP_length]; omega⟩
 clear hin ht hn hfs
 obtain ⟨PQ, HPQ⟩ := exPQ fun (e : Ending) (w' : World) => ∃ gi, e = .returned (whole gi (costN b.length)) ∧ w.heap.size ≤ gi ∧ Row w' gi 73 (bcells (imgP d A t b).flatten) ∧ Below w.heap.size w w'
 rw [← HPQ.out]
 go_enter Tryd.func43, Tryd.ntmps43
 go_upto_region 0 with fail
 refine wp_region_lit ?_
 refine wl rfl (ptr w.heap.size) _ (run_boxA (.tmp 0) rfl (plC (d : Nat) (A : Nat) (l : Nat) bd) rfl) ?_
 have hb_ := below_alloc w (.cells (plC (d : Nat) (A : Nat) (l : Nat) bd).toArray 30)
 have r_ := Row.new w 30 (plC (d : Nat) (A : Nat) (l : Nat) bd)
 obtain ⟨w1, hW_⟩ : ∃ W, W = w.alloc (.cells (plC (d : Nat) (A : Nat) (l : Nat) bd).toArray 30) := ⟨_, rfl⟩
 obtain ⟨q, hq_⟩ : ∃ q, q = w.heap.size := ⟨_, rfl⟩
 rw [← hW_] at hb_
 rw [← hW_, ← hq_] at r_
 rw [← hW_, ← hq_]
 have HA : Hid (Row w1 q 30 (plC (d : Nat) (A : Nat) (l : Nat) bd) ∧ Below w.heap.size w w1) := ⟨r_, hb_⟩
 clear r_ hb_ hW_ hq_
 simp only [Act.put, aS, aC, aZ]
 refine wl rfl (.slice none 0 0) _ (run_asZ (.const (.slice none 0 0)) rfl (.slice none 0 0) rfl) ?_
 simp only [Act.put, aS, aC, aZ]
 refine wpList_nil ?_
 go_upto_region 1 with fail
 refine wp_region_lit ?_
 refine wl rfl (.agg ((plC (d : Nat) (A : Nat) (l : Nat) bd)).toArray) _ (run_loadA ag30 (.tmp 3) rfl q (0) rfl ((plC (d : Nat) (A : Nat) (l : Nat) bd)) rfl (rows_one HA.out.1)) ?_
 refine wl rfl (.int .u64 (t : Nat)) _ (run_mvZ (.tmp 1) rfl (.int .u64 (t : Nat)) rfl) ?_
 simp only [Act.put, aS, aC, aZ]
 refine wpList_callW eN63 [.tmp 11, .tmp 12] _ rfl rfl [(.agg ((plC (d : Nat) (A : Nat) (l : Nat) bd)).toArray), (.int .u64 (t : Nat))] rfl ?_
 refine (label_any w1 d A l t bd hd ha).mono ?_
 rintro e w2 ⟨v1, rfl, o1, b1⟩
 refine ⟨_, rfl, ?_⟩
 have H1 : Hid (BOwn w2 w1.heap.size v1 (labP d A t) ∧ Below w1.heap.size w1 w2 ∧ Below w.heap.size w w2) := ⟨o1, b1, HA.out.2.trans (b1.mono HA.out.2.size)⟩
 clear o1 b1
 simp only [Act.put, aS, aC, aZ]
 refine wl rfl vb _ (run_mvZ (.tmp 2) rfl vb rfl) ?_
 simp only [Act.put, aS, aC, aZ]
 refine wl_bgrow (.tmp 13) (.tmp 14) rfl rfl w1.heap.size v1 vb (labP d A t) b rfl H1.out.1 rfl (HIN.out.1.later H1.out.2.2) (by have := HIN.out.2.2; rw [List.length_append] at this; omega) H1.out.2.1.size ?_
 intro v2 w3 o_ g_
 have H2 : Hid (BOwn w3 w1.heap.size v2 (labP d A t ++ b) ∧ Below w.heap.size w w3) := ⟨o_, H1.out.2.2.trans ((H1.out.1.belowG g_ H1.out.2.1.size).mono HA.out.2.size)⟩
 clear o_ g_
 simp only [Act.put, aS, aC, aZ]
 refine wpList_callW eN62 [.const (.int .u8 104), .tmp 15] _ rfl rfl [.int .u8 104, v2] rfl ?_
 refine (Fr.pack_any 104 (by decide) v2 (labP d A t ++ b) w3 (H2.out.1.slice HLT.out (by rw [HIN.out.2.2]; omega)) (HIN.out.2.1.later H2.out.2) (by rw [HIN.out.2.2]; omega)).mono ?_
 rintro e w4 ⟨v3, rfl, o1, b1⟩
 refine ⟨_, rfl, ?_⟩
 have H3 : Hid (SliceIn w4 v3 fs ∧ Below w.heap.size w w4) := ⟨(by rw [HFS.out.1]; exact BOwn.slice (base := w3.heap.size) o1 (Fr.Frame.pack_lt _ _ (by decide) HLT.out) (by have := HFS.out.2; rw [HFS.out.1] at this; exact Nat.le_trans this (by decide))), H2.out.2.trans (b1.mono H2.out.2.size)⟩
 clear o1 b1 H2 H1
 simp only [Act.put, aS, aC, aZ]
 refine wl rfl v3 _ (run_asZ (.tmp 16) rfl v3 rfl) ?_
 simp only [Act.put, aS, aC, aZ]
 refine wpList_nil ?_
 go_upto_region 2 with fail
 refine wp_region_lit ?_
 refine wl rfl vb _ (run_mvZ (.tmp 2) rfl vb rfl) ?_
 refine wl rfl (.int .i64 (b.length : Nat)) _ (run_lenS HIN.out.1 (.tmp 17) rfl rfl) ?_
 simp only [Act.put, aS, aC, aZ]
 refine wpList_callW eN41 [.tmp 18] _ rfl rfl [(.int .i64 (b.length : Nat))] rfl ?_
 refine (cost_any w4 b.length (by omega)).mono ?_
 rintro e w_ ⟨he_, rfl⟩
 rw [← HCN.out] at he_
 subst he_
 refine ⟨_, rfl, ?_⟩
 simp only [Act.put, aS, aC, aZ]
 refine wl_make (.tmp 19) (.tmp 19) 96 73 Z64 64 64 rfl rfl und96 info73 n rfl rfl (by omega) (by omega) ?_
 intro w5 r5 z5 b5
 rw [made73] at r5
 obtain ⟨gi, hgi⟩ : ∃ g, g = w4.heap.size := ⟨_, rfl⟩
 rw [← hgi] at r5 z5 ⊢
 have H5 : Hid (Row w5 gi 73 (bcells (imgTo d A t b n 0)) ∧ Below w4.heap.size w4 w5 ∧ w4.heap.size ≤ gi) := ⟨by rw [imgTo_zero]; exact r5, b5, by omega⟩
 clear r5 z5 b5 hgi
 simp only [Act.put, aS, aC, aZ]
 refine wl rfl (whole gi n) _ (run_asZ (.tmp 20) rfl (whole gi n) rfl) ?_
 simp only [Act.put, aS, aC, aZ]
 refine wpList_nil ?_
 go_upto_region 3 with fail
 refine wp_region_lit ?_
 refine wl rfl (whole gi n) _ (run_mvZ (.tmp 8) rfl (whole gi n) rfl) ?_
 refine wl rfl (.int .i64 (n : Nat)) _ (run_lenZ sl96 (.tmp 21) rfl (some ⟨gi, 0, none⟩) n n rfl) ?_
 refine wl rfl (.int .i64 0) _ (run_mvZ (.const (.int .i64 0)) rfl (.int .i64 0) rfl) ?_
 simp only [Act.put, aS, aC, aZ]
 refine wpList_nil ?_
 go_wp2_with fail
 go_loopw [7, 23] (fun vr vi W => ∃ i : Nat, vi = .int .i64 (i : Nat) ∧ i ≤ n ∧ Hid (SliceIn w4 vr (fs.drop (59 * i)) ∧ Row W gi 73 (bcells (imgTo d A t b n i)) ∧ Below w4.heap.size w4 W)) (fun _ vi _ => n - (intOf vi).toNat)
 case atStart => exact ⟨0, rfl, Nat.zero_le _, ⟨by simpa using H3.out.1, H5.out.1, H5.out.2.1⟩⟩
 case round =>
  obtain ⟨i, rfl, hi, HI⟩ := hrel
  by_cases hlt : i < n
  ·go_upto_region 4 with fail
   refine wp_region_lit ?_
   refine wl rfl (.bool true) _ (run_lssZ (.tmp 23) (.tmp 22) rfl (i : Nat) (n : Nat) rfl rfl true (decide_eq_true (by omega))) ?_
   simp only [Act.put, aS, aC, aZ]
   refine wpList_nil ?_
   go_upto_region 5 with fail
   refine wp_region_lit ?_
   refine wl rfl (.int .i64 (i : Nat)) _ (run_mvZ (.tmp 23) rfl (.int .i64 (i : Nat)) rfl) ?_
   refine wl rfl (.int .i64 (i : Nat)) _ (run_asZ (.tmp 25) rfl (.int .i64 (i : Nat)) rfl) ?_
   simp only [Act.put, aS, aC, aZ]
   refine wpList_nil ?_
   obtain ⟨k, hk⟩ : ∃ k, k = min (fs.drop (59 * i)).length 59 := ⟨_, rfl⟩
   have hk59 : k ≤ 59 := (by omega)
   have HK : Hid (k = min (fs.drop (59 * i)).length 59 ∧ k ≤ (fs.drop (59 * i)).length) := ⟨hk, by omega⟩
   clear hk
   obtain ⟨W1, hc1, r1, c1, z1⟩ := copyS (off := i * 64 + 0) (dLen := 59 - 0) (dCap := 64 - 0) (HI.out.1.later HI.out.2.2) HI.out.2.1 k HK.out.1 (by rw [bcells_length, imgTo_length _ _ _ _ _ _ hi]; omega)
   have HC1 : Hid (∀ ty, (Builtin.copy_ #[28, 28] ty #[.slice (some ⟨gi, i * 64 + 0, none⟩) (59 - 0) (64 - 0), u7]).run Tryd.prog wr = .ok (.int .i64 (k : Nat)) W1) := hc1
   have HR1 : Hid (Row W1 gi 73 (bcells (splice (imgTo d A t b n i) (i * 64) ((fs.drop (59 * i)).take k))) ∧ Below w4.heap.size w4 W1) := ⟨by rw [bcells_splice]; exact r1, HI.out.2.2.trans (c1.below HI.out.2.2.size fun q hq e => by have := H5.out.2.2; omega)⟩
   clear hc1 r1 c1 z1
   go_upto_region 6 with fail
   refine wp_region_lit ?_
   refine wl rfl (whole gi n) _ (run_mvZ (.tmp 8) rfl (whole gi n) rfl) ?_
   refine wl rfl (.int .i64 (i : Nat)) _ (run_mvZ (.tmp 9) rfl (.int .i64 (i : Nat)) rfl) ?_
   refine wl rfl (.pointer (some ⟨gi, i * 64, none⟩)) _ (run_idx (.tmp 26) (.tmp 27) rfl _ _ _ rfl rfl (ix96 gi n i hlt)) ?_
   refine wl rfl (.slice (some ⟨gi, i * 64 + 0, none⟩) (59 - 0) (64 - 0)) _ (run_slA arr73 (.tmp 28) none (some (.const (.int .i64 59))) rfl gi (i * 64) 0 59 rfl ⟨Or.inl ⟨rfl, rfl⟩, Or.inr rfl, by omega, by omega, by omega⟩) ?_
   simp only [Act.put, aS, aC, aZ]
   refine wl rfl u7 _ (run_mvZ (.tmp 7) rfl u7 rfl) ?_
   refine wl rfl (.int .i64 (k : Nat)) W1 (run_copyOp (.tmp 29) (.tmp 30) rfl _ _ _ rfl rfl HC1.out) ?_
   refine wl rfl (.int .i64 (k : Nat)) _ (run_asZ (.tmp 31) rfl (.int .i64 (k : Nat)) rfl) ?_
   simp only [Act.put, aS, aC, aZ]
   refine wpList_nil ?_
   obtain ⟨v4, hr4, hs4⟩ := run_bsub HI.out.1 (lo := some (.int .i64 (k : Nat))) (hi := none) (mx := none) (l := k) (h := (fs.drop (59 * i)).length) ⟨Or.inr ⟨_, rfl, rfl⟩, Or.inl ⟨rfl, rfl, rfl⟩, HK.out.2, Nat.le_refl _⟩
   rw [List.take_of_length_le (Nat.le_refl _), drop_rest fs i k HK.out.1] at hs4
   have H4 : Hid ((∀ w', (Instr.slice 28 u7 (some (.int .i64 (k : Nat))) none none).run Tryd.prog w' = .ok v4 w') ∧ SliceIn w4 v4 (fs.drop (59 * (i + 1)))) := ⟨hr4, hs4⟩
   clear hr4 hs4
   go_upto_region 7 with fail
   refine wp_region_lit ?_
   refine wl rfl u7 _ (run_mvZ (.tmp 7) rfl u7 rfl) ?_
   refine wl rfl (.int .i64 (k : Nat)) _ (run_mvZ (.tmp 10) rfl (.int .i64 (k : Nat)) rfl) ?_
   refine wl rfl v4 _ (run_subB (.tmp 32) (some (.tmp 33)) none none rfl u7 v4 rfl H4.out.1) ?_
   refine wl rfl v4 _ (run_asZ (.tmp 34) rfl v4 rfl) ?_
   simp only [Act.put, aS, aC, aZ]
   refine wpList_nil ?_
   go_upto_region 8 with fail
   refine wp_region_held (S := fun X => True) (by kernel_rfl) ?_
   show wpAnyH _ _ _ _ _ 8 (Array.replicate 8 false) _ _
   obtain ⟨X, hX⟩ : ∃ X : World, X = { W1 with drawn := W1.drawn + 1 } := ⟨_, rfl⟩
   rw [← hX]
   have HX : Hid (Row X gi 73 (bcells (splice (imgTo d A t b n i) (i * 64) ((fs.drop (59 * i)).take k))) ∧ Below w4.heap.size w4 X) := (by rw [hX]; exact ⟨HR1.out.1, HR1.out.2.trans ⟨rfl, rfl, rfl, Nat.le_refl _, fun _ _ => rfl⟩⟩)
   clear hX
   refine tH 0 35 rfl rfl (gRun rfl (whole gi n) fun _ h => run_mvZ (.tmp 8) rfl (whole gi n) rfl) trivial ?_
   refine tH 1 36 rfl rfl (gRun rfl (.int .i64 (i : Nat)) fun _ h => run_mvZ (.tmp 9) rfl (.int .i64 (i : Nat)) rfl) trivial ?_
   refine tH 2 37 rfl rfl (gRun rfl (.pointer (some ⟨gi, i * 64, none⟩)) fun _ h => run_idx (.tmp 35) (.tmp 36) rfl _ _ _ rfl rfl (ix96 gi n i hlt)) trivial ?_
   refine tH 3 38 rfl rfl (gRun rfl (.slice (some ⟨gi, i * 64 + 59, none⟩) (64 - 59) (64 - 59)) fun _ h => run_slA arr73 (.tmp 37) (some (.const (.int .i64 59))) none rfl gi (i * 64) 59 64 rfl ⟨Or.inr rfl, Or.inl ⟨rfl, rfl⟩, by omega, by omega, by omega⟩) trivial ?_
   simp only [Act.put, aS, aC, aZ]
   refine tH 4 39 rfl rfl (gRun rfl (.int .u64 (t : Nat)) fun _ h => run_mvZ (.tmp 1) rfl (.int .u64 (t : Nat)) rfl) trivial ?_
   refine tH 5 40 rfl rfl (gRun rfl (.int .i64 (i : Nat)) fun _ h => run_mvZ (.tmp 9) rfl (.int .i64 (i : Nat)) rfl) trivial ?_
   simp only [Act.put, aS, aC, aZ]
   refine oneH (i := 6) (by kernel_rfl) ?_
   refine opCallG (some 41) rfl rfl rfl 64 _ (run_call eN64 [.tmp 39, .tmp 40] _ rfl [(.int .u64 (t : Nat)), (.int .i64 (i : Nat))] rfl) ?_
   refine (mark_any X t i (by omega)).mono ?_
   rintro e W2 ⟨v5, rfl, o1, b1⟩
   obtain ⟨L1, hL1⟩ : ∃ L, L = bcells (splice (imgTo d A t b n i) (i * 64) ((fs.drop (59 * i)).take k)) := ⟨_, rfl⟩
   have HM : Hid (BOwn W2 X.heap.size v5 (mrkP t i) ∧ Row W2 gi 73 L1 ∧ Below w4.heap.size w4 W2 ∧ L1 = bcells (splice (imgTo d A t b n i) (i * 64) ((fs.drop (59 * i)).take k)) ∧ L1.length = 64 * n) := ⟨o1, by rw [hL1]; exact HX.out.1.later b1 HX.out.1.lt, HX.out.2.trans (b1.mono HX.out.2.size), hL1, (by rw [hL1, bcells_length, length_splice _ _ _ (by rw [imgTo_length _ _ _ _ _ _ hi, List.length_take]; omega), imgTo_length _ _ _ _ _ _ hi])⟩
   clear o1 b1 hL1
   refine ⟨_, rfl, ?_⟩
   refine ⟨trivial, ?_⟩
   simp only [Act.put, aS, aC, aZ]
   refine oneH (i := 7) (by kernel_rfl) ?_
   obtain ⟨W3, hc1, r1, c1, z1⟩ := copyS (off := i * 64 + 59) (dLen := 64 - 59) (dCap := 64 - 59) (BOwn.slice (base := X.heap.size) HM.out.1 (mrkP_lt t i) (by rw [mrkP_length]; decide)) HM.out.2.1 5 (by rw [mrkP_length]; decide) (by rw [HM.out.2.2.2.2]; omega)
   refine opValueG (some 42) rfl rfl rfl (.int .i64 (5 : Nat)) W3 (run_copyOp (.tmp 38) (.tmp 41) rfl _ _ _ rfl rfl hc1) ?_
   refine ⟨trivial, ?_⟩
   have HR3 : Hid (Row W3 gi 73 (bcells (imgTo d A t b n (i + 1))) ∧ Below w4.heap.size w4 W3) := ⟨by have e_ := imgTo_step d A t b n i k hlt (by rw [← HFS.out.1]; exact HK.out.1); rw [← HFS.out.1] at e_; rw [← e_, bcells_splice]; rw [← mrkP_length t i, List.take_of_length_le (Nat.le_refl _)] at r1; exact HM.out.2.2.2.1 ▸ r1, HM.out.2.2.1.trans (c1.below HM.out.2.2.1.size fun q hq e => by have := H5.out.2.2; omega)⟩
   clear hc1 r1 c1 z1
   simp only [Act.put, aS, aC, aZ]
   refine wpAnyH_done (by kernel_rfl) ?_ _
   go_wp2_with fail
   refine ⟨⟨i + 1, by go_num, by omega, ⟨H4.out.2, HR3.out.1, HR3.out.2⟩⟩, ?_⟩
   simp [intOf]; omega
  ·go_upto_region 4 with fail
   refine wp_region_lit ?_
   refine wl rfl (.bool false) _ (run_lssZ (.tmp 23) (.tmp 22) rfl (i : Nat) (n : Nat) rfl rfl false (decide_eq_false (by omega))) ?_
   simp only [Act.put, aS, aC, aZ]
   refine wpList_nil ?_
   go_upto_region 10 with fail
   refine wp_region_lit ?_
   refine wl rfl (whole gi n) _ (run_mvZ (.tmp 8) rfl (whole gi n) rfl) ?_
   refine wl rfl (whole gi n) _ (run_asZ (.tmp 44) rfl (whole gi n) rfl) ?_
   simp only [Act.put, aS, aC, aZ]
   refine wpList_nil ?_
   go_wp2_with fail
   rw [HPQ.out]
   have ei : i = n := (by omega)
   subst ei
   have e_ := imgTo_all d A t b
   rw [← HCN.out] at e_
   refine ⟨gi, ?_, ?_, ?_, ?_⟩
   ·exact congrArg (fun q => Ending.returned (whole gi q)) HCN.out
   ·have := H3.out.2.size
    have := H5.out.2.2
    omega
   ·rw [← e_]
    exact HI.out.2.1
   ·exact H3.out.2.trans (HI.out.2.2.mono H3.out.2.size)

end Go.Proofs.YthgidfoidbgnaaaDoor

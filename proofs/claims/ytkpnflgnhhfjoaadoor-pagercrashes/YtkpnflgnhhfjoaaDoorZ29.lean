/- Layer 9: what an image tells; images read. -/
import Derived.Test.YtkpnflgnhhfjoaaDoorZ28
namespace Go.Proofs.YtkpnflgnhhfjoaaDoor
open Go.RowKit Go.Maps
open Fr.Frame (be val)

theorem run_gtrZ {w : World} {a : Act} {o : Oper} (x y : Operand) (ho : o.op = .binOp .gtr 3 x y 3) (z z' : Int) (hx : a.eval x = .int .i64 z) (hy : a.eval y = .int .i64 z') (b : Bool) (hb : decide (z' < z) = b) : (execOp a.eval o).run Tryd.prog w = .ok (.value (.bool b)) w := by
  subst hb
  simp only [execOp, ho, hx, hy]
  simp [go_sem]
theorem imLen_lt {x : List Nat} (h : ∀ c ∈ x, c < 256) : imLen x < 65536 := by
  unfold imLen
  have h1 := Fr.Frame.val_lt (x.take 2) fun c hc => h c (List.mem_of_mem_take hc)
  have h2 : (x.take 2).length ≤ 2 := by simp; omega
  have h3 : 256 ^ (x.take 2).length ≤ 256 ^ 2 := Nat.pow_le_pow_right (by decide) h2
  have h4 : (256 : Nat) ^ 2 = 65536 := by decide
  omega
theorem imBytes_length {x : List Nat} (h : x.length = 512) (hl : imLen x ≤ 500) : (imBytes x).length = imLen x := by
  unfold imBytes
  simp
  omega
theorem imBytes_lt {x : List Nat} (h : ∀ c ∈ x, c < 256) : ∀ c ∈ imBytes x, c < 256 := fun c hc => h c (List.mem_of_mem_drop (List.mem_of_mem_take hc))
theorem new_slice {w : World} {q T n : Nat} {b : List Nat} (h : Row w q T (bcells b)) (hb : ∀ c ∈ b, c < 256) (hl : b.length = n) (hn : n ≤ 1000000) : SliceIn w (.slice (some ⟨q, 0, none⟩) n n) b := by
  subst hl
  exact ⟨_, b.length, rfl, ⟨Nat.le_refl _, by omega⟩, Or.inr ⟨q, 0, rfl, fun j hj => by rw [Nat.zero_add]; exact h.at j _ (bat hj), Fr.Frame.getD_lt hb⟩⟩
/-- bytes that a call hands out, in a new block -/
def NewB (w w' : World) (v : Value) (b : List Nat) : Prop := ∃ q, v = .slice (some ⟨q, 0, none⟩) b.length b.length ∧ w.heap.size ≤ q ∧ Row w' q 5 (bcells b)
set_option maxHeartbeats 8000000 in
set_option maxRecDepth 100000 in
theorem bytes_any (w : World) (ht : Fr.TabIn w) (x : List Nat) (hx : x.length = 512) (hxb : ∀ c ∈ x, c < 256) : Calls Tryd.prog 55 #[.agg (bcells x).toArray] w fun e w' => Below w.heap.size w w' ∧ ((500 < imLen x ∧ e = .returned (.tuple #[.slice none 0 0, .bool false])) ∨ ∃ v, imLen x ≤ 500 ∧ NewB w w' v (imBytes x) ∧ e = .returned (.tuple #[v, .bool (decide (imOf (imBytes x) = x))])) := by
  obtain ⟨n, hn⟩ : ∃ n, n = imLen x := ⟨_, rfl⟩
  have hnl : n < 65536 := by rw [hn]; exact imLen_lt hxb
  have HN : Hid (val ((x.drop 0).take 2) = n) := by show _ = _; rw [hn]; rfl
  obtain ⟨b, hb⟩ : ∃ b, b = imBytes x := ⟨_, rfl⟩
  have HB : Hid (b = (x.drop 2).take n) := by show _ = _; rw [hb, hn]; rfl
  have HBL : Hid (n ≤ 500 → b.length = n) := fun h => by rw [hb, hn]; exact imBytes_length hx (by omega)
  have HBB : Hid (∀ c ∈ b, c < 256) := by intro c hc; rw [hb] at hc; exact imBytes_lt hxb c hc
  have HX : Hid (x.length = 512) := hx
  have HXB : Hid (∀ c ∈ x, c < 256) := hxb
  have HT : Hid (Fr.TabIn w) := ht
  have HXJ : Hid (∀ j, j < b.length → (bcells x)[2 + j]? = some (.int .u8 (b.getD j 0 : Nat))) := fun j hj => by
    have hj2 : j < n ∧ 2 + j < x.length := by
      rw [HB.out] at hj
      simp at hj
      omega
    rw [bat hj2.2, HB.out]
    simp [List.getD_eq_getElem?_getD, hj2.1]
  obtain ⟨PQ, hPQ⟩ : ∃ PQ : Ending → World → Prop, PQ = fun (e : Ending) (w' : World) => Below w.heap.size w w' ∧ ((500 < n ∧ e = .returned (.tuple #[.slice none 0 0, .bool false])) ∨ ∃ v, n ≤ 500 ∧ NewB w w' v b ∧ e = .returned (.tuple #[v, .bool (decide (imOf b = x))])) := ⟨_, rfl⟩
  have HPQ : Hid (PQ = fun (e : Ending) (w' : World) => Below w.heap.size w w' ∧ ((500 < n ∧ e = .returned (.tuple #[.slice none 0 0, .bool false])) ∨ ∃ v, n ≤ 500 ∧ NewB w w' v b ∧ e = .returned (.tuple #[v, .bool (decide (imOf b = x))]))) := hPQ
  rw [← hn, ← hb, ← hPQ]
  clear hn hb hPQ hx hxb ht
  have R0 : Hid (Loc w w []) := Loc.nil (Below.refl _ w)
  go_enter Tryd.func55, Tryd.ntmps55
  go_upto_region 0 with fail
  refine wp_region_lit ?_
  refine wl rfl (ptr w.heap.size) _ (run_boxA (.tmp 0) rfl (bcells x) rfl) ?_
  have k_ := R0.out.box 91 (bcells x)
  obtain ⟨w1, hW_⟩ : ∃ W, W = w.alloc (.cells (bcells x).toArray 91) := ⟨_, rfl⟩
  obtain ⟨q1, hq_⟩ : ∃ q, q = w.heap.size := ⟨_, rfl⟩
  rw [← hW_, ← hq_] at k_
  rw [← hW_, ← hq_]
  clear hq_
  have Rw1 : Hid (Loc w w1 [(q1, 91, bcells x)]) := k_
  clear k_ hW_ R0
  simp only [Act.put, aS, aC, aZ]
  refine wl rfl (.slice none 0 0) _ (run_asZ (.const (.slice none 0 0)) rfl (.slice none 0 0) rfl) ?_
  simp only [Act.put, aS, aC, aZ]
  refine wl rfl (.bool false) _ (run_asZ (.const (.bool false)) rfl (.bool false) rfl) ?_
  simp only [Act.put, aS, aC, aZ]
  refine wpList_nil ?_
  go_upto_region 1 with fail
  refine wp_region_lit ?_
  refine wl rfl (.slice (some ⟨q1, 0 + 0, none⟩) (2) (512)) _ (run_slA arr91 (.tmp 1) (some (.const (.int .i64 0))) (some (.const (.int .i64 2))) rfl q1 (0) 0 2 rfl ⟨(Or.inr rfl), (Or.inr rfl), by omega, by omega, by omega⟩) ?_
  simp only [Act.put, aS, aC, aZ]
  refine wpList_callW eN77 [.tmp 6] _ rfl rfl [(.slice (some ⟨q1, 0 + 0, none⟩) (2) (512))] rfl ?_
  refine (number_at (off := 0) (k := 2) (cap := 512) (Rw1.out.at 0 rfl) HXB.out (by have := HX.out; omega) (by decide) (by decide)).mono ?_
  rintro e w2 ⟨rfl, e2⟩
  refine ⟨_, rfl, ?_⟩
  subst e2
  rw [HN.out]
  simp only [Act.put, aS, aC, aZ]
  refine wl rfl (.int .i64 (n : Nat)) _ (run_u64i64 (.tmp 7) rfl n (by omega) rfl) ?_
  simp only [Act.put, aS, aC, aZ]
  refine wl rfl (.int .i64 (n : Nat)) _ (run_asZ (.tmp 8) rfl (.int .i64 (n : Nat)) rfl) ?_
  simp only [Act.put, aS, aC, aZ]
  refine wpList_nil ?_
  go_upto_region 2 with fail
  by_cases h5 : 500 < n
  · have hg : decide ((500 : Int) < (n : Int)) = true := decide_eq_true (by omega)
    refine wp_region_lit ?_
    refine wl rfl (.int .i64 (n : Nat)) _ (run_mvZ (.tmp 4) rfl (.int .i64 (n : Nat)) rfl) ?_
    simp only [Act.put, aS, aC, aZ]
    refine wl rfl (.bool true) _ (run_gtrZ (.tmp 9) (.const (.int .i64 500)) rfl (n : Nat) 500 rfl rfl true hg) ?_
    simp only [Act.put, aS, aC, aZ]
    refine wpList_nil ?_
    go_wp2_with fail
    rw [HPQ.out]
    exact ⟨Rw1.out.below, Or.inl ⟨h5, rfl⟩⟩
  · have hg : decide ((500 : Int) < (n : Int)) = false := decide_eq_false (by omega)
    have HL : Hid (b.length = n) := HBL.out (by omega)
    refine wp_region_lit ?_
    refine wl rfl (.int .i64 (n : Nat)) _ (run_mvZ (.tmp 4) rfl (.int .i64 (n : Nat)) rfl) ?_
    simp only [Act.put, aS, aC, aZ]
    refine wl rfl (.bool false) _ (run_gtrZ (.tmp 9) (.const (.int .i64 500)) rfl (n : Nat) 500 rfl rfl false hg) ?_
    simp only [Act.put, aS, aC, aZ]
    refine wpList_nil ?_
    go_upto_region 4 with fail
    refine wp_region_lit ?_
    refine wl rfl (.int .i64 (n : Nat)) _ (run_mvZ (.tmp 4) rfl (.int .i64 (n : Nat)) rfl) ?_
    simp only [Act.put, aS, aC, aZ]
    refine wl_make (.tmp 11) (.tmp 11) 38 5 (.int .u8 0) 1 1 rfl rfl Tryd.underlying38 info5z n rfl rfl (by omega) (by omega) ?_
    intro w3 r3 z3 b3
    rw [made5] at r3
    obtain ⟨q2, hq2⟩ : ∃ q2, q2 = w1.heap.size := ⟨_, rfl⟩
    have k3 := Rw1.out.add r3 (Nat.le_refl _) b3
    rw [← hq2] at k3
    unfold whole
    rw [← hq2]
    have Rw3 : Hid (Loc w w3 [(q1, 91, bcells x), (q2, 5, bcells (List.replicate n 0))]) := k3
    clear k3 r3 z3 b3 hq2 Rw1
    simp only [Act.put, aS, aC, aZ]
    refine wl rfl (.slice (some ⟨q2, 0, none⟩) n n) _ (run_asZ (.tmp 12) rfl (.slice (some ⟨q2, 0, none⟩) n n) rfl) ?_
    simp only [Act.put, aS, aC, aZ]
    refine wpList_nil ?_
    go_upto_region 5 with fail
    refine wp_region_lit ?_
    refine wl rfl (.slice (some ⟨q2, 0, none⟩) n n) _ (run_mvZ (.tmp 5) rfl (.slice (some ⟨q2, 0, none⟩) n n) rfl) ?_
    simp only [Act.put, aS, aC, aZ]
    refine wl rfl (.slice (some ⟨q1, 0 + 2, none⟩) (510) (510)) _ (run_slA arr91 (.tmp 1) (some (.const (.int .i64 2))) none rfl q1 (0) 2 512 rfl ⟨(Or.inr rfl), (Or.inl ⟨rfl, rfl⟩), by omega, by omega, by omega⟩) ?_
    simp only [Act.put, aS, aC, aZ]
    refine wl rfl (.int .i64 (n : Nat)) _ (run_copyL (.tmp 13) (.tmp 14) rfl Rw3.out 1 rfl 0 n n q1 2 510 510 n rfl rfl b HL.out (by show n = min 510 n; omega) (fun j hj => rows_at Rw3.out 0 rfl (2 + j) _ (HXJ.out j hj)) (by rw [bcells_length, List.length_replicate]; omega)).1 ?_
    have k_ := Rw3.out.lay 1 rfl 0 (bcells b)
    rw [splice_all _ _ (by rw [bcells_length, bcells_length, List.length_replicate]; exact HL.out)] at k_ ⊢
    obtain ⟨w4, hW_⟩ : ∃ W, W = w3.setRow q2 (bcells b).toArray := ⟨_, rfl⟩
    rw [← hW_] at k_ ⊢
    have Rw4 : Hid (Loc w w4 [(q1, 91, bcells x), (q2, 5, bcells b)]) := k_
    clear k_ hW_ Rw3
    simp only [Act.put, aS, aC, aZ]
    refine wpList_nil ?_
    go_upto_region 6 with fail
    refine wp_region_held (S := fun X => Loc w X [(q1, 91, bcells x), (q2, 5, bcells b)]) (by kernel_rfl) ?_
    show wpAnyH _ _ _ _ _ 7 (Array.replicate 7 false) _ _
    obtain ⟨X, hX⟩ : ∃ X : World, X = { w4 with drawn := w4.drawn + 1 } := ⟨_, rfl⟩
    rw [← hX]
    have hS : Loc w X [(q1, 91, bcells x), (q2, 5, bcells b)] := by rw [hX]; exact Rw4.out.drew
    clear Rw4
    clear hX
    refine takeH (i := 0) (some 16) rfl rfl (by kernel_rfl) (by kernel_rfl) (by kernel_rfl) (fun _ _ _ h => h) (gRun rfl (.slice (some ⟨q2, 0, none⟩) n n) fun _ h => run_mvZ (.tmp 5) rfl (.slice (some ⟨q2, 0, none⟩) n n) rfl) hS ?_
    simp only [Act.put, aS, aC, aZ]
    refine takeH (i := 1) (some 17) rfl rfl (by kernel_rfl) (by kernel_rfl) (by kernel_rfl) (fun _ _ _ h => h) (gRun rfl (.slice (some ⟨q2, 0, none⟩) n n) fun _ h => run_mvZ (.tmp 5) rfl (.slice (some ⟨q2, 0, none⟩) n n) rfl) hS ?_
    simp only [Act.put, aS, aC, aZ]
    refine takeH (i := 3) (some 19) rfl rfl (by kernel_rfl) (by kernel_rfl) (by kernel_rfl) (fun _ _ _ h => h) (gRun rfl (.agg (bcells x).toArray) fun _ h => run_loadA ag91 (.tmp 1) rfl q1 (0) rfl (bcells x) (bc512 x HX.out) (rows_all h 0 rfl)) hS ?_
    simp only [Act.put, aS, aC, aZ]
    refine oneH (i := 2) (by kernel_rfl) ?_
    refine opCallG (some 18) rfl rfl rfl 43 _ (run_call eN43 [.tmp 17] _ rfl [(.slice (some ⟨q2, 0, none⟩) n n)] rfl) ?_
    refine (imageOf_any X (Fr.TabIn.later hS.below HT.out) _ b (new_slice (hS.at 1 rfl) HBB.out HL.out (by omega)) (by have := HL.out; omega)).mono ?_
    rintro e w5 ⟨rfl, b5⟩
    refine ⟨_, rfl, ?_⟩
    have k5 := hS.later b5
    clear hS b5
    have hS : Loc w w5 [(q1, 91, bcells x), (q2, 5, bcells b)] := k5
    clear k5
    refine ⟨hS, ?_⟩
    simp only [Act.put, aS, aC, aZ]
    refine takeH (i := 4) (some 20) rfl rfl (by kernel_rfl) (by kernel_rfl) (by kernel_rfl) (fun _ _ _ h => h) (gRun rfl (.bool (decide (imOf b = x))) fun _ h => run_eqA arr91 eqG91 (.tmp 18) (.tmp 19) rfl (imOf b) x (imOf_length (by have := HL.out; omega)) HX.out rfl rfl) hS ?_
    simp only [Act.put, aS, aC, aZ]
    refine takeH (i := 5) (some 2) rfl rfl (by kernel_rfl) (by kernel_rfl) (by kernel_rfl) (fun _ _ _ h => h) (gRun rfl (.slice (some ⟨q2, 0, none⟩) n n) fun _ h => run_asZ (.tmp 16) rfl (.slice (some ⟨q2, 0, none⟩) n n) rfl) hS ?_
    simp only [Act.put, aS, aC, aZ]
    refine takeH (i := 6) (some 3) rfl rfl (by kernel_rfl) (by kernel_rfl) (by kernel_rfl) (fun _ _ _ h => h) (gRun rfl (.bool (decide (imOf b = x))) fun _ h => run_asZ (.tmp 20) rfl (.bool (decide (imOf b = x))) rfl) hS ?_
    simp only [Act.put, aS, aC, aZ]
    refine wpAnyH_done (by kernel_rfl) ?_ _
    have R9 : Hid (Loc w w5 [(q1, 91, bcells x), (q2, 5, bcells b)]) := hS
    clear hS
    go_wp2_with fail
    rw [HPQ.out]
    exact ⟨R9.out.below, Or.inr ⟨_, by omega, ⟨q2, by rw [HL.out]; rfl, R9.out.ge 1 rfl, R9.out.at 1 rfl⟩, rfl⟩⟩
/-- the sectors of a page, one behind the other -/
def pageAt (m : Pl) (i p : Nat) : List Nat := join8 (fun j => m.rd i (placeP p j)) 8
def imTo (f : Nat → List Nat) (j : Nat) : List Nat := join8 f j ++ List.replicate (512 - 64 * j) 0
theorem imTo_next (f : Nat → List Nat) (hf : ∀ j, (f j).length = 64) (j : Nat) (hj : j < 8) : over (imTo f j) (64 * j) (f j) = imTo f (j + 1) := by
  unfold imTo
  rw [ov_app _ _ _ (64 * j) (join8_length f hf j), hf j, List.drop_replicate, show 512 - 64 * j - 64 = 512 - 64 * (j + 1) by omega]
  rfl
theorem imTo_length (f : Nat → List Nat) (hf : ∀ j, (f j).length = 64) (j : Nat) (hj : j ≤ 8) : (imTo f j).length = 512 := by
  unfold imTo
  rw [List.length_append, join8_length f hf j, List.length_replicate]
  omega
set_option maxHeartbeats 8000000 in
set_option maxRecDepth 100000 in
theorem readImage_any {w : World} {c : Nat → Colour} {t g : Nat} {m : Pl} (h : Live w c t g m) {ds ts : List Nat} {i n : Nat} (hd : DkOn m ds ts i) (hn : n = pagesN (ds.getD i 0)) (p : Nat) (hp : p < n) : Calls Tryd.prog 54 #[ptr g, .int .i64 (i : Nat), .int .i64 (p : Nat)] w fun e w' => e = .returned (.tuple #[.agg (bcells (pageAt m i p)).toArray, .int .i64 0]) ∧ Below w.heap.size w w' := by
  have hpl : 2 + 8 * p + 8 ≤ ds.getD i 0 ∧ p < 384 := by unfold pagesN at hn; omega
  obtain ⟨f, hf⟩ : ∃ f, f = fun j => m.rd i (placeP p j) := ⟨_, rfl⟩
  have HF : Hid (∀ j, (f j).length = 64) := fun j => by rw [hf]; exact (Pl.rd_sec h.2.1 i _).1
  obtain ⟨Z, hZ⟩ : ∃ Z, Z = pageAt m i p := ⟨_, rfl⟩
  have HZ : Hid (imTo f 8 = Z) := by
    show _ = _
    rw [hZ, hf]
    unfold imTo pageAt
    simp
  have HRS : Hid (∀ W j, j < 8 → Below w.heap.size w W → Calls Tryd.prog 76 #[ptr g, .int .i64 (i : Nat), .int .i64 ((2 + 8 * p + j : Nat) : Int)] W fun e w' => e = .returned (.tuple #[.agg (bcells (f j)).toArray, .int .i64 0]) ∧ Below W.heap.size W w') := fun W j hj hW => by rw [hf]; exact readSector_any (h.below hW) hd (2 + 8 * p + j) (by omega)
  have HFS : Hid (∀ W, Calls Tryd.prog 70 #[.int .i64 (p : Nat)] W fun e w' => e = .returned (.int .i64 ((2 + 8 * p : Nat) : Int)) ∧ W = w') := fun W => first_any W p (by omega)
  have hp384 : p < 384 := hpl.2
  obtain ⟨PQ, hPQ⟩ : ∃ PQ : Ending → World → Prop, PQ = fun (e : Ending) (w' : World) => e = .returned (.tuple #[.agg (bcells Z).toArray, .int .i64 0]) ∧ Below w.heap.size w w' := ⟨_, rfl⟩
  have HPQ : Hid (PQ = fun (e : Ending) (w' : World) => e = .returned (.tuple #[.agg (bcells Z).toArray, .int .i64 0]) ∧ Below w.heap.size w w') := hPQ
  rw [← hZ, ← hPQ]
  clear hf hZ hPQ h hd hn hp hpl
  have R0 : Hid (Loc w w []) := Loc.nil (Below.refl _ w)
  go_enter Tryd.func54, Tryd.ntmps54
  go_upto_region 0 with fail
  refine wp_region_lit ?_
  refine wl rfl (ptr w.heap.size) _ (run_allocA (zerosU8 512) zero91 rfl) ?_
  have k_ := R0.out.box 91 (zerosU8 512)
  obtain ⟨w1, hW_⟩ : ∃ W, W = w.alloc (.cells (zerosU8 512).toArray 91) := ⟨_, rfl⟩
  obtain ⟨q1, hq_⟩ : ∃ q, q = w.heap.size := ⟨_, rfl⟩
  rw [← hW_, ← hq_] at k_
  rw [← hW_, ← hq_]
  clear hq_
  have Rw1 : Hid (Loc w w1 [(q1, 91, zerosU8 512)]) := k_
  clear k_ hW_ R0
  simp only [Act.put, aS, aC, aZ]
  refine wl rfl (.int .i64 0) _ (run_asZ (.const (.int .i64 0)) rfl (.int .i64 0) rfl) ?_
  simp only [Act.put, aS, aC, aZ]
  refine wpList_nil ?_
  go_upto_region 1 with fail
  refine wp_region_lit ?_
  refine wl rfl (ptr w1.heap.size) _ (run_allocA (bcells (List.replicate 512 0)) zeroI rfl) ?_
  have k_ := Rw1.out.box 91 (bcells (List.replicate 512 0))
  obtain ⟨w2, hW_⟩ : ∃ W, W = w1.alloc (.cells (bcells (List.replicate 512 0)).toArray 91) := ⟨_, rfl⟩
  obtain ⟨q2, hq_⟩ : ∃ q, q = w1.heap.size := ⟨_, rfl⟩
  rw [← hW_, ← hq_] at k_
  rw [← hW_, ← hq_]
  clear hq_
  have Rw2 : Hid (Loc w w2 [(q1, 91, zerosU8 512), (q2, 91, bcells (List.replicate 512 0))]) := k_
  clear k_ hW_ Rw1
  simp only [Act.put, aS, aC, aZ]
  refine wpList_nil ?_
  go_upto_region 2 with fail
  go_wp2_with fail
  go_loopw [12] (fun vj W => ∃ j : Nat, vj = .int .i64 (j : Nat) ∧ j ≤ 8 ∧ Loc w W [(q1, 91, zerosU8 512), (q2, 91, bcells (imTo f j))]) (fun vj _ => 8 - (intOf vj).toNat)
  case atStart => exact ⟨0, rfl, Nat.zero_le _, Rw2.out⟩
  case round =>
    obtain ⟨j, rfl, hj, hI⟩ := hrel
    have RL : Hid (Loc w wr [(q1, 91, zerosU8 512), (q2, 91, bcells (imTo f j))]) := hI
    clear hI Rw2
    by_cases hlt : j < 8
    · have t1 : decide ((j : Int) < 8) = true := decide_eq_true (by omega)
      obtain ⟨s, hs⟩ : ∃ s, s = f j := ⟨_, rfl⟩
      have HSL : Hid (s.length = 64) := by show _ = _; rw [hs]; exact HF.out j
      have HNX : Hid (over (imTo f j) (64 * j) s = imTo f (j + 1)) := by show _ = _; rw [hs]; exact imTo_next f HF.out j hlt
      have HRJ : Hid (∀ W, Below w.heap.size w W → Calls Tryd.prog 76 #[ptr g, .int .i64 (i : Nat), .int .i64 ((2 + 8 * p + j : Nat) : Int)] W fun e w' => e = .returned (.tuple #[.agg (bcells s).toArray, .int .i64 0]) ∧ Below W.heap.size W w') := fun W hW => by rw [hs]; exact HRS.out W j hlt hW
      have HTL : Hid ((imTo f j).length = 512) := imTo_length f HF.out j (by omega)
      clear hs
      go_upto_region 5 with fail
      refine wp_region_lit ?_
      refine wl rfl (ptr g) _ (run_mvZ (.tmp 0) rfl (ptr g) rfl) ?_
      simp only [Act.put, aS, aC, aZ]
      refine wl rfl (.int .i64 (i : Nat)) _ (run_mvZ (.tmp 1) rfl (.int .i64 (i : Nat)) rfl) ?_
      simp only [Act.put, aS, aC, aZ]
      refine wl rfl (.int .i64 (p : Nat)) _ (run_mvZ (.tmp 2) rfl (.int .i64 (p : Nat)) rfl) ?_
      simp only [Act.put, aS, aC, aZ]
      refine wpList_callW eN70 [.tmp 18] _ rfl rfl [(.int .i64 (p : Nat))] rfl ?_
      refine (HFS.out wr).mono ?_
      rintro e w3 ⟨rfl, e3⟩
      refine ⟨_, rfl, ?_⟩
      subst e3
      simp only [Act.put, aS, aC, aZ]
      refine wl rfl (.int .i64 (j : Nat)) _ (run_mvZ (.tmp 9) rfl (.int .i64 (j : Nat)) rfl) ?_
      simp only [Act.put, aS, aC, aZ]
      refine wl rfl (.int .i64 ((2 + 8 * p + j : Nat) : Int)) _ (run_addI (.tmp 19) (.tmp 20) rfl ((2 + 8 * p : Nat) : Int) (j : Nat) ((2 + 8 * p + j : Nat) : Int) (by omega) (by omega) (by omega) rfl rfl) ?_
      simp only [Act.put, aS, aC, aZ]
      refine wpList_callW eN76 [.tmp 16, .tmp 17, .tmp 21] _ rfl rfl [(ptr g), (.int .i64 (i : Nat)), (.int .i64 ((2 + 8 * p + j : Nat) : Int))] rfl ?_
      refine (HRJ.out wr RL.out.below).mono ?_
      rintro e w4 ⟨rfl, b4⟩
      refine ⟨_, rfl, ?_⟩
      have Rw4 : Hid (Loc w w4 [(q1, 91, zerosU8 512), (q2, 91, bcells (imTo f j))]) := RL.out.later b4
      clear RL b4
      simp only [Act.put, aS, aC, aZ]
      refine wl rfl (.tuple #[(.agg (bcells s).toArray), (.int .i64 0)]) _ (run_mvZ (.tmp 22) rfl (.tuple #[(.agg (bcells s).toArray), (.int .i64 0)]) rfl) ?_
      simp only [Act.put, aS, aC, aZ]
      refine wl rfl (.agg (bcells s).toArray) _ (run_extZ (.tmp 15) 0 rfl #[(.agg (bcells s).toArray), (.int .i64 0)] rfl (.agg (bcells s).toArray) rfl) ?_
      simp only [Act.put, aS, aC, aZ]
      refine wl rfl (.int .i64 0) _ (run_extZ (.tmp 15) 1 rfl #[(.agg (bcells s).toArray), (.int .i64 0)] rfl (.int .i64 0) rfl) ?_
      simp only [Act.put, aS, aC, aZ]
      refine wl rfl (ptr w4.heap.size) _ (run_allocA (zerosU8 64) zero122 rfl) ?_
      have k_ := Rw4.out.box 122 (zerosU8 64)
      obtain ⟨w5, hW_⟩ : ∃ W, W = w4.alloc (.cells (zerosU8 64).toArray 122) := ⟨_, rfl⟩
      obtain ⟨q3, hq_⟩ : ∃ q, q = w4.heap.size := ⟨_, rfl⟩
      rw [← hW_, ← hq_] at k_
      rw [← hW_, ← hq_]
      clear hq_
      have Rw5 : Hid (Loc w w5 [(q1, 91, zerosU8 512), (q2, 91, bcells (imTo f j)), (q3, 122, zerosU8 64)]) := k_
      clear k_ hW_ Rw4
      simp only [Act.put, aS, aC, aZ]
      refine wlS rfl rfl _ (run_storeL ag122 (.tmp 10) (.tmp 23) rfl Rw5.out 2 rfl (0) rfl (bcells s) rfl (bc64 s HSL.out) (by rw [bc64 s HSL.out, z64]; decide) (bcells_one s)).1 ?_
      have k_ := Rw5.out.lay 2 rfl (0) (bcells s)
      rw [splice64 s HSL.out] at k_ ⊢
      obtain ⟨w6, hW_⟩ : ∃ W, W = w5.setRow q3 (bcells s).toArray := ⟨_, rfl⟩
      rw [← hW_] at k_ ⊢
      have Rw6 : Hid (Loc w w6 [(q1, 91, zerosU8 512), (q2, 91, bcells (imTo f j)), (q3, 122, bcells s)]) := k_
      clear k_ hW_ Rw5
      refine wl rfl (.int .i64 0) _ (run_asZ (.tmp 24) rfl (.int .i64 0) rfl) ?_
      simp only [Act.put, aS, aC, aZ]
      refine wpList_nil ?_
      go_upto_region 6 with fail
      refine wp_region_lit ?_
      refine wl rfl (.int .i64 0) _ (run_mvZ (.tmp 11) rfl (.int .i64 0) rfl) ?_
      simp only [Act.put, aS, aC, aZ]
      refine wl rfl (.bool false) _ (run_neZ (.tmp 25) (.const (.int .i64 0)) rfl (0) (0) rfl rfl false rfl) ?_
      simp only [Act.put, aS, aC, aZ]
      refine wpList_nil ?_
      go_upto_region 8 with fail
      refine wp_region_until (S := fun X => Loc w X [(q1, 91, zerosU8 512), (q2, 91, bcells (imTo f j)), (q3, 122, bcells s)]) 4 (by kernel_rfl) ?_
      show wpAnyU _ _ _ _ _ _ 5 (Array.replicate 5 false) _ _
      obtain ⟨X, hX⟩ : ∃ X : World, X = { w6 with drawn := w6.drawn + 1 } := ⟨_, rfl⟩
      rw [← hX]
      have hS : Loc w X [(q1, 91, zerosU8 512), (q2, 91, bcells (imTo f j)), (q3, 122, bcells s)] := by rw [hX]; exact Rw6.out.drew
      clear Rw6
      clear hX
      refine takeV (i := 0) [1, 2, 4] (some 29) rfl rfl (by kernel_rfl) (by kernel_rfl) (by kernel_rfl) (by kernel_rfl) (fun _ _ _ h => h) (gRun rfl (.int .i64 (j : Nat)) fun _ h => run_mvZ (.tmp 9) rfl (.int .i64 (j : Nat)) rfl) hS ?_
      simp only [Act.put, aS, aC, aZ]
      refine takeV (i := 1) [2, 4] (some 30) rfl rfl (by kernel_rfl) (by kernel_rfl) (by kernel_rfl) (by kernel_rfl) (fun _ _ _ h => h) (gRun rfl (.int .i64 ((64 * j : Nat) : Int)) fun _ h => run_mulI (.tmp 29) (.const (.int .i64 64)) rfl (j : Nat) 64 ((64 * j : Nat) : Int) (by omega) (by omega) (by omega) rfl rfl) hS ?_
      simp only [Act.put, aS, aC, aZ]
      refine takeV (i := 2) [4] (some 31) rfl rfl (by kernel_rfl) (by kernel_rfl) (by kernel_rfl) (by kernel_rfl) (fun _ _ _ h => h) (gRun rfl (.slice (some ⟨q2, 0 + 64 * j, none⟩) (512 - 64 * j) (512 - 64 * j)) fun _ h => run_slA arr91 (.tmp 8) (some (.tmp 30)) none rfl q2 0 (64 * j) 512 rfl ⟨Or.inr rfl, Or.inl ⟨rfl, rfl⟩, by omega, by omega, by omega⟩) hS ?_
      simp only [Act.put, aS, aC, aZ]
      refine takeV (i := 3) [4] (some 32) rfl rfl (by kernel_rfl) (by kernel_rfl) (by kernel_rfl) (by kernel_rfl) (fun _ _ _ h => h) (gRun rfl (.slice (some ⟨q3, 0 + 0, none⟩) (64) (64)) fun _ h => run_slA arr122 (.tmp 10) none none rfl q3 (0) 0 64 rfl ⟨(Or.inl ⟨rfl, rfl⟩), (Or.inl ⟨rfl, rfl⟩), by omega, by omega, by omega⟩) hS ?_
      simp only [Act.put, aS, aC, aZ]
      refine oneU (i := 4) (by kernel_rfl) ?_
      refine opValueG (some 33) rfl rfl rfl (.int .i64 (64 : Nat)) _ (run_copyL (.tmp 31) (.tmp 32) rfl hS 1 rfl (0 + 64 * j) (512 - 64 * j) (512 - 64 * j) q3 0 64 64 64 rfl rfl s HSL.out (by show 64 = min 64 (512 - 64 * j); omega) (fun k hk => by rw [Nat.zero_add]; exact rows_at hS 2 rfl k _ (bat hk)) (by rw [bcells_length, HTL.out]; omega)).1 ?_
      have k_ := hS.lay 1 rfl (0 + 64 * j) (bcells s)
      rw [over_splice, Nat.zero_add, HNX.out] at k_
      rw [over_splice, Nat.zero_add, HNX.out]
      obtain ⟨w7, hW_⟩ : ∃ W, W = X.setRow q2 (bcells (imTo f (j + 1))).toArray := ⟨_, rfl⟩
      rw [← hW_] at k_ ⊢
      have Rw7 : Hid (Loc w w7 [(q1, 91, zerosU8 512), (q2, 91, bcells (imTo f (j + 1))), (q3, 122, bcells s)]) := k_
      clear k_ hW_ hS
      refine ⟨fun h => absurd (show true = false from h) (by decide), ?_⟩
      simp only [Act.put, aS, aC, aZ]
      refine wpAnyU_done (by kernel_rfl) ?_ _
      go_wp2_with fail
      refine ⟨⟨j + 1, by go_num, by omega, Rw7.out.take 2⟩, ?_⟩
      simp [intOf]; omega
    · have t1 : decide ((j : Int) < 8) = false := decide_eq_false (by omega)
      have RZ : Hid (Loc w wr [(q1, 91, zerosU8 512), (q2, 91, bcells Z)]) := by
        have ej : j = 8 := by omega
        have h1 := RL.out
        rw [ej, HZ.out] at h1
        exact h1
      have HZL : Hid (Z.length = 512) := by show _ = _; rw [← HZ.out]; exact imTo_length f HF.out 8 (Nat.le_refl _)
      clear RL
      go_upto_region 10 with fail
      refine wp_region_lit ?_
      refine wl rfl (.agg (bcells Z).toArray) _ (run_loadA ag91 (.tmp 8) rfl q2 (0) rfl (bcells Z) (bc512 Z HZL.out) (rows_all RZ.out 1 rfl)) ?_
      simp only [Act.put, aS, aC, aZ]
      refine wlS rfl rfl _ (run_storeL ag91 (.tmp 6) (.tmp 35) rfl RZ.out 0 rfl (0) rfl (bcells Z) rfl (bc512 Z HZL.out) (by rw [bc512 Z HZL.out, z512]; decide) (bcells_one Z)).1 ?_
      have k_ := RZ.out.lay 0 rfl (0) (bcells Z)
      rw [splice512 Z HZL.out] at k_ ⊢
      obtain ⟨w8, hW_⟩ : ∃ W, W = wr.setRow q1 (bcells Z).toArray := ⟨_, rfl⟩
      rw [← hW_] at k_ ⊢
      have Rw8 : Hid (Loc w w8 [(q1, 91, bcells Z), (q2, 91, bcells Z)]) := k_
      clear k_ hW_ RZ
      refine wl rfl (.int .i64 0) _ (run_asZ (.const (.int .i64 0)) rfl (.int .i64 0) rfl) ?_
      simp only [Act.put, aS, aC, aZ]
      refine wpList_nil ?_
      go_wp2_with fail
      rw [HPQ.out]
      exact bodyPost_ret (results_cell_tmp ag91 Tryd.results54 _ _ q1 91 rfl (bcells Z) (bc512 Z HZL.out) (Rw8.out.at 0 rfl)) rfl ⟨rfl, Rw8.out.below⟩
end Go.Proofs.YtkpnflgnhhfjoaaDoor

/- Layer 9: a page's image: what it is made of. Layer 9: a page's image. -/
import Derived.Test.YtkpnflgnhhfjoaaDoorZ27
namespace Go.Proofs.YtkpnflgnhhfjoaaDoor
open Go.RowKit Go.Maps
open Fr.Frame (be val)

theorem ov_app (A B C : List Nat) (n : Nat) (ha : A.length = n) : over (A ++ C) n B = (A ++ B) ++ C.drop B.length := by
  subst ha
  unfold over
  rw [List.take_append_of_le_length (Nat.le_refl _), List.take_of_length_le (Nat.le_refl _), List.append_assoc]
  congr 2
  rw [List.drop_append, List.drop_of_length_le (by omega), List.nil_append]
  congr 1
  omega
theorem rep_split (a b : Nat) : List.replicate (a + b) 0 = List.replicate a 0 ++ List.replicate b (0 : Nat) := by simp
theorem imBody_over (b : List Nat) (h : b.length ≤ 500) : over (over (List.replicate 512 0) 0 (be 2 b.length)) 2 b = imBody b ++ [0, 0, 0, 0] := by
  have e1 : over (List.replicate 512 0) 0 (be 2 b.length) = be 2 b.length ++ List.replicate 510 0 := by
    have := ov_app [] (be 2 b.length) (List.replicate 512 0) 0 rfl
    rw [List.nil_append, List.nil_append] at this
    rw [this, Fr.Frame.be_length, List.drop_replicate, show 512 - 2 = 510 from rfl]
  rw [e1, ov_app _ b _ 2 (Fr.Frame.be_length _ _)]
  unfold imBody
  rw [List.append_assoc, List.append_assoc, List.append_assoc]
  congr 2
  rw [List.drop_replicate, show 510 - b.length = (506 - b.length) + 4 by omega, rep_split]
  rfl
theorem imOf_over (b : List Nat) (h : b.length ≤ 500) : over (over (over (List.replicate 512 0) 0 (be 2 b.length)) 2 b) 508 (be 4 (Fr.Frame.crc (imBody b))) = imOf b := by
  rw [imBody_over b h, ov_app _ _ _ 508 (imBody_length (by omega))]
  unfold imOf
  rw [Fr.Frame.be_length]
  simp
theorem imBody_take (b : List Nat) (h : b.length ≤ 500) : (over (over (List.replicate 512 0) 0 (be 2 b.length)) 2 b).take 508 = imBody b := by
  have hl := imBody_length (b := b) (by omega)
  rw [imBody_over b h, List.take_append_of_le_length (by omega), List.take_of_length_le (by omega)]
/-- copy of bytes that came in, into a block of one's own -/
theorem run_copyS {w W : World} {a : Act} {o : Oper} (d s : Operand) (ho : o.op = .call { callee := .builtin .copy, args := #[d, s], argTypes := #[38, 38] }) {l : List (Nat × TypeId × List Value)} (h : Loc w W l) (i : Nat) {g T : Nat} {cur : List Value} (e : l[i]? = some (g, T, cur)) (off dLen dCap : Nat) (hd : a.eval d = .slice (some ⟨g, off, none⟩) dLen dCap) (v : Value) (c : List Nat) (hs : a.eval s = v) (hv : SliceIn W v c) (hn : c.length ≤ dLen) (hfit : off + c.length ≤ cur.length) : ∃ W', (execOp a.eval o).run Tryd.prog W = .ok (.value (.int .i64 (c.length : Nat))) W' ∧ Loc w W' (l.set i (g, T, splice cur off (bcells c))) := by
  obtain ⟨p, cap, rfl, hl, hin⟩ := hv
  rcases hin with rfl | ⟨b, so, rfl, hb⟩
  · have e2 : splice cur off (bcells []) = cur := by simp [bcells, splice]
    have e3 : l.set i (g, T, cur) = l := by
      obtain ⟨hi, he⟩ := List.getElem?_eq_some_iff.1 e
      rw [← he, List.set_getElem_self]
    refine ⟨W, ?_, by rw [e2, e3]; exact h⟩
    have hr := run_copy_none (P := Tryd.prog) W 38 38 o.type 5 (some ⟨g, off, none⟩) p dLen dCap 0 cap Tryd.underlying38 info5 (by show min 0 dLen = 0; omega)
    have hs' : a.eval s = .slice p 0 cap := hs
    simp [execOp, ho, resolve, invoke, builtin, hd, hs', hr, Result.andThen, goInt]
  · refine ⟨_, (run_copyL d s ho h i e off dLen dCap b so c.length cap c.length hd hs c rfl (by show c.length = min c.length dLen; omega) hb.1 hfit).1, h.lay i e off (bcells c)⟩
end Go.Proofs.YtkpnflgnhhfjoaaDoor

namespace Go.Proofs.YtkpnflgnhhfjoaaDoor
open Go.RowKit Go.Maps
open Fr.Frame (be val)

theorem bc512 (s : List Nat) (h : s.length = 512) : (bcells s).length = 512 := by rw [bcells_length]; exact h
theorem z512 : (zerosU8 512).length = 512 := by unfold zerosU8; exact List.length_replicate
theorem splice512 (s : List Nat) (h : s.length = 512) : splice (zerosU8 512) 0 (bcells s) = bcells s := splice_all _ _ (by rw [bc512 s h, z512])
theorem zeroI : (Tryd.prog.info? 91).map (·.zero) = some (some (.agg (bcells (List.replicate 512 0)).toArray)) := by rw [← zerosB]; exact zero91
theorem SliceIn.laterL {w W : World} {v : Value} {b : List Nat} (h : SliceIn w v b) (hb : Below w.heap.size w W) : SliceIn W v b := SliceIn.later hb h
theorem wl_copyS {w W : World} {ops : Array Oper} {rest : List Oper} {o : Oper} {a : Act} {Q : Exit → Act → World → Prop} (d s : Operand) (hgd : Region.wanted o (yielded ops a.tmps) = true) (ho : o.op = .call { callee := .builtin .copy, args := #[d, s], argTypes := #[38, 38] }) {l : List (Nat × TypeId × List Value)} (h : Loc w W l) (i : Nat) {g T : Nat} {cur : List Value} (e : l[i]? = some (g, T, cur)) (off dLen dCap : Nat) (hd : a.eval d = .slice (some ⟨g, off, none⟩) dLen dCap) (v : Value) (c : List Nat) (hs : a.eval s = v) (hv : SliceIn W v c) (hn : c.length ≤ dLen) (hfit : off + c.length ≤ cur.length)
    (hk : ∀ W', Loc w W' (l.set i (g, T, splice cur off (bcells c))) → wpList Tryd.prog ops Q rest (a.put o.dst (.int .i64 (c.length : Nat))) W') : wpList Tryd.prog ops Q (o :: rest) a W := by
  obtain ⟨W', h1, h2⟩ := run_copyS d s ho h i e off dLen dCap hd v c hs hv hn hfit
  exact wl hgd _ W' h1 (hk W' h2)
set_option maxHeartbeats 8000000 in
set_option maxRecDepth 100000 in
theorem imageOf_any (w : World) (ht : Fr.TabIn w) (v : Value) (b : List Nat) (hv : SliceIn w v b) (hb : b.length ≤ 500) : Calls Tryd.prog 43 #[v] w fun e w' => e = .returned (.agg (bcells (imOf b)).toArray) ∧ Below w.heap.size w w' := by
  obtain ⟨p, cap, rfl, _, _⟩ := id hv
  obtain ⟨n, hn⟩ : ∃ n, n = b.length := ⟨_, rfl⟩
  have hn5 : n ≤ 500 := by omega
  obtain ⟨Z, hZ⟩ : ∃ Z, Z = imOf b := ⟨_, rfl⟩
  obtain ⟨s1, hs1⟩ : ∃ s1, s1 = over (List.replicate 512 0) 0 (be 2 n) := ⟨_, rfl⟩
  obtain ⟨s2, hs2⟩ : ∃ s2, s2 = over s1 2 b := ⟨_, rfl⟩
  obtain ⟨crc, hcrc⟩ : ∃ crc, crc = Fr.Frame.crc (imBody b) := ⟨_, rfl⟩
  have l1 : s1.length = 512 := by rw [hs1, over_length _ _ _ (by rw [Fr.Frame.be_length, List.length_replicate]; decide), List.length_replicate]
  have l2 : s2.length = 512 := by rw [hs2, over_length _ _ _ (by omega)]; exact l1
  have HZ : Hid (over s2 508 (be 4 crc) = Z) := by show _ = _; rw [hs2, hs1, hcrc, hZ, hn]; exact imOf_over b hb
  have HB : Hid (s2.take 508 = imBody b) := by show _ = _; rw [hs2, hs1, hn]; exact imBody_take b hb
  have HBB : Hid (∀ c ∈ s2, c < 256) := by
    intro c hc
    rw [hs2, hs1, hn, imBody_over b hb] at hc
    rcases List.mem_append.1 hc with hc | hc
    · unfold imBody at hc
      simp only [List.mem_append] at hc
      rcases hc with hc | hc | hc
      · exact Fr.Frame.be_lt _ _ c hc
      · exact hv.lt256 c hc
      · rw [(List.mem_replicate.1 hc).2]; decide
    · simp at hc; rw [hc]; decide
  have HZL : Hid (Z.length = 512) := by show _ = _; rw [hZ]; exact imOf_length (by omega)
  have HV : Hid (SliceIn w (.slice p n cap) b) := by rw [hn]; exact hv
  have HT : Hid (Fr.TabIn w) := ht
  have H1 : Hid (s1 = over (List.replicate 512 0) 0 (be 2 n)) := hs1
  have H2 : Hid (s2 = over s1 2 b) := hs2
  have HCR : Hid (crc = Fr.Frame.crc (imBody b)) := hcrc
  have HCL : Hid (crc < 4294967296) := by show _ < _; rw [hcrc]; exact Fr.Frame.crc_lt _
  have HN : Hid (b.length = n) := hn.symm
  obtain ⟨PQ, hPQ⟩ : ∃ PQ : Ending → World → Prop, PQ = fun (e : Ending) (w' : World) => e = .returned (.agg (bcells Z).toArray) ∧ Below w.heap.size w w' := ⟨_, rfl⟩
  have HPQ : Hid (PQ = fun (e : Ending) (w' : World) => e = .returned (.agg (bcells Z).toArray) ∧ Below w.heap.size w w') := hPQ
  rw [← hZ, ← hPQ, ← hn]
  clear hZ hs1 hs2 hcrc hPQ hn hv ht hb
  have R0 : Hid (Loc w w []) := Loc.nil (Below.refl _ w)
  go_enter Tryd.func43, Tryd.ntmps43
  go_upto_region 0 with fail
  refine wp_region_lit ?_
  refine wl rfl (ptr w.heap.size) _ (run_allocA (zerosU8 512) zero91 rfl) ?_
  have k_ := R0.out.box 91 (zerosU8 512)
  obtain ⟨w1, hW_⟩ : ∃ W, W = w.alloc (.cells (zerosU8 512).toArray 91) := ⟨_, rfl⟩
  obtain ⟨q1, hq_⟩ : ∃ q, q = w.heap.size := ⟨_, rfl⟩
  rw [← hW_, ← hq_] at k_
  rw [← hW_, ← hq_]
  clear hq_
  have Rw1 : Hid (Loc w w1 [(q1, 91, zerosU8 512)]) := k_
  clear k_ hW_ R0
  simp only [Act.put, aS, aC, aZ]
  refine wpList_nil ?_
  go_upto_region 1 with fail
  refine wp_region_lit ?_
  refine wl rfl (ptr w1.heap.size) _ (run_allocA (bcells (List.replicate 512 0)) zeroI rfl) ?_
  have k_ := Rw1.out.box 91 (bcells (List.replicate 512 0))
  obtain ⟨w2, hW_⟩ : ∃ W, W = w1.alloc (.cells (bcells (List.replicate 512 0)).toArray 91) := ⟨_, rfl⟩
  obtain ⟨q2, hq_⟩ : ∃ q, q = w1.heap.size := ⟨_, rfl⟩
  rw [← hW_, ← hq_] at k_
  rw [← hW_, ← hq_]
  clear hq_
  have Rw2 : Hid (Loc w w2 [(q1, 91, zerosU8 512), (q2, 91, bcells (List.replicate 512 0))]) := k_
  clear k_ hW_ Rw1
  simp only [Act.put, aS, aC, aZ]
  refine wpList_nil ?_
  go_upto_region 2 with fail
  refine wp_region_lit ?_
  refine wl rfl (.slice (some ⟨q2, 0 + 0, none⟩) (2) (512)) _ (run_slA arr91 (.tmp 3) (some (.const (.int .i64 0))) (some (.const (.int .i64 2))) rfl q2 (0) 0 2 rfl ⟨(Or.inr rfl), (Or.inr rfl), by omega, by omega, by omega⟩) ?_
  simp only [Act.put, aS, aC, aZ]
  refine wl rfl (.slice p n cap) _ (run_mvZ (.tmp 0) rfl (.slice p n cap) rfl) ?_
  simp only [Act.put, aS, aC, aZ]
  refine wl rfl (.int .i64 (n : Nat)) _ (run_lenZ sl38 (.tmp 5) rfl p n cap rfl) ?_
  simp only [Act.put, aS, aC, aZ]
  refine wl rfl (.int .u64 (n : Nat)) _ (run_i64u64 (.tmp 6) rfl n (by omega) rfl) ?_
  simp only [Act.put, aS, aC, aZ]
  refine wpList_callW eN71 [.tmp 4, .tmp 7] _ rfl rfl [(.slice (some ⟨q2, 0 + 0, none⟩) (2) (512)), (.int .u64 (n : Nat))] rfl ?_
  refine (layNum_any Rw2.out 1 rfl 0 2 _ n (by simp) (by decide)).mono ?_
  rintro e w3 ⟨rfl, k2⟩
  refine ⟨_, rfl, ?_⟩
  rw [← H1.out] at k2
  have Rw3 : Hid (Loc w w3 [(q1, 91, zerosU8 512), (q2, 91, bcells s1)]) := k2
  clear k2 Rw2
  simp only [Act.put, aS, aC, aZ]
  refine wpList_nil ?_
  go_upto_region 3 with fail
  refine wp_region_lit ?_
  refine wl rfl (.slice (some ⟨q2, 0 + 2, none⟩) (510) (510)) _ (run_slA arr91 (.tmp 3) (some (.const (.int .i64 2))) none rfl q2 (0) 2 512 rfl ⟨(Or.inr rfl), (Or.inl ⟨rfl, rfl⟩), by omega, by omega, by omega⟩) ?_
  simp only [Act.put, aS, aC, aZ]
  refine wl rfl (.slice p n cap) _ (run_mvZ (.tmp 0) rfl (.slice p n cap) rfl) ?_
  simp only [Act.put, aS, aC, aZ]
  refine wl_copyS (.tmp 9) (.tmp 10) rfl rfl Rw3.out 1 rfl 2 510 510 rfl (.slice p n cap) b rfl (HV.out.laterL Rw3.out.below) (by rw [HN.out]; omega) (by rw [bcells_length, l1, HN.out]; omega) ?_
  intro w4 k4
  rw [over_splice, ← H2.out] at k4
  have Rw4 : Hid (Loc w w4 [(q1, 91, zerosU8 512), (q2, 91, bcells s2)]) := k4
  clear k4 Rw3
  rw [HN.out]
  simp only [Act.put, aS, aC, aZ]
  refine wpList_nil ?_
  go_upto_region 4 with fail
  refine wp_region_until (S := fun X => Loc w X [(q1, 91, zerosU8 512), (q2, 91, bcells s2)]) 4 (by kernel_rfl) ?_
  show wpAnyU _ _ _ _ _ _ 5 (Array.replicate 5 false) _ _
  obtain ⟨X, hX⟩ : ∃ X : World, X = { w4 with drawn := w4.drawn + 1 } := ⟨_, rfl⟩
  rw [← hX]
  have hS : Loc w X [(q1, 91, zerosU8 512), (q2, 91, bcells s2)] := by rw [hX]; exact Rw4.out.drew
  clear Rw4
  clear hX
  refine takeV (i := 0) [4] (some 12) rfl rfl (by kernel_rfl) (by kernel_rfl) (by kernel_rfl) (by kernel_rfl) (fun _ _ _ h => h) (gRun rfl (.slice (some ⟨q2, 0 + 508, none⟩) (4) (4)) fun _ h => run_slA arr91 (.tmp 3) (some (.const (.int .i64 508))) none rfl q2 (0) 508 512 rfl ⟨(Or.inr rfl), (Or.inl ⟨rfl, rfl⟩), by omega, by omega, by omega⟩) hS ?_
  simp only [Act.put, aS, aC, aZ]
  refine takeV (i := 1) [2, 4] (some 13) rfl rfl (by kernel_rfl) (by kernel_rfl) (by kernel_rfl) (by kernel_rfl) (fun _ _ _ h => h) (gRun rfl (.slice (some ⟨q2, 0 + 0, none⟩) (508) (512)) fun _ h => run_slA arr91 (.tmp 3) none (some (.const (.int .i64 508))) rfl q2 (0) 0 508 rfl ⟨(Or.inl ⟨rfl, rfl⟩), (Or.inr rfl), by omega, by omega, by omega⟩) hS ?_
  simp only [Act.put, aS, aC, aZ]
  refine oneU (i := 2) (by kernel_rfl) ?_
  refine opCallG (some 14) rfl rfl rfl 72 _ (run_call eN72 [.tmp 13] _ rfl [(.slice (some ⟨q2, 0 + 0, none⟩) (508) (512))] rfl) ?_
  refine (crc_at (k := 508) (cap := 512) (Fr.TabIn.later hS.below HT.out) (hS.at 1 rfl) HBB.out (by omega) (by decide) (by decide)).mono ?_
  rintro e w8 ⟨rfl, e8⟩
  subst e8
  refine ⟨_, rfl, ?_⟩
  rw [HB.out, ← HCR.out]
  refine ⟨fun _ => hS, ?_⟩
  simp only [Act.put, aS, aC, aZ]
  refine takeV (i := 3) [4] (some 15) rfl rfl (by kernel_rfl) (by kernel_rfl) (by kernel_rfl) (by kernel_rfl) (fun _ _ _ h => h) (gRun rfl (.int .u64 (crc : Nat)) fun _ h => run_u32u64 (.tmp 14) rfl crc HCL.out rfl) hS ?_
  simp only [Act.put, aS, aC, aZ]
  refine oneU (i := 4) (by kernel_rfl) ?_
  refine opCallG (some 16) rfl rfl rfl 71 _ (run_call eN71 [.tmp 12, .tmp 15] _ rfl [(.slice (some ⟨q2, 0 + 508, none⟩) (4) (4)), (.int .u64 (crc : Nat))] rfl) ?_
  refine (layNum_any hS 1 rfl 508 4 _ crc (by omega) (by decide)).mono ?_
  rintro e w9 ⟨rfl, k2⟩
  refine ⟨_, rfl, ?_⟩
  rw [HZ.out] at k2
  have Rw9 : Hid (Loc w w9 [(q1, 91, zerosU8 512), (q2, 91, bcells Z)]) := k2
  clear k2 hS
  refine ⟨fun h => absurd (show true = false from h) (by decide), ?_⟩
  simp only [Act.put, aS, aC, aZ]
  refine wpAnyU_done (by kernel_rfl) ?_ _
  go_upto_region 5 with fail
  refine wp_region_lit ?_
  refine wl rfl (.agg (bcells Z).toArray) _ (run_loadA ag91 (.tmp 3) rfl q2 (0) rfl (bcells Z) (bc512 Z HZL.out) (rows_all Rw9.out 1 rfl)) ?_
  simp only [Act.put, aS, aC, aZ]
  refine wlS rfl rfl _ (run_storeL ag91 (.tmp 2) (.tmp 17) rfl Rw9.out 0 rfl (0) rfl (bcells Z) rfl (bc512 Z HZL.out) (by rw [bc512 Z HZL.out, z512]; decide) (bcells_one Z)).1 ?_
  have k_ := Rw9.out.lay 0 rfl (0) (bcells Z)
  rw [splice512 Z HZL.out] at k_ ⊢
  obtain ⟨wa, hW_⟩ : ∃ W, W = w9.setRow q1 (bcells Z).toArray := ⟨_, rfl⟩
  rw [← hW_] at k_ ⊢
  have Rwa : Hid (Loc w wa [(q1, 91, bcells Z), (q2, 91, bcells Z)]) := k_
  clear k_ hW_ Rw9
  refine wpList_nil ?_
  go_wp2_with fail
  rw [HPQ.out]
  exact bodyPost_ret (results_cell ag91 Tryd.results43 _ _ q1 91 rfl (bcells Z) (bc512 Z HZL.out) (Rwa.out.at 0 rfl)) rfl ⟨rfl, Rwa.out.below⟩
end Go.Proofs.YtkpnflgnhhfjoaaDoor

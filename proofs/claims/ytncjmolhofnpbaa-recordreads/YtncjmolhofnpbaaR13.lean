/- Read. -/
import Derived.Test.YtncjmolhofnpbaaR12
namespace Go.Proofs.Ytncjmolhofnpbaa
open Go.RowKit

theorem zero9 : (Try.prog.info? 9).map (·.zero) = some (some (str [])) := by kernel_rfl
theorem zero3 : (Try.prog.info? 3).map (·.zero) = some (some (.int .i64 0)) := by kernel_rfl
theorem zero23b : (Try.prog.info? 23).map (·.zero) = some (some (.agg (bcells (List.replicate 32 0)).toArray)) := by kernel_rfl
theorem run_alloc1 {w : World} {a : Act} {o : Oper} {t : Nat} (z : Value) (hz : (Try.prog.info? t).map (·.zero) = some (some z)) (h1 : z.cells = #[z]) (ho : o.op = .alloc t) : (execOp a.eval o).run Try.prog w = .ok (.value (ptr w.heap.size)) (w.alloc (.cells [z].toArray t)) := by
  obtain ⟨i, hi, hz⟩ := Option.map_eq_some_iff.1 hz
  simp [execOp, ho, Instr.alloc, zeroValue, typeInfo, hi, hz, newVar, newRow, h1]
/-- one of the three -/
def C3 (qa qb qc i : Nat) : Prop := i = qa ∨ i = qb ∨ i = qc
/-- what Read's reading leaves behind -/
def ER (w : World) (qa qb qc : Nat) (b : List Nat) : Option (List Nat) → World → Prop
  | none, W => rdE b = none ∧ Ch (C3 qa qb qc) w W ∧ Row W qa 9 [str []] ∧ Row W qb 3 [.int .i64 0] ∧ Row W qc 23 (bcells (List.replicate 32 0))
  | some l', W => Ch (C3 qa qb qc) w W ∧ ∃ id n root, rdE b = some ((id, n, root), l') ∧ Row W qa 9 [str id] ∧ Row W qb 3 [.int .i64 (n : Nat)] ∧ Row W qc 23 (bcells root) ∧ (∀ c ∈ id, c < 256) ∧ (∀ c ∈ root, c < 256) ∧ root.length = 32
theorem ER.keep {w : World} {qa qb qc : Nat} {b : List Nat} (ha : qa < w.heap.size) (hb : qb < w.heap.size) (hc : qc < w.heap.size) (o : Option (List Nat)) (W W' : World) (q : Nat) (cs : List Value) (h : ER w qa qb qc b o W) (_hr : Row W q 4 cs) (hqq : w.heap.size ≤ q) (hch : Ch (· = q) W W') : ER w qa qb qc b o W' := by
  cases o with
  | none => exact ⟨h.1, h.2.1.trans' hch fun i hi e => absurd e (by omega), hch.row (by omega) h.2.2.1, hch.row (by omega) h.2.2.2.1, hch.row (by omega) h.2.2.2.2⟩
  | some l' =>
    obtain ⟨h0, id, n, root, h1, h2, h3, h4, h5⟩ := h
    exact ⟨h0.trans' hch fun i hi e => absurd e (by omega), id, n, root, h1, hch.row (by omega) h2, hch.row (by omega) h3, hch.row (by omega) h4, h5⟩
set_option maxHeartbeats 1000000 in
theorem read1_any (w : World) (qa qb qc : Nat) (b : List Nat) (ra : Row w qa 9 [str []]) (rb : Row w qb 3 [.int .i64 0]) (rc : Row w qc 23 (bcells (List.replicate 32 0))) (hne : qa ≠ qb ∧ qa ≠ qc ∧ qb ≠ qc) (W : World) (g : Nat) (hb : Below w.heap.size w W) (hg : w.heap.size ≤ g) (hr : RdAt W g b) :
    Calls Try.prog 31 (ptr g :: [ptr qa, ptr qb, ptr qc]).toArray W fun e W' => (∀ i, w.heap.size ≤ i → i < g → W'.heap[i]? = W.heap[i]?) ∧ ((e = .panicked GU ∧ ER w qa qb qc b none W') ∨ (∃ l', e = .returned (.tuple #[]) ∧ LenAt W' g l'.length ∧ ER w qa qb qc b (some l') W')) := by
  have la := ra.lt
  have lb := rb.lt
  have lc := rc.lt
  have HH : Hid ((Row W qa 9 [str []] ∧ Row W qb 3 [.int .i64 0] ∧ Row W qc 23 (bcells (List.replicate 32 0))) ∧ Below w.heap.size w W ∧ RdAt W g b ∧ (qa ≠ qb ∧ qa ≠ qc ∧ qb ≠ qc)) := ⟨⟨ra.later hb la, rb.later hb lb, rc.later hb lc⟩, hb, hr, hne⟩
  clear ra rb rc hne hr hb
  obtain ⟨PQ, HPQ⟩ : ∃ PQ : Ending → World → Prop, Hid (PQ = fun e W' => (∀ i, w.heap.size ≤ i → i < g → W'.heap[i]? = W.heap[i]?) ∧ ((e = .panicked GU ∧ ER w qa qb qc b none W') ∨ (∃ l', e = .returned (.tuple #[]) ∧ LenAt W' g l'.length ∧ ER w qa qb qc b (some l') W'))) := ⟨_, rfl⟩
  rw [← HPQ.out]
  go_enter Try.func31, Try.ntmps31
  go_upto_region 0 with fail
  refine wp_region_lit ?_
  refine wl rfl (ptr g) _ (run_mvZ (.tmp 0) rfl (ptr g) rfl) ?_
  simp only [Act.put, List.setIfInBounds_toArray, List.set_cons_succ, List.set_cons_zero]
  refine wpList_callP eN32 [.tmp 6] _ rfl rfl [(ptr g)] rfl ?_
  refine (entry_any g b W HH.out.2.2.1).mono ?_
  rintro e v0x ⟨hc, ⟨hno, rfl⟩ | ⟨id, n, root, l', hso, rfl, r1, b1, b2⟩⟩
  · refine Or.inr ⟨_, rfl, ?_⟩
    refine ⟨rfl, ?_⟩
    rw [HPQ.out]
    have hG := HH.out.2.2.1.lt
    exact ⟨fun i h1 h2 => hc.one i (by omega) (by omega), Or.inl ⟨rfl, hno, (Ch.of_below HH.out.2.1).trans' hc (fun i hi e => by omega), hc.row (by omega) HH.out.1.1, hc.row (by omega) HH.out.1.2.1, hc.row (by omega) HH.out.1.2.2⟩⟩
  refine Or.inl ⟨_, rfl, ?_⟩
  have HE : Hid (rdE b = some ((id, n, root), l') ∧ (∀ c ∈ id, c < 256) ∧ (∀ c ∈ root, c < 256) ∧ root.length = 32) := (by
    obtain ⟨v, q1, q2'⟩ := HH.out.2.2.1
    exact ⟨hso, b1, b2, (rdE_some (SliceIn.lt256 q2'.1) hso).2.2⟩)
  have H0 : Hid (Row v0x qa 9 [str []] ∧ Row v0x qb 3 [.int .i64 0] ∧ Row v0x qc 23 (bcells (List.replicate 32 0)) ∧ Ch (C3 qa qb qc) w v0x ∧ LenAt v0x g l'.length ∧ (∀ i, w.heap.size ≤ i → i < g → v0x.heap[i]? = W.heap[i]?) ∧ g < v0x.heap.size) := (by
    have hG := HH.out.2.2.1.lt
    exact ⟨hc.row (by omega) HH.out.1.1, hc.row (by omega) HH.out.1.2.1, hc.row (by omega) HH.out.1.2.2, (Ch.of_below HH.out.2.1).trans' hc (fun i hi e => by omega), r1.len, fun i h1 h2 => hc.one i (by omega) (by omega), r1.lt⟩)
  clear hc hso r1 b1 b2
  simp only [Act.put, List.setIfInBounds_toArray, List.set_cons_succ, List.set_cons_zero]
  refine wl rfl (.tuple #[(str id), (.int .i64 (n : Nat)), (.agg (bcells root).toArray)]) _ (run_mvZ (.tmp 7) rfl (.tuple #[(str id), (.int .i64 (n : Nat)), (.agg (bcells root).toArray)]) rfl) ?_
  simp only [Act.put, List.setIfInBounds_toArray, List.set_cons_succ, List.set_cons_zero]
  refine wl rfl (str id) _ (run_extZ (.tmp 5) 0 rfl #[(str id), (.int .i64 (n : Nat)), (.agg (bcells root).toArray)] rfl (str id) rfl) ?_
  simp only [Act.put, List.setIfInBounds_toArray, List.set_cons_succ, List.set_cons_zero]
  refine wl rfl (.int .i64 (n : Nat)) _ (run_extZ (.tmp 5) 1 rfl #[(str id), (.int .i64 (n : Nat)), (.agg (bcells root).toArray)] rfl (.int .i64 (n : Nat)) rfl) ?_
  simp only [Act.put, List.setIfInBounds_toArray, List.set_cons_succ, List.set_cons_zero]
  refine wl rfl (.agg (bcells root).toArray) _ (run_extZ (.tmp 5) 2 rfl #[(str id), (.int .i64 (n : Nat)), (.agg (bcells root).toArray)] rfl (.agg (bcells root).toArray) rfl) ?_
  simp only [Act.put, List.setIfInBounds_toArray, List.set_cons_succ, List.set_cons_zero]
  refine wl_put (t := 9) (by kernel_rfl) (.tmp 1) (.tmp 8) rfl rfl rfl qa 0 9 [str []] rfl (str id) rfl ⟨rfl, rfl⟩ H0.out.1 (by simp) ?_
  obtain ⟨v1x, hw⟩ : ∃ W, W = v0x.setCell ⟨qa, 0, none⟩ (str id) := ⟨_, rfl⟩
  have H1 : Hid (Row v1x qa 9 ([str id]) ∧ Row v1x qb 3 ([.int .i64 0]) ∧ Row v1x qc 23 (bcells (List.replicate 32 0)) ∧ Ch (C3 qa qb qc) w v1x ∧ LenAt v1x g l'.length ∧ (∀ i, w.heap.size ≤ i → i < g → v1x.heap[i]? = W.heap[i]?) ∧ g < v1x.heap.size) := (by
    have hc1 : Ch (· = qa) v0x v1x := hw ▸ (Ch.refl (· = qa) v0x).setCell (g := qa) (Or.inl rfl) 0 _
    have hc3 : Ch (C3 qa qb qc) v0x v1x := hc1.mono (fun i _ e => by unfold C3; omega)
    exact ⟨hw ▸ row_cell' (i := 0) H0.out.1 (str id), (hc1.row (by have := HH.out.2.2.2; omega) H0.out.2.1), (hc1.row (by have := HH.out.2.2.2; omega) H0.out.2.2.1), H0.out.2.2.2.1.trans hc3, H0.out.2.2.2.2.1.ch hc1 (by omega), fun i h1 h2 => (hc1.one i (by have := H0.out.2.2.2.2.2.2; omega) (by omega)).trans (H0.out.2.2.2.2.2.1 i h1 h2), Nat.lt_of_lt_of_le H0.out.2.2.2.2.2.2 hc1.size⟩)
  rw [← hw]
  clear hw H0
  refine wl_put (t := 3) (by kernel_rfl) (.tmp 2) (.tmp 9) rfl rfl rfl qb 0 3 [.int .i64 0] rfl (.int .i64 (n : Nat)) rfl ⟨rfl, rfl⟩ H1.out.2.1 (by simp) ?_
  obtain ⟨v2x, hw⟩ : ∃ W, W = v1x.setCell ⟨qb, 0, none⟩ (.int .i64 (n : Nat)) := ⟨_, rfl⟩
  have H2 : Hid (Row v2x qa 9 ([str id]) ∧ Row v2x qb 3 ([.int .i64 (n : Nat)]) ∧ Row v2x qc 23 (bcells (List.replicate 32 0)) ∧ Ch (C3 qa qb qc) w v2x ∧ LenAt v2x g l'.length ∧ (∀ i, w.heap.size ≤ i → i < g → v2x.heap[i]? = W.heap[i]?) ∧ g < v2x.heap.size) := (by
    have hc1 : Ch (· = qb) v1x v2x := hw ▸ (Ch.refl (· = qb) v1x).setCell (g := qb) (Or.inl rfl) 0 _
    have hc3 : Ch (C3 qa qb qc) v1x v2x := hc1.mono (fun i _ e => by unfold C3; omega)
    exact ⟨(hc1.row (by have := HH.out.2.2.2; omega) H1.out.1), hw ▸ row_cell' (i := 0) H1.out.2.1 (.int .i64 (n : Nat)), (hc1.row (by have := HH.out.2.2.2; omega) H1.out.2.2.1), H1.out.2.2.2.1.trans hc3, H1.out.2.2.2.2.1.ch hc1 (by omega), fun i h1 h2 => (hc1.one i (by have := H1.out.2.2.2.2.2.2; omega) (by omega)).trans (H1.out.2.2.2.2.2.1 i h1 h2), Nat.lt_of_lt_of_le H1.out.2.2.2.2.2.2 hc1.size⟩)
  rw [← hw]
  clear hw H1
  have hst := run_storeVar ag23 v2x qc 0 23 (bcells (List.replicate 32 0)) (bcells root) (bc32 HE.out.2.2.2) H2.out.2.2.1 (by rw [bc32 HE.out.2.2.2]; simp [bcells_length]) (bcells_one _)
  rw [splice32 _ root (by simp [bcells_length]) HE.out.2.2.2] at hst
  refine wlS rfl rfl _ (run_stV (.tmp 3) (.tmp 10) rfl qc 0 rfl _ rfl hst) ?_
  clear hst
  obtain ⟨v3x, hw⟩ : ∃ W, W = v2x.setRow qc (bcells root).toArray := ⟨_, rfl⟩
  have H3 : Hid (Row v3x qa 9 ([str id]) ∧ Row v3x qb 3 ([.int .i64 (n : Nat)]) ∧ Row v3x qc 23 (bcells root) ∧ Ch (C3 qa qb qc) w v3x ∧ LenAt v3x g l'.length ∧ (∀ i, w.heap.size ≤ i → i < g → v3x.heap[i]? = W.heap[i]?) ∧ g < v3x.heap.size) := (by
    have hc1 : Ch (· = qc) v2x v3x := hw ▸ (Ch.refl (· = qc) v2x).setRow (g := qc) (Or.inl rfl) _
    have hc3 : Ch (C3 qa qb qc) v2x v3x := hc1.mono (fun i _ e => by unfold C3; omega)
    exact ⟨(hc1.row (by have := HH.out.2.2.2; omega) H2.out.1), (hc1.row (by have := HH.out.2.2.2; omega) H2.out.2.1), hw ▸ H2.out.2.2.1.setRow (bcells root), H2.out.2.2.2.1.trans hc3, H2.out.2.2.2.2.1.ch hc1 (by omega), fun i h1 h2 => (hc1.one i (by have := H2.out.2.2.2.2.2.2; omega) (by omega)).trans (H2.out.2.2.2.2.2.1 i h1 h2), Nat.lt_of_lt_of_le H2.out.2.2.2.2.2.2 hc1.size⟩)
  rw [← hw]
  clear hw H2
  refine wpList_nil ?_
  go_wp2_with fail
  first | go_end0 | skip
  rw [HPQ.out]
  exact ⟨H3.out.2.2.2.2.2.1, Or.inr ⟨l', rfl, H3.out.2.2.2.2.1, H3.out.2.2.2.1, id, n, root, HE.out.1, H3.out.1, H3.out.2.1, H3.out.2.2.1, HE.out.2⟩⟩
/-- what Read tells -/
def ReadS (w w' : World) (b id root : List Nat) (n : Nat) (er : Int) : Prop :=
  (∀ c ∈ id, c < 256) ∧ (∀ c ∈ root, c < 256) ∧ root.length = 32 ∧ Below w.heap.size w w' ∧ ((decE b = none ∧ id = [] ∧ n = 0 ∧ root = List.replicate 32 0 ∧ er = 110) ∨ (decE b = some (id, n, root) ∧ er = 0))
theorem results_ccct {fn : Func} {p q u x : Tmp} (h : fn.results = #[.cell p 9, .cell q 3, .cell u 23, .tmp x]) (tmps : Array Value) (w : World) (ga gb gc : Nat) (a b d : Value) (hp : tmps.getD p undef = ptr ga) (hq : tmps.getD q undef = ptr gb) (hu : tmps.getD u undef = ptr gc) (hx : tmps.getD x undef = d) (ra : Row w ga 9 [a]) (rb : Row w gb 3 [b]) (cs : List Value) (hn : cs.length = 32) (rc : Row w gc 23 cs) :
    (results fn tmps).run Try.prog w = .ok (.tuple #[a, b, .agg cs.toArray, d]) w := by
  have hl := run_loadVar ag23 w gc 0 cs hn (fun j v hv => by rw [Nat.zero_add]; exact rc.at j v hv)
  have h9 := o9 w ga 0 a (ra.at 0 _ rfl)
  have h3 := o3 w gb 0 b (rb.at 0 _ rfl)
  have hp' : tmps[p]?.getD undef = ptr ga := by simpa using hp
  have hq' : tmps[q]?.getD undef = ptr gb := by simpa using hq
  have hu' : tmps[u]?.getD undef = ptr gc := by simpa using hu
  have hx' : tmps[x]?.getD undef = d := by simpa using hx
  simp [results, h, hp', hq', hu', hx', ptr, asAddr, hl, h9, h3]
set_option maxHeartbeats 1000000 in
theorem read_any (v : Value) (b : List Nat) (w : World) (hin : SliceIn w v b) : Calls Try.prog 18 #[v] w fun e w' => ∃ id n root er, e = .returned (.tuple #[str id, .int .i64 (n : Nat), .agg (bcells root).toArray, .int .i64 er]) ∧ ReadS w w' b id root n er := by
  have HI : Hid (SliceIn w v b) := hin
  clear hin
  obtain ⟨PQ, HPQ⟩ : ∃ PQ : Ending → World → Prop, Hid (PQ = fun e w' => ∃ id n root er, e = .returned (.tuple #[str id, .int .i64 (n : Nat), .agg (bcells root).toArray, .int .i64 er]) ∧ ReadS w w' b id root n er) := ⟨_, rfl⟩
  rw [← HPQ.out]
  have R0 : Hid (Loc w w []) := Loc.nil (Below.refl _ w)
  go_enter Try.func18, Try.ntmps18
  go_upto_region 0 with fail
  refine wp_region_lit ?_
  refine wl rfl (ptr w.heap.size) _ (run_alloc1 (str []) zero9 rfl rfl) ?_
  have k_ := R0.out.box 9 [(str [])]
  obtain ⟨w1, hW_⟩ : ∃ W, W = w.alloc (.cells [(str [])].toArray 9) := ⟨_, rfl⟩
  obtain ⟨qa, hq_⟩ : ∃ q, q = w.heap.size := ⟨_, rfl⟩
  rw [← hW_, ← hq_] at k_
  rw [← hW_, ← hq_]
  clear hq_
  have Rw1 : Hid (Loc w w1 [(qa, 9, [(str [])])]) := k_
  clear k_ hW_ R0
  simp only [Act.put, List.setIfInBounds_toArray, List.set_cons_succ, List.set_cons_zero]
  refine wl rfl (ptr w1.heap.size) _ (run_alloc1 (.int .i64 0) zero3 rfl rfl) ?_
  have k_ := Rw1.out.box 3 [(.int .i64 0)]
  obtain ⟨w2, hW_⟩ : ∃ W, W = w1.alloc (.cells [(.int .i64 0)].toArray 3) := ⟨_, rfl⟩
  obtain ⟨qb, hq_⟩ : ∃ q, q = w1.heap.size := ⟨_, rfl⟩
  rw [← hW_, ← hq_] at k_
  rw [← hW_, ← hq_]
  clear hq_
  have Rw2 : Hid (Loc w w2 [(qa, 9, [(str [])]), (qb, 3, [(.int .i64 0)])]) := k_
  clear k_ hW_ Rw1
  simp only [Act.put, List.setIfInBounds_toArray, List.set_cons_succ, List.set_cons_zero]
  refine wl rfl (ptr w2.heap.size) _ (run_allocA (bcells (List.replicate 32 0)) zero23b rfl) ?_
  have k_ := Rw2.out.box 23 (bcells (List.replicate 32 0))
  obtain ⟨w3, hW_⟩ : ∃ W, W = w2.alloc (.cells (bcells (List.replicate 32 0)).toArray 23) := ⟨_, rfl⟩
  obtain ⟨qc, hq_⟩ : ∃ q, q = w2.heap.size := ⟨_, rfl⟩
  rw [← hW_, ← hq_] at k_
  rw [← hW_, ← hq_]
  clear hq_
  have Rw3 : Hid (Loc w w3 [(qa, 9, [(str [])]), (qb, 3, [(.int .i64 0)]), (qc, 23, bcells (List.replicate 32 0))]) := k_
  clear k_ hW_ Rw2
  simp only [Act.put, List.setIfInBounds_toArray, List.set_cons_succ, List.set_cons_zero]
  refine wl rfl (.int .i64 0) _ (run_asZ (.const (.int .i64 0)) rfl (.int .i64 0) rfl) ?_
  simp only [Act.put, List.setIfInBounds_toArray, List.set_cons_succ, List.set_cons_zero]
  refine wpList_nil ?_
  go_upto_region 1 with fail
  refine wp_region_lit ?_
  refine wl rfl v _ (run_mvZ (.tmp 0) rfl v rfl) ?_
  simp only [Act.put, List.setIfInBounds_toArray, List.set_cons_succ, List.set_cons_zero]
  refine wl rfl (.func (.func 31) #[] [(ptr qa), (ptr qb), (ptr qc)].toArray) _ (run_mkF3 31 (.tmp 2) (.tmp 3) (.tmp 4) rfl (ptr qa) (ptr qb) (ptr qc) rfl rfl rfl) ?_
  simp only [Act.put, List.setIfInBounds_toArray, List.set_cons_succ, List.set_cons_zero]
  refine wpList_callW eN27 [.tmp 6, .tmp 7] _ rfl rfl [v, (.func (.func 31) #[] [(ptr qa), (ptr qb), (ptr qc)].toArray)] rfl ?_
  refine (readsAll_any 31 eN31 [ptr qa, ptr qb, ptr qc] v b w3 (HI.out.later Rw3.out.below) (ER w3 qa qb qc b) (ER.keep (Rw3.out.at 0 rfl).lt (Rw3.out.at 1 rfl).lt (Rw3.out.at 2 rfl).lt) (fun W g h1 h2 h3 => read1_any w3 qa qb qc b (Rw3.out.at 0 rfl) (Rw3.out.at 1 rfl) (Rw3.out.at 2 rfl) ⟨Rw3.out.ne 0 1 _ _ rfl rfl (by decide), Rw3.out.ne 0 2 _ _ rfl rfl (by decide), Rw3.out.ne 1 2 _ _ rfl rfl (by decide)⟩ W g h1 h2 h3)).mono ?_
  rintro e w4 ⟨od, hd, rfl⟩
  refine ⟨_, rfl, ?_⟩
  obtain ⟨ok, hok⟩ : ∃ ok, ok = doneB od := ⟨_, rfl⟩
  rw [← hok]
  have HD : Hid (ER w3 qa qb qc b od w4 ∧ ok = doneB od) := ⟨hd, hok⟩
  clear hd hok
  simp only [Act.put, List.setIfInBounds_toArray, List.set_cons_succ, List.set_cons_zero]
  refine wl rfl (.bool (!ok)) _ (run_not (.tmp 8) 4 rfl ok rfl) ?_
  simp only [Act.put, List.setIfInBounds_toArray, List.set_cons_succ, List.set_cons_zero]
  refine wpList_nil ?_
  have HN : Hid (qa ≠ qb ∧ qa ≠ qc ∧ qb ≠ qc ∧ w.heap.size ≤ qa ∧ w.heap.size ≤ qb ∧ w.heap.size ≤ qc) := ⟨Rw3.out.ne 0 1 _ _ rfl rfl (by decide), Rw3.out.ne 0 2 _ _ rfl rfl (by decide), Rw3.out.ne 1 2 _ _ rfl rfl (by decide), Rw3.out.ge 0 rfl, Rw3.out.ge 1 rfl, Rw3.out.ge 2 rfl⟩
  obtain ⟨xa, xb, xc, HX⟩ : ∃ (xa : List Nat) (xb : Nat) (xc : List Nat), Hid (Loc w w4 [(qa, 9, [str xa]), (qb, 3, [.int .i64 (xb : Nat)]), (qc, 23, bcells xc)] ∧ xc.length = 32 ∧ (∀ c ∈ xa, c < 256) ∧ (∀ c ∈ xc, c < 256) ∧ ((ok = false ∧ decE b = none) ∨ (ok = true ∧ decE b = some (xa, xb, xc)))) := (by
    have mk : ∀ (xa : List Nat) (xb : Nat) (xc : List Nat), Ch (C3 qa qb qc) w3 w4 → Row w4 qa 9 [str xa] → Row w4 qb 3 [.int .i64 (xb : Nat)] → Row w4 qc 23 (bcells xc) → Loc w w4 [(qa, 9, [str xa]), (qb, 3, [.int .i64 (xb : Nat)]), (qc, 23, bcells xc)] := fun xa xb xc hc h1 h2 h3 => by
      have hn := HN.out
      refine ⟨Rw3.out.below.trans (hc.below Rw3.out.below.size (fun i hi e => by unfold C3 at e; omega)), fun i g T cs e => ?_, fun i j x y e1 e2 hij => ?_⟩
      · match i, e with
        | 0, e => cases e; exact ⟨h1, hn.2.2.2.1⟩
        | 1, e => cases e; exact ⟨h2, hn.2.2.2.2.1⟩
        | 2, e => cases e; exact ⟨h3, hn.2.2.2.2.2⟩
        | i + 3, e => simp at e
      · match i, j, e1, e2 with
        | 0, 0, _, _ => exact absurd rfl hij
        | 0, 1, e1, e2 => cases e1; cases e2; exact hn.1
        | 0, 2, e1, e2 => cases e1; cases e2; exact hn.2.1
        | 1, 0, e1, e2 => cases e1; cases e2; exact fun e => hn.1 e.symm
        | 1, 1, _, _ => exact absurd rfl hij
        | 1, 2, e1, e2 => cases e1; cases e2; exact hn.2.2.1
        | 2, 0, e1, e2 => cases e1; cases e2; exact fun e => hn.2.1 e.symm
        | 2, 1, e1, e2 => cases e1; cases e2; exact fun e => hn.2.2.1 e.symm
        | 2, 2, _, _ => exact absurd rfl hij
        | i + 3, _, e1, _ => simp at e1
        | 0, j + 3, _, e2 => simp at e2
        | 1, j + 3, _, e2 => simp at e2
        | 2, j + 3, _, e2 => simp at e2
    have h := HD.out
    cases od with
    | none =>
      obtain ⟨h1, h2, h3, h4, h5⟩ := h.1
      exact ⟨[], 0, List.replicate 32 0, mk _ _ _ h2 h3 h4 h5, by simp, by simp, by intro c hc; rw [List.eq_of_mem_replicate hc]; decide, Or.inl ⟨h.2, by unfold decE; rw [h1]; rfl⟩⟩
    | some l =>
      obtain ⟨h2, id, n, root, h1, h3, h4, h5, h6, h7, h8⟩ := h.1
      refine ⟨id, n, root, mk _ _ _ h2 h3 h4 h5, h8, h6, h7, ?_⟩
      have h9 := h.2
      by_cases hl : l.length = 0
      · exact Or.inr ⟨by rw [h9]; simp [doneB, hl], by unfold decE; rw [h1, Option.bind_some, if_pos hl]⟩
      · exact Or.inl ⟨by rw [h9]; simp [doneB]; simpa using hl, by unfold decE; rw [h1, Option.bind_some, if_neg hl]⟩)
  clear HD Rw3
  cases ok with
  | false =>
    have HM : Hid (decE b = none ∧ xc.length = 32) := ⟨(by rcases HX.out.2.2.2.2 with h | h; exact h.2; exact absurd h.1 (by decide)), HX.out.2.1⟩
    have Rw4 : Hid (Loc w w4 [(qa, 9, [str xa]), (qb, 3, [.int .i64 (xb : Nat)]), (qc, 23, bcells xc)]) := HX.out.1
    clear HX
    go_upto_region 2 with fail
    refine wp_region_lit ?_
    refine wl rfl (.agg (bcells (List.replicate 32 0)).toArray) _ (run_bld23 rfl) ?_
    simp only [Act.put, List.setIfInBounds_toArray, List.set_cons_succ, List.set_cons_zero]
    refine wl_put (t := 9) (by kernel_rfl) (.tmp 2) (.const (.string { data := #[] })) rfl rfl rfl qa 0 9 ([str xa]) rfl (str []) rfl ⟨rfl, rfl⟩ (Rw4.out.at 0 rfl) (by simp) ?_
    obtain ⟨w5, hW_⟩ : ∃ W, W = w4.setCell ⟨qa, 0, none⟩ (str []) := ⟨_, rfl⟩
    have k_ := Rw4.out.set 0 rfl (row_cell' (i := 0) (Rw4.out.at 0 rfl) (str [])) ((Ch.refl (· = qa) w4).setCell (g := qa) (Or.inl rfl) 0 (str []))
    rw [← hW_] at k_ ⊢
    have Rw5 : Hid (Loc w w5 [(qa, 9, [(str [])]), (qb, 3, [.int .i64 (xb : Nat)]), (qc, 23, bcells xc)]) := k_
    clear k_ hW_ Rw4
    refine wl_put (t := 3) (by kernel_rfl) (.tmp 3) (.const (.int .i64 0)) rfl rfl rfl qb 0 3 ([.int .i64 (xb : Nat)]) rfl (.int .i64 0) rfl ⟨rfl, rfl⟩ (Rw5.out.at 1 rfl) (by simp) ?_
    obtain ⟨w6, hW_⟩ : ∃ W, W = w5.setCell ⟨qb, 0, none⟩ (.int .i64 0) := ⟨_, rfl⟩
    have k_ := Rw5.out.set 1 rfl (row_cell' (i := 0) (Rw5.out.at 1 rfl) (.int .i64 0)) ((Ch.refl (· = qb) w5).setCell (g := qb) (Or.inl rfl) 0 (.int .i64 0))
    rw [← hW_] at k_ ⊢
    have Rw6 : Hid (Loc w w6 [(qa, 9, [(str [])]), (qb, 3, [(.int .i64 0)]), (qc, 23, bcells xc)]) := k_
    clear k_ hW_ Rw5
    have hst := run_storeVar ag23 w6 qc 0 23 (bcells xc) (bcells (List.replicate 32 0)) (by simp [bcells_length]) (Rw6.out.at 2 rfl) (by rw [bc32 HM.out.2, show (bcells (List.replicate 32 0)).length = 32 from (by simp [bcells_length])]; decide) (bcells_one _)
    rw [splice_all _ _ (by rw [bc32 HM.out.2, show (bcells (List.replicate 32 0)).length = 32 from (by simp [bcells_length])])] at hst
    refine wlS rfl rfl _ (run_stV (.tmp 4) (.tmp 10) rfl qc 0 rfl _ rfl hst) ?_
    obtain ⟨w7, hW_⟩ : ∃ W, W = w6.setRow qc (bcells (List.replicate 32 0)).toArray := ⟨_, rfl⟩
    have k_ := Rw6.out.set 2 rfl ((Rw6.out.at 2 rfl).setRow (bcells (List.replicate 32 0))) ((Ch.refl (· = qc) w6).setRow (g := qc) (Or.inl rfl) _)
    rw [← hW_] at k_ ⊢
    clear hst
    have Rw7 : Hid (Loc w w7 [(qa, 9, [(str [])]), (qb, 3, [(.int .i64 0)]), (qc, 23, bcells (List.replicate 32 0))]) := k_
    clear k_ hW_ Rw6
    refine wl rfl (.int .i64 110) _ (run_asZ (.const (.int .i64 110)) rfl (.int .i64 110) rfl) ?_
    simp only [Act.put, List.setIfInBounds_toArray, List.set_cons_succ, List.set_cons_zero]
    refine wpList_nil ?_
    go_wp2_with fail
    refine bodyPost_ret (results_ccct Try.results18 _ _ qa qb qc _ _ _ rfl rfl rfl rfl (Rw7.out.at 0 rfl) (Rw7.out.at 1 rfl) _ (by simp [bcells_length]) (Rw7.out.at 2 rfl)) rfl ?_
    rw [HPQ.out]
    exact ⟨[], 0, List.replicate 32 0, 110, rfl, by simp, by intro c hc; rw [List.eq_of_mem_replicate hc]; decide, by simp, Rw7.out.below, Or.inl ⟨HM.out.1, rfl, rfl, rfl, rfl⟩⟩
  | true =>
    have HM : Hid (decE b = some (xa, xb, xc) ∧ xc.length = 32 ∧ (∀ c ∈ xa, c < 256) ∧ (∀ c ∈ xc, c < 256)) := ⟨(by rcases HX.out.2.2.2.2 with h | h; exact absurd h.1 (by decide); exact h.2), HX.out.2.1, HX.out.2.2.1, HX.out.2.2.2.1⟩
    have Rw4 : Hid (Loc w w4 [(qa, 9, [str xa]), (qb, 3, [.int .i64 (xb : Nat)]), (qc, 23, bcells xc)]) := HX.out.1
    clear HX
    go_upto_region 3 with fail
    refine wp_region_held (S := fun X => Loc w X [(qa, 9, [str xa]), (qb, 3, [.int .i64 (xb : Nat)]), (qc, 23, bcells xc)]) (by kernel_rfl) ?_
    show wpAnyH _ _ _ _ _ 7 (Array.replicate 7 false) _ _
    obtain ⟨X, hX⟩ : ∃ X : World, X = { w4 with drawn := w4.drawn + 1 } := ⟨_, rfl⟩
    rw [← hX]
    have hS : Loc w X [(qa, 9, [str xa]), (qb, 3, [.int .i64 (xb : Nat)]), (qc, 23, bcells xc)] := (by rw [hX]; exact Rw4.out.drew)
    clear Rw4
    clear hX
    refine takeH (i := 0) (some 11) rfl rfl (by kernel_rfl) (by kernel_rfl) (by kernel_rfl) (fun _ _ _ h => h) (gRun rfl (str xa) fun _ h => run_load1 o9 (.tmp 2) rfl qa (0) rfl (str xa) ((h.at 0 rfl).at 0 _ rfl)) hS ?_
    simp only [Act.put, List.setIfInBounds_toArray, List.set_cons_succ, List.set_cons_zero]
    refine takeH (i := 1) (some 12) rfl rfl (by kernel_rfl) (by kernel_rfl) (by kernel_rfl) (fun _ _ _ h => h) (gRun rfl (.int .i64 (xb : Nat)) fun _ h => run_load1 o3 (.tmp 3) rfl qb (0) rfl (.int .i64 (xb : Nat)) ((h.at 1 rfl).at 0 _ rfl)) hS ?_
    simp only [Act.put, List.setIfInBounds_toArray, List.set_cons_succ, List.set_cons_zero]
    refine takeH (i := 2) (some 13) rfl rfl (by kernel_rfl) (by kernel_rfl) (by kernel_rfl) (fun _ _ _ h => h) (gRun rfl (.agg (bcells xc).toArray) fun _ h => run_loadA ag23 (.tmp 4) rfl qc (0) rfl (bcells xc) (bc32 HM.out.2.1) (rows_all h 2 rfl)) hS ?_
    simp only [Act.put, List.setIfInBounds_toArray, List.set_cons_succ, List.set_cons_zero]
    refine oneH (i := 3) (by kernel_rfl) ?_
    refine opSkipZ rfl rfl rfl _ (run_putRow (t := 9) (by kernel_rfl) (.tmp 2) (.tmp 11) rfl qa 0 9 [(str xa)] rfl (str xa) rfl ⟨rfl, rfl⟩ (hS.at 0 rfl) (by simp)) ?_
    obtain ⟨X1, hW_⟩ : ∃ W, W = X.setCell ⟨qa, 0, none⟩ (str xa) := ⟨_, rfl⟩
    have hS1 : Loc w X1 [(qa, 9, [str xa]), (qb, 3, [.int .i64 (xb : Nat)]), (qc, 23, bcells xc)] := hW_ ▸ hS.set 0 rfl (row_cell' (i := 0) (hS.at 0 rfl) (str xa)) ((Ch.refl (· = qa) X).setCell (g := qa) (Or.inl rfl) 0 (str xa))
    rw [← hW_]
    clear hW_ hS
    refine ⟨hS1, ?_⟩
    refine oneH (i := 4) (by kernel_rfl) ?_
    refine opSkipZ rfl rfl rfl _ (run_putRow (t := 3) (by kernel_rfl) (.tmp 3) (.tmp 12) rfl qb 0 3 [(.int .i64 (xb : Nat))] rfl (.int .i64 (xb : Nat)) rfl ⟨rfl, rfl⟩ (hS1.at 1 rfl) (by simp)) ?_
    obtain ⟨X2, hW_⟩ : ∃ W, W = X1.setCell ⟨qb, 0, none⟩ (.int .i64 (xb : Nat)) := ⟨_, rfl⟩
    have hS2 : Loc w X2 [(qa, 9, [str xa]), (qb, 3, [.int .i64 (xb : Nat)]), (qc, 23, bcells xc)] := hW_ ▸ hS1.set 1 rfl (row_cell' (i := 0) (hS1.at 1 rfl) (.int .i64 (xb : Nat))) ((Ch.refl (· = qb) X1).setCell (g := qb) (Or.inl rfl) 0 (.int .i64 (xb : Nat)))
    rw [← hW_]
    clear hW_ hS1
    refine ⟨hS2, ?_⟩
    refine oneH (i := 5) (by kernel_rfl) ?_
    have hst := run_storeVar ag23 X2 qc 0 23 (bcells xc) (bcells xc) (bc32 HM.out.2.1) (hS2.at 2 rfl) (by rw [Nat.zero_add]; exact Nat.le_refl _) (bcells_one _)
    rw [splice_all _ _ rfl] at hst
    refine opSkipZ rfl rfl rfl _ (run_stV (.tmp 4) (.tmp 13) rfl qc 0 rfl _ rfl hst) ?_
    obtain ⟨X3, hW_⟩ : ∃ W, W = X2.setRow qc (bcells xc).toArray := ⟨_, rfl⟩
    have hS3 : Loc w X3 [(qa, 9, [str xa]), (qb, 3, [.int .i64 (xb : Nat)]), (qc, 23, bcells xc)] := hW_ ▸ hS2.set 2 rfl ((hS2.at 2 rfl).setRow (bcells xc)) ((Ch.refl (· = qc) X2).setRow (g := qc) (Or.inl rfl) _)
    clear hst
    rw [← hW_]
    clear hW_ hS2
    refine ⟨hS3, ?_⟩
    refine takeH (i := 6) (some 5) rfl rfl (by kernel_rfl) (by kernel_rfl) (by kernel_rfl) (fun _ _ _ h => h) (gRun rfl (.int .i64 0) fun _ h => run_asZ (.const (.int .i64 0)) rfl (.int .i64 0) rfl) hS3 ?_
    simp only [Act.put, List.setIfInBounds_toArray, List.set_cons_succ, List.set_cons_zero]
    refine wpAnyH_done (by kernel_rfl) ?_ _
    have RL : Hid (Loc w X3 [(qa, 9, [str xa]), (qb, 3, [.int .i64 (xb : Nat)]), (qc, 23, bcells xc)]) := hS3
    clear hS3
    go_wp2_with fail
    refine bodyPost_ret (results_ccct Try.results18 _ _ qa qb qc _ _ _ rfl rfl rfl rfl (RL.out.at 0 rfl) (RL.out.at 1 rfl) _ (bc32 HM.out.2.1) (RL.out.at 2 rfl)) rfl ?_
    rw [HPQ.out]
    exact ⟨xa, xb, xc, 0, rfl, HM.out.2.2.1, HM.out.2.2.2, HM.out.2.1, RL.out.below, Or.inr ⟨HM.out.1, rfl⟩⟩

end Go.Proofs.Ytncjmolhofnpbaa

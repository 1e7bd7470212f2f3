/- A reader: an entry. -/
import Derived.Test.YtncjmolhofnpbaaR7
namespace Go.Proofs.Ytncjmolhofnpbaa
open Go.RowKit

theorem opCallP {ops : Array Oper} {Q : Exit → Act → World → Prop} {a : Act} {w : World} {i : Nat} (d : Option Tmp) {o : Oper} {K : Act → World → Prop} (hi : ops[i]? = some o) (hd : o.dst = d) (hw : Region.wanted o (yielded ops a.tmps) = true) (f : Nat) (args : Array Value) (hrun : (execOp a.eval o).run Try.prog w = .ok (.enter f args) w) (h : Calls Try.prog f args w fun e w' => (∃ v, e = .returned v ∧ K (a.put d v) w') ∨ (∃ ch, e = .panicked ch ∧ Q (.panic ch) a w')) : wpOp Try.prog ops Q i K a w := by
  subst hd
  unfold wpOp
  simp only [hi, hw, if_true, Oper.wp, hrun, Oper.upon]
  refine .inl (Calls.mono h fun e w' he => ?_)
  rcases he with ⟨v, rfl, hK⟩ | ⟨ch, rfl, hq⟩
  · exact hK
  · exact hq
theorem zero23 : (Try.prog.info? 23).map (·.zero) = some (some (.agg (zerosU8 32).toArray)) := by kernel_rfl
theorem arr23 : Try.prog.underlying 23 = some (.array 32 5) := Try.underlying23
theorem z32 : (zerosU8 32).length = 32 := by simp [zerosU8]
theorem bc32 {s : List Nat} (h : s.length = 32) : (bcells s).length = 32 := by rw [bcells_length]; exact h
theorem splice32 (x : List Value) (s : List Nat) (hx : x.length = 32) (h : s.length = 32) : splice x 0 (bcells s) = bcells s := splice_all _ _ (by rw [bc32 h, hx])
theorem run_strB {w : World} {a : Act} {o : Oper} (x : Operand) (ho : o.op = .convert 28 9 x) (v : Value) (cs : List Nat) (hx : a.eval x = v) (hin : SliceIn w v cs) : (execOp a.eval o).run Try.prog w = .ok (.value (str cs)) w := by
  have h := run_bstring hin
  simp [execOp, ho, hx, h, str]
theorem in32 {w : World} {v : Value} {c : List Nat} (h : SliceIn w v c) (hl : c.length = 32) : ∃ b so cap, v = .slice (some ⟨b, so, none⟩) 32 cap ∧ ∀ j, j < c.length → w.cell? ⟨b, so + j, none⟩ = some (.int .u8 (c.getD j 0 : Nat)) := by
  obtain ⟨p, cap, rfl, _, h⟩ := h
  rcases h with rfl | ⟨b, off, rfl, h1, _⟩
  · simp at hl
  · exact ⟨b, off, cap, by rw [hl], h1⟩
theorem run_cp32 {w : World} {a : Act} {o : Oper} (d s : Operand) (ho : o.op = .call { callee := .builtin .copy, args := #[d, s], argTypes := #[28, 28] }) (g T b so cap : Nat) (cur : List Value) (hr : Row w g T cur) (hcur : cur.length = 32) (hd : a.eval d = .slice (some ⟨g, 0, none⟩) 32 32) (hs : a.eval s = .slice (some ⟨b, so, none⟩) 32 cap) (c : List Nat) (hc : c.length = 32) (hsrc : ∀ j, j < c.length → w.cell? ⟨b, so + j, none⟩ = some (.int .u8 (c.getD j 0 : Nat))) :
    (execOp a.eval o).run Try.prog w = .ok (.value (.int .i64 (32 : Nat))) (w.setRow g (bcells c).toArray) := by
  have hbl : (bcells c).length = 32 := bc32 hc
  have hrun := run_copy_row (P := Try.prog) w 28 28 o.type 5 g 0 32 32 ⟨b, so, none⟩ 32 cap cur.toArray T (bcells c) Try.underlying28 info5 hr (by rw [hbl]; rfl) (by
    intro j v hv
    have hj : j < c.length := by
      have := (List.getElem?_eq_some_iff.1 hv).1
      rwa [bcells_length] at this
    rw [add_none, hsrc j hj, ← hv]
    simp [bcells, hj]) (by rw [hbl]; simp; omega) (bcells_one c)
  have e2 := splice_all cur (bcells c) (by rw [hbl, hcur])
  unfold splice at e2
  simp [execOp, ho, resolve, invoke, builtin, hd, hs, hrun, Result.andThen, goInt, hbl]
  first
    | done
    | (congr 2; simpa [hbl] using e2)
theorem results_ttc {fn : Func} {p q u : Tmp} {t n : Nat} (ht : AggT t n) (h : fn.results = #[.tmp p, .tmp q, .cell u t]) (tmps : Array Value) (w : World) (g T : Nat) (a b : Value) (ha : tmps.getD p undef = a) (hb : tmps.getD q undef = b) (hp : tmps.getD u undef = .pointer (some ⟨g, 0, none⟩)) (cs : List Value) (hn : cs.length = n) (hr : Row w g T cs) :
    (results fn tmps).run Try.prog w = .ok (.tuple #[a, b, .agg cs.toArray]) w := by
  have hl := run_loadVar ht w g 0 cs hn (fun j v hv => by rw [Nat.zero_add]; exact hr.at j v hv)
  have hp' : tmps[u]?.getD undef = .pointer (some ⟨g, 0, none⟩) := by simpa using hp
  have ha' : tmps[p]?.getD undef = a := by simpa using ha
  have hb' : tmps[q]?.getD undef = b := by simpa using hb
  simp [results, h, hp', ha', hb', asAddr, hl]
theorem rdE_1 (l : List Nat) (h : num 1 l = none) : rdE l = none := by unfold rdE; rw [h]; rfl
theorem rdE_2 {l l1 : List Nat} {x : Nat} (h : num 1 l = some (x, l1)) (h2 : l1.length < x) : rdE l = none := by
  unfold rdE tk
  rw [h, Option.bind_some, if_neg (by omega : ¬ x ≤ l1.length)]
  rfl
/-- what is read of an entry so far -/
def En2 (l id l2 : List Nat) : Prop := ∃ x l1, num 1 l = some (x, l1) ∧ tk x l1 = some (id, l2)
def En3 (l id : List Nat) (n : Nat) (l3 : List Nat) : Prop := ∃ l2, En2 l id l2 ∧ num 2 l2 = some (n, l3)
def En4 (l id : List Nat) (n : Nat) (root l4 : List Nat) : Prop := ∃ l3, En3 l id n l3 ∧ tk 32 l3 = some (root, l4)
theorem En2.no {l id l2 : List Nat} (h : En2 l id l2) (h2 : num 2 l2 = none) : rdE l = none := by
  obtain ⟨x, l1, e1, e2⟩ := h
  unfold rdE
  rw [e1, Option.bind_some, e2, Option.bind_some, h2]
  rfl
theorem En3.no {l id l3 : List Nat} {n : Nat} (h : En3 l id n l3) (h2 : l3.length < 32) : rdE l = none := by
  obtain ⟨l2, ⟨x, l1, e1, e2⟩, e3⟩ := h
  unfold rdE
  rw [e1, Option.bind_some, e2, Option.bind_some, e3, Option.bind_some]
  unfold tk
  rw [if_neg (by omega : ¬ 32 ≤ l3.length)]
  rfl
theorem En4.end {l id root l4 : List Nat} {n : Nat} (h : En4 l id n root l4) : rdE l = if entB id n then some ((id, n, root), l4) else none := by
  obtain ⟨l3, ⟨l2, ⟨x, l1, e1, e2⟩, e3⟩, e4⟩ := h
  unfold rdE
  rw [e1, Option.bind_some, e2, Option.bind_some, e3, Option.bind_some, e4, Option.bind_some]
theorem tk_yes (n : Nat) (l : List Nat) (h : n ≤ l.length) : tk n l = some (l.take n, l.drop n) := if_pos h
set_option maxHeartbeats 1000000 in
theorem entry_any (g : Nat) (l : List Nat) (w : World) (hr : RdAt w g l) :
    Calls Try.prog 32 #[ptr g] w fun e w' => Ch (· = g) w w' ∧ ((rdE l = none ∧ e = .panicked GU) ∨ (∃ id n root l', rdE l = some ((id, n, root), l') ∧ e = .returned (.tuple #[str id, .int .i64 (n : Nat), .agg (bcells root).toArray]) ∧ RdAt w' g l' ∧ (∀ c ∈ id, c < 256) ∧ (∀ c ∈ root, c < 256))) := by
  have hg : g < w.heap.size := hr.lt
  have HR : Hid (RdAt w g l ∧ g < w.heap.size) := ⟨hr, hg⟩
  clear hr
  obtain ⟨PQ, HPQ⟩ : ∃ PQ : Ending → World → Prop, Hid (PQ = fun e w' => Ch (· = g) w w' ∧ ((rdE l = none ∧ e = .panicked GU) ∨ (∃ id n root l', rdE l = some ((id, n, root), l') ∧ e = .returned (.tuple #[str id, .int .i64 (n : Nat), .agg (bcells root).toArray]) ∧ RdAt w' g l' ∧ (∀ c ∈ id, c < 256) ∧ (∀ c ∈ root, c < 256)))) := ⟨_, rfl⟩
  rw [← HPQ.out]
  go_enter Try.func32, Try.ntmps32
  go_upto_region 0 with fail
  refine wp_region_lit ?_
  refine wl rfl (.string { data := #[] }) _ (run_asZ (.const (.string { data := #[] })) rfl (.string { data := #[] }) rfl) ?_
  simp only [Act.put, List.setIfInBounds_toArray, List.set_cons_succ, List.set_cons_zero]
  refine wl rfl (.int .i64 0) _ (run_asZ (.const (.int .i64 0)) rfl (.int .i64 0) rfl) ?_
  simp only [Act.put, List.setIfInBounds_toArray, List.set_cons_succ, List.set_cons_zero]
  refine wl rfl (ptr w.heap.size) _ (run_allocA (zerosU8 32) zero23 rfl) ?_
  obtain ⟨q, hq⟩ : ∃ q, q = w.heap.size := ⟨_, rfl⟩
  obtain ⟨w0, hw0⟩ : ∃ w0, w0 = w.alloc (.cells (zerosU8 32).toArray 23) := ⟨_, rfl⟩
  have H0 : Hid (Ch (· = g) w w0 ∧ RdAt w0 g l ∧ Row w0 q 23 (zerosU8 32) ∧ q ≠ g ∧ w.heap.size ≤ q) := (by
    have hb := below_alloc w (.cells (zerosU8 32).toArray 23)
    rw [hq, hw0]
    exact ⟨Ch.of_below hb, HR.out.1.later (hb.mono HR.out.2), Row.new _ _ _, by omega, Nat.le_refl _⟩)
  rw [← hq, ← hw0]
  clear hq hw0 HR
  simp only [Act.put, List.setIfInBounds_toArray, List.set_cons_succ, List.set_cons_zero]
  refine wpList_nil ?_
  go_upto_region 1 with fail
  refine wp_region_lit ?_
  refine wl rfl (ptr g) _ (run_mvZ (.tmp 0) rfl (ptr g) rfl) ?_
  simp only [Act.put, List.setIfInBounds_toArray, List.set_cons_succ, List.set_cons_zero]
  refine wl rfl (ptr g) _ (run_mvZ (.tmp 0) rfl (ptr g) rfl) ?_
  simp only [Act.put, List.setIfInBounds_toArray, List.set_cons_succ, List.set_cons_zero]
  refine wpList_callP eN39 [.tmp 6, .const ((.int .i64 1))] _ rfl rfl [(ptr g), (.int .i64 1)] rfl ?_
  refine (number_any g 1 l w0 H0.out.2.1 (by decide) (by decide)).mono ?_
  rintro e w1 ⟨hc, ⟨hno, rfl⟩ | ⟨x1, l1, hso, rfl, r1⟩⟩
  · refine Or.inr ⟨_, rfl, ?_⟩
    refine ⟨rfl, ?_⟩
    rw [HPQ.out]
    exact ⟨H0.out.1.trans hc, Or.inl ⟨rdE_1 l hno, rfl⟩⟩
  refine Or.inl ⟨_, rfl, ?_⟩
  have H1 : Hid (Ch (· = g) w w1 ∧ RdAt w1 g l1 ∧ Row w1 q 23 (zerosU8 32) ∧ q ≠ g ∧ w.heap.size ≤ q ∧ num 1 l = some (x1, l1)) := ⟨H0.out.1.trans hc, r1, hc.row H0.out.2.2.2.1 H0.out.2.2.1, H0.out.2.2.2.1, H0.out.2.2.2.2, hso⟩
  clear hc r1 hso H0
  simp only [Act.put, List.setIfInBounds_toArray, List.set_cons_succ, List.set_cons_zero]
  refine wpList_callP eN43 [.tmp 5, .tmp 7] _ rfl rfl [(ptr g), (.int .i64 (x1 : Nat))] rfl ?_
  refine (take_any g x1 l1 w1 H1.out.2.1).mono ?_
  rintro e w2 ⟨hc, ⟨hlt, rfl⟩ | ⟨hle, v1, rfl, o1, r1⟩⟩
  · refine Or.inr ⟨_, rfl, ?_⟩
    refine ⟨rfl, ?_⟩
    rw [HPQ.out]
    exact ⟨H1.out.1.trans hc, Or.inl ⟨rdE_2 H1.out.2.2.2.2.2 hlt, rfl⟩⟩
  refine Or.inl ⟨_, rfl, ?_⟩
  obtain ⟨id, hid⟩ : ∃ id, id = l1.take x1 := ⟨_, rfl⟩
  obtain ⟨l2, hl2⟩ : ∃ l2, l2 = l1.drop x1 := ⟨_, rfl⟩
  have H2 : Hid (Ch (· = g) w w2 ∧ RdAt w2 g l2 ∧ Row w2 q 23 (zerosU8 32) ∧ q ≠ g ∧ w.heap.size ≤ q ∧ En2 l id l2 ∧ SliceIn w2 v1 id ∧ (∀ c ∈ id, c < 256)) := ⟨H1.out.1.trans hc, by rw [hl2]; exact r1, hc.row H1.out.2.2.2.1 H1.out.2.2.1, H1.out.2.2.2.1, H1.out.2.2.2.2.1, ⟨x1, l1, H1.out.2.2.2.2.2, by rw [hid, hl2]; exact tk_yes _ _ hle⟩, by rw [hid]; exact o1.1, by rw [hid]; exact SliceIn.lt256 o1.1⟩
  clear hc r1 o1 H1 hid hl2 hle
  simp only [Act.put, List.setIfInBounds_toArray, List.set_cons_succ, List.set_cons_zero]
  refine wl rfl (str id) _ (run_strB (.tmp 8) rfl v1 id rfl H2.out.2.2.2.2.2.2.1) ?_
  simp only [Act.put, List.setIfInBounds_toArray, List.set_cons_succ, List.set_cons_zero]
  refine wl rfl (str id) _ (run_asZ (.tmp 9) rfl (str id) rfl) ?_
  simp only [Act.put, List.setIfInBounds_toArray, List.set_cons_succ, List.set_cons_zero]
  refine wpList_nil ?_
  go_upto_region 2 with fail
  refine wp_region_lit ?_
  refine wl rfl (ptr g) _ (run_mvZ (.tmp 0) rfl (ptr g) rfl) ?_
  simp only [Act.put, List.setIfInBounds_toArray, List.set_cons_succ, List.set_cons_zero]
  refine wpList_callP eN39 [.tmp 10, .const ((.int .i64 2))] _ rfl rfl [(ptr g), (.int .i64 2)] rfl ?_
  refine (number_any g 2 l2 w2 H2.out.2.1 (by decide) (by decide)).mono ?_
  rintro e w3 ⟨hc, ⟨hno, rfl⟩ | ⟨n, l3, hso, rfl, r1⟩⟩
  · refine Or.inr ⟨_, rfl, ?_⟩
    refine ⟨rfl, ?_⟩
    rw [HPQ.out]
    exact ⟨H2.out.1.trans hc, Or.inl ⟨H2.out.2.2.2.2.2.1.no hno, rfl⟩⟩
  refine Or.inl ⟨_, rfl, ?_⟩
  have H3 : Hid (Ch (· = g) w w3 ∧ RdAt w3 g l3 ∧ Row w3 q 23 (zerosU8 32) ∧ q ≠ g ∧ w.heap.size ≤ q ∧ En3 l id n l3 ∧ (∀ c ∈ id, c < 256)) := ⟨H2.out.1.trans hc, r1, hc.row H2.out.2.2.2.1 H2.out.2.2.1, H2.out.2.2.2.1, H2.out.2.2.2.2.1, ⟨l2, H2.out.2.2.2.2.2.1, hso⟩, H2.out.2.2.2.2.2.2.2⟩
  clear hc r1 hso H2
  simp only [Act.put, List.setIfInBounds_toArray, List.set_cons_succ, List.set_cons_zero]
  refine wl rfl (.int .i64 (n : Nat)) _ (run_asZ (.tmp 11) rfl (.int .i64 (n : Nat)) rfl) ?_
  simp only [Act.put, List.setIfInBounds_toArray, List.set_cons_succ, List.set_cons_zero]
  refine wpList_nil ?_
  go_upto_region 3 with fail
  refine wp_region_held (S := fun X => True) (by kernel_rfl) ?_
  show wpAnyH _ _ _ _ _ 4 (Array.replicate 4 false) _ _
  obtain ⟨X, hX⟩ : ∃ X : World, X = { w3 with drawn := w3.drawn + 1 } := ⟨_, rfl⟩
  rw [← hX]
  have hS : Ch (· = g) w X ∧ RdAt X g l3 ∧ Row X q 23 (zerosU8 32) ∧ q ≠ g ∧ w.heap.size ≤ q ∧ En3 l id n l3 ∧ (∀ c ∈ id, c < 256) := (by rw [hX]; exact ⟨H3.out.1.trans ⟨rfl, rfl, rfl, Nat.le_refl _, fun _ _ _ => rfl⟩, H3.out.2.1.later ⟨rfl, rfl, rfl, Nat.le_refl _, fun _ _ => rfl⟩, H3.out.2.2⟩)
  clear H3
  clear hX
  refine takeH (i := 0) (some 12) rfl rfl (by kernel_rfl) (by kernel_rfl) (by kernel_rfl) (fun _ _ _ h => h) (gRun rfl (.slice (some ⟨q, 0, none⟩) 32 32) fun _ h => run_slA arr23 (.tmp 4) none none rfl q 0 0 32 rfl ⟨Or.inl ⟨rfl, rfl⟩, Or.inl ⟨rfl, rfl⟩, by decide, by decide, by decide⟩) trivial ?_
  simp only [Act.put, List.setIfInBounds_toArray, List.set_cons_succ, List.set_cons_zero]
  refine takeH (i := 1) (some 13) rfl rfl (by kernel_rfl) (by kernel_rfl) (by kernel_rfl) (fun _ _ _ h => h) (gRun rfl (ptr g) fun _ h => run_mvZ (.tmp 0) rfl (ptr g) rfl) trivial ?_
  simp only [Act.put, List.setIfInBounds_toArray, List.set_cons_succ, List.set_cons_zero]
  refine oneH (i := 2) (by kernel_rfl) ?_
  refine opCallP (some 14) rfl rfl rfl 43 _ (run_call eN43 [.tmp 13, .const (.int .i64 32)] _ rfl [(ptr g), (.int .i64 32)] rfl) ?_
  refine (take_any g 32 l3 X hS.2.1).mono ?_
  rintro e w4 ⟨hc, ⟨hlt, rfl⟩ | ⟨hle, v1, rfl, o1, r1⟩⟩
  · refine Or.inr ⟨_, rfl, ?_⟩
    refine ⟨rfl, ?_⟩
    rw [HPQ.out]
    exact ⟨hS.1.trans hc, Or.inl ⟨hS.2.2.2.2.2.1.no hlt, rfl⟩⟩
  refine Or.inl ⟨_, rfl, ?_⟩
  obtain ⟨root, hroot⟩ : ∃ root, root = l3.take 32 := ⟨_, rfl⟩
  obtain ⟨l4, hl4⟩ : ∃ l4, l4 = l3.drop 32 := ⟨_, rfl⟩
  have hr32 : root.length = 32 := (by rw [hroot, List.length_take]; omega)
  have H4 : Hid (Ch (· = g) w w4 ∧ RdAt w4 g l4 ∧ Row w4 q 23 (zerosU8 32) ∧ q ≠ g ∧ w.heap.size ≤ q ∧ En4 l id n root l4 ∧ (∀ c ∈ id, c < 256) ∧ (∀ c ∈ root, c < 256) ∧ root.length = 32) := ⟨hS.1.trans hc, by rw [hl4]; exact r1, hc.row hS.2.2.2.1 hS.2.2.1, hS.2.2.2.1, hS.2.2.2.2.1, ⟨l3, hS.2.2.2.2.2.1, by rw [hroot, hl4]; exact tk_yes _ _ hle⟩, hS.2.2.2.2.2.2, by rw [hroot]; exact SliceIn.lt256 o1.1, hr32⟩
  rw [← hroot] at o1
  obtain ⟨b, so, cap, rfl, hsrc⟩ := in32 o1.1 hr32
  have HS4 : Hid (∀ j, j < root.length → w4.cell? ⟨b, so + j, none⟩ = some (.int .u8 (root.getD j 0 : Nat))) := hsrc
  clear hc r1 o1 hS hroot hl4 hle hsrc hr32
  refine ⟨trivial, ?_⟩
  simp only [Act.put, List.setIfInBounds_toArray, List.set_cons_succ, List.set_cons_zero]
  refine oneH (i := 3) (by kernel_rfl) ?_
  refine opValueG (some 15) rfl rfl rfl _ _ (run_cp32 (.tmp 12) (.tmp 14) rfl q 23 b so cap (zerosU8 32) H4.out.2.2.1 z32 rfl rfl root H4.out.2.2.2.2.2.2.2.2 HS4.out) ?_
  obtain ⟨w5, hw5⟩ : ∃ w5, w5 = w4.setRow q (bcells root).toArray := ⟨_, rfl⟩
  have H5 : Hid (Ch (· = g) w w5 ∧ RdAt w5 g l4 ∧ Row w5 q 23 (bcells root) ∧ q ≠ g ∧ w.heap.size ≤ q ∧ En4 l id n root l4 ∧ (∀ c ∈ id, c < 256) ∧ (∀ c ∈ root, c < 256) ∧ root.length = 32) := (by
    have h := H4.out
    have hc5 : Ch (· = q) w4 w5 := hw5 ▸ (Ch.refl (· = q) w4).setRow (g := q) (Or.inl rfl) _
    exact ⟨h.1.trans' hc5 (fun i hi e => absurd e (by have := h.2.2.2.2.1; omega)), h.2.1.later (hc5.below h.2.1.lt (fun i hi e => by have := h.2.2.2.2.1; have := hg; omega)), by rw [hw5]; exact h.2.2.1.setRow _, h.2.2.2⟩)
  rw [← hw5]
  clear hw5 H4 HS4
  refine ⟨trivial, ?_⟩
  simp only [Act.put, List.setIfInBounds_toArray, List.set_cons_succ, List.set_cons_zero]
  refine wpAnyH_done (by kernel_rfl) ?_ _
  go_upto_region 4 with fail
  refine wp_region_lit ?_
  refine wl rfl (str id) _ (run_mvZ (.tmp 2) rfl (str id) rfl) ?_
  simp only [Act.put, List.setIfInBounds_toArray, List.set_cons_succ, List.set_cons_zero]
  refine wl rfl (.int .i64 (n : Nat)) _ (run_mvZ (.tmp 3) rfl (.int .i64 (n : Nat)) rfl) ?_
  simp only [Act.put, List.setIfInBounds_toArray, List.set_cons_succ, List.set_cons_zero]
  refine wpList_callW eN25 [.tmp 16, .tmp 17] _ rfl rfl [(str id), (.int .i64 (n : Nat))] rfl ?_
  refine (entryHolds_any id H5.out.2.2.2.2.2.2.1 (n : Nat) w5).mono ?_
  rintro e w6 ⟨rfl, rfl⟩
  refine ⟨_, rfl, ?_⟩
  obtain ⟨ok, hok⟩ : ∃ ok, ok = entB id (n : Nat) := ⟨_, rfl⟩
  have HOK : Hid (ok = entB id (n : Nat)) := hok
  rw [← hok]
  clear hok
  simp only [Act.put, List.setIfInBounds_toArray, List.set_cons_succ, List.set_cons_zero]
  refine wpList_callP eN42 [.tmp 18] _ rfl rfl [(.bool ok)] rfl ?_
  refine (must_any ok w5).mono ?_
  rintro e w7 (⟨hd, rfl, rfl⟩ | ⟨hd, rfl, rfl⟩)
  · refine Or.inr ⟨_, rfl, ?_⟩
    refine ⟨rfl, ?_⟩
    rw [HPQ.out]
    exact ⟨H5.out.1, Or.inl ⟨by rw [H5.out.2.2.2.2.2.1.end, ← HOK.out, hd]; rfl, rfl⟩⟩
  refine Or.inl ⟨_, rfl, ?_⟩
  subst hd
  simp only [Act.put, List.setIfInBounds_toArray, List.set_cons_succ, List.set_cons_zero]
  refine wpList_nil ?_
  go_upto_region 5 with fail
  refine wp_region_held (S := fun X => Row X q 23 (bcells root)) (by kernel_rfl) ?_
  show wpAnyH _ _ _ _ _ 6 (Array.replicate 6 false) _ _
  obtain ⟨X, hX⟩ : ∃ X : World, X = { w5 with drawn := w5.drawn + 1 } := ⟨_, rfl⟩
  rw [← hX]
  have hS : Ch (· = g) w X ∧ RdAt X g l4 ∧ Row X q 23 (bcells root) ∧ q ≠ g ∧ w.heap.size ≤ q ∧ En4 l id n root l4 ∧ (∀ c ∈ id, c < 256) ∧ (∀ c ∈ root, c < 256) ∧ root.length = 32 := (by rw [hX]; exact ⟨H5.out.1.trans ⟨rfl, rfl, rfl, Nat.le_refl _, fun _ _ _ => rfl⟩, H5.out.2.1.later ⟨rfl, rfl, rfl, Nat.le_refl _, fun _ _ => rfl⟩, H5.out.2.2⟩)
  clear H5
  clear hX
  refine takeH (i := 0) (some 20) rfl rfl (by kernel_rfl) (by kernel_rfl) (by kernel_rfl) (fun _ _ _ h => h) (gRun rfl (str id) fun _ h => run_mvZ (.tmp 2) rfl (str id) rfl) hS.2.2.1 ?_
  simp only [Act.put, List.setIfInBounds_toArray, List.set_cons_succ, List.set_cons_zero]
  refine takeH (i := 1) (some 21) rfl rfl (by kernel_rfl) (by kernel_rfl) (by kernel_rfl) (fun _ _ _ h => h) (gRun rfl (.int .i64 (n : Nat)) fun _ h => run_mvZ (.tmp 3) rfl (.int .i64 (n : Nat)) rfl) hS.2.2.1 ?_
  simp only [Act.put, List.setIfInBounds_toArray, List.set_cons_succ, List.set_cons_zero]
  refine takeH (i := 2) (some 22) rfl rfl (by kernel_rfl) (by kernel_rfl) (by kernel_rfl) (fun _ _ _ h => h) (gRun rfl (.agg (bcells root).toArray) fun _ h => run_loadA ag23 (.tmp 4) rfl q (0) rfl (bcells root) (bc32 hS.2.2.2.2.2.2.2.2) (fun j v hv => (by rw [Nat.zero_add]; exact h.at j v hv))) hS.2.2.1 ?_
  simp only [Act.put, List.setIfInBounds_toArray, List.set_cons_succ, List.set_cons_zero]
  refine takeH (i := 3) (some 2) rfl rfl (by kernel_rfl) (by kernel_rfl) (by kernel_rfl) (fun _ _ _ h => h) (gRun rfl (str id) fun _ h => run_asZ (.tmp 20) rfl (str id) rfl) hS.2.2.1 ?_
  simp only [Act.put, List.setIfInBounds_toArray, List.set_cons_succ, List.set_cons_zero]
  refine takeH (i := 4) (some 3) rfl rfl (by kernel_rfl) (by kernel_rfl) (by kernel_rfl) (fun _ _ _ h => h) (gRun rfl (.int .i64 (n : Nat)) fun _ h => run_asZ (.tmp 21) rfl (.int .i64 (n : Nat)) rfl) hS.2.2.1 ?_
  simp only [Act.put, List.setIfInBounds_toArray, List.set_cons_succ, List.set_cons_zero]
  refine oneH (i := 5) (by kernel_rfl) ?_
  have hst := run_storeVar ag23 X q 0 23 (bcells root) (bcells root) (bc32 hS.2.2.2.2.2.2.2.2) hS.2.2.1 (by rw [Nat.zero_add]; exact Nat.le_refl _) (bcells_one _)
  rw [splice32 _ root (bc32 hS.2.2.2.2.2.2.2.2) hS.2.2.2.2.2.2.2.2] at hst
  refine opSkipZ rfl rfl rfl _ (run_stV (.tmp 4) (.tmp 22) rfl q 0 rfl _ rfl hst) ?_
  obtain ⟨w9, hw9⟩ : ∃ w9, w9 = X.setRow q (bcells root).toArray := ⟨_, rfl⟩
  have H9 : Hid (Ch (· = g) w w9 ∧ RdAt w9 g l4 ∧ Row w9 q 23 (bcells root) ∧ En4 l id n root l4 ∧ (∀ c ∈ id, c < 256) ∧ (∀ c ∈ root, c < 256) ∧ root.length = 32) := (by
    have h := hS
    have hc5 : Ch (· = q) X w9 := hw9 ▸ (Ch.refl (· = q) X).setRow (g := q) (Or.inl rfl) _
    exact ⟨h.1.trans' hc5 (fun i hi e => absurd e (by have := h.2.2.2.2.1; omega)), h.2.1.later (hc5.below h.2.1.lt (fun i hi e => by have := h.2.2.2.2.1; have := hg; omega)), by rw [hw9]; exact h.2.2.1.setRow _, h.2.2.2.2.2⟩)
  rw [← hw9]
  clear hw9 hS hst
  refine ⟨H9.out.2.2.1, ?_⟩
  refine wpAnyH_done (by kernel_rfl) ?_ _
  go_wp2_with fail
  refine bodyPost_ret (results_ttc ag23 Try.results32 _ _ q 23 _ _ rfl rfl rfl _ (bc32 H9.out.2.2.2.2.2.2) H9.out.2.2.1) rfl ?_
  rw [HPQ.out]
  exact ⟨H9.out.1, Or.inr ⟨id, n, root, l4, by rw [H9.out.2.2.2.1.end, ← HOK.out]; rfl, rfl, H9.out.2.1, H9.out.2.2.2.2.1, H9.out.2.2.2.2.2.1⟩⟩

end Go.Proofs.Ytncjmolhofnpbaa

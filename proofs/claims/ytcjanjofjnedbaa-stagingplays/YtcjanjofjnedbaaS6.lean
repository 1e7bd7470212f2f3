/- Layer 13: the example. -/
import Derived.Test.YtcjanjofjnedbaaS5
namespace Go.Proofs.Ytcjanjofjnedbaa
open Go.RowKit Go.Maps Go.MapKept

/-- a stage that was made behind w0 -/
structure SW (w0 W : World) (F : Nat → Prop) (g nx : Nat) (ss : List (Nat × List Nat)) : Prop where
  bel : Below w0.heap.size w0 W
  st : ∃ l, StAt W F g nx l ∧ ssOf l = ss
  ge : ∀ k, F k → w0.heap.size ≤ k
def takeP (ss : List (Nat × List Nat)) (p : Int) : Int × List Nat × List (Nat × List Nat) :=
  match findS ss p with
  | none => (130, [], ss)
  | some x => (0, x.2, ss.filter fun x => decide ((x.1 : Int) ≠ p))
theorem Tn.below {F F' : Nat → Prop} {w0 W W' : World} (h : Tn F F' W W') (hb : Below w0.heap.size w0 W) (hg : ∀ k, F k → w0.heap.size ≤ k) : Below w0.heap.size w0 W' ∧ ∀ k, F' k → w0.heap.size ≤ k :=
  ⟨hb.trans (h.ch.below hb.size fun i hi hf => by have := hg i hf; omega), fun k hk => (h.ext k hk).elim (hg k) fun h2 => Nat.le_trans hb.size h2⟩
section
variable {w0 W : World} {F : Nat → Prop} {g nx : Nat} {ss : List (Nat × List Nat)}
theorem SW.eight (h : SW w0 W F g nx ss) : ss.length ≤ 8 := by
  obtain ⟨l, hl, rfl⟩ := h.st
  simpa [ssOf] using hl.eight
theorem SW.low (h : SW w0 W F g nx ss) : ∀ k, F k → k < W.heap.size := by
  obtain ⟨l, hl, rfl⟩ := h.st
  exact hl.low
theorem SW.begin (h : SW w0 W F g nx ss) (hn : nx < 4611686018427387904) : Calls Try.prog 10 #[ptr g] W fun e W' => ∃ F', e = .returned (.tuple #[.int .i64 (beginP nx ss).1, .int .i64 (beginP nx ss).2.1]) ∧ SW w0 W' F' g (beginP nx ss).2.2.1 (beginP nx ss).2.2.2 ∧ Tn F F' W W' := by
  obtain ⟨l, hl, rfl⟩ := h.st
  refine (begin_any hl hn).mono fun e W' ⟨F', nx', l', h1, h2, h3, h4⟩ => ?_
  have hb := h4.below h.bel h.ge
  exact ⟨F', h1, ⟨hb.1, ⟨l', by rw [← h3]; exact h2, by rw [← h3]⟩, hb.2⟩, h4⟩
theorem SW.add (h : SW w0 W F g nx ss) (p : Int) (hp : Wf p) (vb : Value) (cs : List Nat) (hin : SliceIn W vb cs) : Calls Try.prog 12 #[ptr g, .int .i64 p, vb] W fun e W' => ∃ F', e = .returned (.int .i64 (addP ss p cs).1) ∧ SW w0 W' F' g nx (addP ss p cs).2 ∧ Tn F F' W W' := by
  obtain ⟨l, hl, rfl⟩ := h.st
  refine (add_any hl p hp vb cs hin).mono fun e W' ⟨F', l', h1, h2, h3, h4⟩ => ?_
  have hb := h4.below h.bel h.ge
  exact ⟨F', h1, ⟨hb.1, ⟨l', h2, h3⟩, hb.2⟩, h4⟩
theorem SW.take (h : SW w0 W F g nx ss) (p : Int) (hp : Wf p) : Calls Try.prog 14 #[ptr g, .int .i64 p] W fun e W' => ∃ F' v, e = .returned (.tuple #[v, .int .i64 (takeP ss p).1]) ∧ SW w0 W' F' g nx (takeP ss p).2.2 ∧ Tn F F' W W' ∧ BOwn W' 0 v (takeP ss p).2.1 ∧ SliceIn W' v (takeP ss p).2.1 ∧ ∀ k, v.ownBlock = some k → F k ∧ ¬ F' k := by
  obtain ⟨l, hl, rfl⟩ := h.st
  unfold takeP
  rw [findS_of]
  cases hf : look l p with
  | none =>
    refine (take_no hl p hp hf).mono ?_
    rintro e W' ⟨rfl, rfl⟩
    exact ⟨F, _, rfl, ⟨h.bel, ⟨l, hl, rfl⟩, h.ge⟩, Tn.refl F W, World.ownsRow_nil _ _ _ _, ⟨none, 0, rfl, ⟨Nat.le_refl _, Nat.zero_le _⟩, Or.inl rfl⟩, fun k e => by cases e⟩
  | some x =>
    refine (take_yes hl p hp hf).mono ?_
    rintro e W' ⟨F', rfl, h2, h3, h4, h5⟩
    have hb := h3.below h.bel h.ge
    have hx := hl.own x (look_some hf).1
    exact ⟨F', _, rfl, ⟨hb.1, ⟨_, h2, ssOf_filter l p⟩, hb.2⟩, h3, h4, h4.slice hx.2.2.1 (by have := hx.2.2.2; omega), fun k e => by
      rw [svV_block] at e
      exact ⟨hx.2.1 k e, fun h6 => (h5 k h6).2 e⟩⟩
theorem SW.abort (h : SW w0 W F g nx ss) (p : Int) (hp : Wf p) : Calls Try.prog 16 #[ptr g, .int .i64 p] W fun e W' => ∃ F', e = .returned (.int .i64 (takeP ss p).1) ∧ SW w0 W' F' g nx (takeP ss p).2.2 ∧ Tn F F' W W' := by
  obtain ⟨l, hl, rfl⟩ := h.st
  unfold takeP
  rw [findS_of]
  cases hf : look l p with
  | none =>
    refine (abort_no hl p hp hf).mono ?_
    rintro e W' ⟨rfl, rfl⟩
    exact ⟨F, rfl, ⟨h.bel, ⟨l, hl, rfl⟩, h.ge⟩, Tn.refl F W⟩
  | some x =>
    refine (abort_yes hl p hp hf).mono ?_
    rintro e W' ⟨F', rfl, h2, h3⟩
    have hb := h3.below h.bel h.ge
    exact ⟨F', rfl, ⟨hb.1, ⟨_, h2, ssOf_filter l p⟩, hb.2⟩, h3⟩
theorem SW.count (h : SW w0 W F g nx ss) : Calls Try.prog 18 #[ptr g] W fun e W' => e = .returned (.int .i64 (ss.length : Nat)) ∧ W = W' := by
  obtain ⟨l, hl, rfl⟩ := h.st
  refine (count_any hl).mono fun _ _ h1 => ⟨by rw [h1.1]; simp [ssOf], h1.2⟩
theorem SW.new (w0 W : World) (hb : Below w0.heap.size w0 W) : Calls Try.prog 7 #[] W fun e W' => ∃ g F, e = .returned (ptr g) ∧ SW w0 W' F g 0 [] ∧ Below W.heap.size W W' ∧ ∀ k, F k → W.heap.size ≤ k :=
  (new_any W).mono fun _ _ ⟨g, F, h1, h2, h3, h4⟩ => ⟨g, F, h1, ⟨hb.trans (h3.mono hb.size), ⟨[], h2, rfl⟩, fun k hk => Nat.le_trans hb.size (h4 k hk)⟩, h3, h4⟩
theorem SW.ch {W' : World} {S : Nat → Prop} (h : SW w0 W F g nx ss) (hc : Ch S W W') (hd : ∀ k, S k → ¬ F k ∧ w0.heap.size ≤ k) : SW w0 W' F g nx ss := by
  obtain ⟨l, hl, rfl⟩ := h.st
  exact ⟨h.bel.trans (hc.below h.bel.size fun i hi hs => by have := (hd i hs).2; omega), ⟨l, hl.ch hc fun k hk => (hd k hk).1, rfl⟩, h.ge⟩
theorem SW.later {W' : World} (h : SW w0 W F g nx ss) (hb : Below W.heap.size W W') : SW w0 W' F g nx ss := by
  obtain ⟨l, hl, rfl⟩ := h.st
  exact ⟨h.bel.trans (hb.mono h.bel.size), ⟨l, hl.later hb, rfl⟩, h.ge⟩
end
theorem bytes_lit (w : World) (b : List Nat) (hb : ∀ c ∈ b, c < 256) (hl : b.length ≤ 500) (k : Nat × Nat) : SliceIn (w.alloc (.cells (bcells b).toArray 5 k)) (.slice (some ⟨w.heap.size, 0, none⟩) b.length b.length) b := by
  refine ⟨_, b.length, rfl, ⟨Nat.le_refl _, by omega⟩, Or.inr ⟨w.heap.size, 0, rfl, fun j hj => ?_, lt256 _ hb⟩⟩
  have h1 := bcells_at b j hj
  simp only [World.cell?, World.alloc, Nat.zero_add]
  rw [Array.getElem?_push_size]
  show (if Option.isSome (none : Option Nat) = true then none else (bcells b).toArray[j]?) = _
  rw [if_neg (by decide), List.getElem?_toArray]
  exact h1
theorem freeze_alloc (w : World) (C : Array Value) (n : Nat) : (w.alloc (.cells C 5)).freeze ⟨w.heap.size, n, none⟩ 1 = w.alloc (.cells C 5 (n, n + 1)) := by
  have hm : ∀ (a : Array Obj) (x : Obj) (f : Obj → Obj), (a.push x).modify a.size f = a.push (f x) := by
    intro a x f
    apply Array.ext
    · simp
    · intro i h1 h2
      simp only [Array.getElem_modify, Array.getElem_push]
      by_cases h : a.size = i
      · subst h
        simp
      · have hi : i < a.size := by simp at h1; omega
        simp [h, hi]
  unfold World.freeze
  rw [if_neg (by decide)]
  show ({ w.alloc (.cells C 5) with heap := (w.heap.push (.cells C 5)).modify w.heap.size _ } : World) = _
  rw [hm]
  rfl
section
variable {w w0 : World} {a : Act} {o : Oper}
theorem run_cv28 {C : Array Value} (x : Operand) (ho : o.op = .convert 28 28 x) (n c : Nat) (hx : a.eval x = .slice (some ⟨w.heap.size, 0, none⟩) n c) : (execOp a.eval o).run Try.prog (w.alloc (.cells C 5)) = .ok (.value (.slice (some ⟨w.heap.size, 0, none⟩) n c)) (w.alloc (.cells C 5 (C.size, C.size + 1))) := by
  have hsh : (w.alloc (.cells C 5)).shape? w.heap.size = some (5, C.size) := by
    have : (w.alloc (.cells C 5)).heap[w.heap.size]? = some (.cells C 5) := by
      show (w.heap.push (.cells C 5))[w.heap.size]? = _
      simp
    unfold World.shape?
    rw [this]
  have hr : (convert 28 28 (.slice (some ⟨w.heap.size, 0, none⟩) n c)).run Try.prog (w.alloc (.cells C 5)) = .ok (.slice (some ⟨w.heap.size, 0, none⟩) n c) (w.alloc (.cells C 5 (C.size, C.size + 1))) := by
    rw [← freeze_alloc w C C.size]
    simp [convert, run_underlying Try.underlying28, run_underlying Try.underlying5, markStringish, hsh]
  simp only [execOp, ho, hx, hr, Sem.run_bind, Sem.run_pure, Result.andThen_ok]
theorem run_str (x : Operand) (ho : o.op = .convert 28 9 x) (v : Value) (cs : List Nat) (hx : a.eval x = v) (hin : SliceIn w v cs) : (execOp a.eval o).run Try.prog w = .ok (.value (.string (strOfNums (cs.map Int.ofNat)))) w := by simp [execOp, ho, hx, run_bstring hin]
theorem run_eqS (x y : Operand) (ho : o.op = .binOp .eql 9 x y 9) (s t : ByteArray) (hx : a.eval x = .string s) (hy : a.eval y = .string t) (h : s = t) : (execOp a.eval o).run Try.prog w = .ok (.value (.bool true)) w := by
  subst h
  refine run_binOp' x y ho _ _ _ hx hy ?_ ?_
  · rfl
  · simp [go_sem]
end
theorem run_lit97 {w : World} {a : Act} {o : Oper} (ho : o.op = .buildSlice 28 2 #[(0, .const (.int .u8 97)), (1, .const (.int .u8 98))]) : (execOp a.eval o).run Try.prog w = .ok (.value (.slice (some ⟨w.heap.size, 0, none⟩) 2 2)) (w.alloc (.cells #[.int .u8 97, .int .u8 98] 5)) := by
  have hr : (Instr.buildSlice 28 2 #[(0, .int .u8 97), (1, .int .u8 98)]).run Try.prog w = .ok (.slice (some ⟨w.heap.size, 0, none⟩) 2 2) (w.alloc (.cells #[.int .u8 97, .int .u8 98] 5)) := by kernel_rfl
  have e1 : a.eval (.const (.int .u8 97)) = .int .u8 97 := rfl
  have e2 : a.eval (.const (.int .u8 98)) = .int .u8 98 := rfl
  simp only [execOp, ho, List.map_toArray, List.map_cons, List.map_nil, e1, e2, hr, Sem.run_bind, Sem.run_pure, Result.andThen_ok]
theorem run_lit99 {w : World} {a : Act} {o : Oper} (ho : o.op = .buildSlice 28 1 #[(0, .const (.int .u8 99))]) : (execOp a.eval o).run Try.prog w = .ok (.value (.slice (some ⟨w.heap.size, 0, none⟩) 1 1)) (w.alloc (.cells #[.int .u8 99] 5)) := by
  have hr : (Instr.buildSlice 28 1 #[(0, .int .u8 99)]).run Try.prog w = .ok (.slice (some ⟨w.heap.size, 0, none⟩) 1 1) (w.alloc (.cells #[.int .u8 99] 5)) := by kernel_rfl
  have e1 : a.eval (.const (.int .u8 99)) = .int .u8 99 := rfl
  simp only [execOp, ho, List.map_toArray, List.map_cons, List.map_nil, e1, hr, Sem.run_bind, Sem.run_pure, Result.andThen_ok]
theorem shown_keep {W W' : World} {F F' : Nat → Prop} {v : Value} {cs : List Nat} (hi : SliceIn W v cs) (hd : ∀ k, v.ownBlock = some k → ¬ F k) (t : Tn F F' W W') : SliceIn W' v cs :=
  sliceK hi fun k e hk => t.ch.block k hk (hd k e)
set_option maxHeartbeats 4000000 in
set_option maxRecDepth 100000 in
theorem shown_any (w : World) : Calls Try.prog 6 #[] w fun e w' => e = .returned (.bool true) ∧ Below w.heap.size w w' := by
  obtain ⟨PQ, hPQ⟩ : ∃ PQ : Ending → World → Prop, PQ = fun (e : Ending) (w' : World) => e = .returned (.bool true) ∧ Below w.heap.size w w' := ⟨_, rfl⟩
  have HPQ : Hid (PQ = fun (e : Ending) (w' : World) => e = .returned (.bool true) ∧ Below w.heap.size w w') := hPQ
  rw [← hPQ]
  clear hPQ
  go_enter Try.func6, Try.ntmps6
  go_upto_region 0 with fail
  refine wp_region_lit ?_
  refine wl rfl (.bool false) _ (run_asZ (.const (.bool false)) rfl (.bool false) rfl) ?_
  simp only [Act.put, List.setIfInBounds_toArray, List.set_cons_zero]
  refine wpList_nil ?_
  go_upto_region 1 with fail
  refine wp_region_lit ?_
  refine wpList_callW eN7 [] _ rfl rfl [] rfl ?_
  refine (SW.new w w (Below.refl _ w)).mono ?_
  rintro e w1 ⟨g, F1, rfl, s1, _, _⟩
  refine ⟨_, rfl, ?_⟩
  have H1 : Hid (SW w w1 F1 g 0 []) := s1
  clear s1
  simp only [Act.put, List.setIfInBounds_toArray, List.set_cons_succ, List.set_cons_zero]
  refine wl rfl (ptr g) _ (run_asZ (.tmp 12) rfl (ptr g) rfl) ?_
  simp only [Act.put, List.setIfInBounds_toArray, List.set_cons_succ, List.set_cons_zero]
  refine wpList_nil ?_
  go_upto_region 2 with fail
  refine wp_region_lit ?_
  refine wl rfl (ptr g) _ (run_mvZ (.tmp 1) rfl (ptr g) rfl) ?_
  simp only [Act.put, List.setIfInBounds_toArray, List.set_cons_succ, List.set_cons_zero]
  refine wl rfl (.bool false) _ (run_binOp' (.tmp 13) (.const (.pointer none)) rfl _ _ _ rfl rfl rfl (by kernel_rfl)) ?_
  simp only [Act.put, List.setIfInBounds_toArray, List.set_cons_succ, List.set_cons_zero]
  refine wpList_nil ?_
  go_upto_region 4 with fail
  refine wp_region_lit ?_
  refine wl rfl (ptr g) _ (run_mvZ (.tmp 1) rfl (ptr g) rfl) ?_
  simp only [Act.put, List.setIfInBounds_toArray, List.set_cons_succ, List.set_cons_zero]
  refine wpList_callW eN10 [.tmp 16] _ rfl rfl [(ptr g)] rfl ?_
  refine (SW.begin H1.out (by decide)).mono ?_
  rintro e w2 ⟨F2, rfl, s2, _⟩
  refine ⟨_, rfl, ?_⟩
  have H2 : Hid (SW w w2 F2 g 1 [(0, [])]) := s2
  clear s2 H1
  simp only [Act.put, List.setIfInBounds_toArray, List.set_cons_succ, List.set_cons_zero]
  refine wl rfl (.tuple #[(.int .i64 0), (.int .i64 0)]) _ (run_mvZ (.tmp 17) rfl (.tuple #[(.int .i64 0), (.int .i64 0)]) rfl) ?_
  simp only [Act.put, List.setIfInBounds_toArray, List.set_cons_succ, List.set_cons_zero]
  refine wl rfl (.int .i64 0) _ (run_extZ (.tmp 15) 0 rfl #[(.int .i64 0), (.int .i64 0)] rfl (.int .i64 0) rfl) ?_
  simp only [Act.put, List.setIfInBounds_toArray, List.set_cons_succ, List.set_cons_zero]
  refine wl rfl (.int .i64 0) _ (run_extZ (.tmp 15) 1 rfl #[(.int .i64 0), (.int .i64 0)] rfl (.int .i64 0) rfl) ?_
  simp only [Act.put, List.setIfInBounds_toArray, List.set_cons_succ, List.set_cons_zero]
  refine wl rfl (.int .i64 0) _ (run_asZ (.tmp 18) rfl (.int .i64 0) rfl) ?_
  simp only [Act.put, List.setIfInBounds_toArray, List.set_cons_succ, List.set_cons_zero]
  refine wl rfl (.int .i64 0) _ (run_asZ (.tmp 19) rfl (.int .i64 0) rfl) ?_
  simp only [Act.put, List.setIfInBounds_toArray, List.set_cons_succ, List.set_cons_zero]
  refine wpList_nil ?_
  go_upto_region 5 with fail
  refine wp_region_lit ?_
  refine wl rfl (ptr g) _ (run_mvZ (.tmp 1) rfl (ptr g) rfl) ?_
  simp only [Act.put, List.setIfInBounds_toArray, List.set_cons_succ, List.set_cons_zero]
  refine wpList_callW eN10 [.tmp 21] _ rfl rfl [(ptr g)] rfl ?_
  refine (SW.begin H2.out (by decide)).mono ?_
  rintro e w3 ⟨F3, rfl, s3, _⟩
  refine ⟨_, rfl, ?_⟩
  have H3 : Hid (SW w w3 F3 g 2 [(0, []), (1, [])]) := s3
  clear s3 H2
  simp only [Act.put, List.setIfInBounds_toArray, List.set_cons_succ, List.set_cons_zero]
  refine wl rfl (.tuple #[(.int .i64 1), (.int .i64 0)]) _ (run_mvZ (.tmp 22) rfl (.tuple #[(.int .i64 1), (.int .i64 0)]) rfl) ?_
  simp only [Act.put, List.setIfInBounds_toArray, List.set_cons_succ, List.set_cons_zero]
  refine wl rfl (.int .i64 1) _ (run_extZ (.tmp 20) 0 rfl #[(.int .i64 1), (.int .i64 0)] rfl (.int .i64 1) rfl) ?_
  simp only [Act.put, List.setIfInBounds_toArray, List.set_cons_succ, List.set_cons_zero]
  refine wl rfl (.int .i64 0) _ (run_extZ (.tmp 20) 1 rfl #[(.int .i64 1), (.int .i64 0)] rfl (.int .i64 0) rfl) ?_
  simp only [Act.put, List.setIfInBounds_toArray, List.set_cons_succ, List.set_cons_zero]
  refine wl rfl (.int .i64 1) _ (run_asZ (.tmp 23) rfl (.int .i64 1) rfl) ?_
  simp only [Act.put, List.setIfInBounds_toArray, List.set_cons_succ, List.set_cons_zero]
  refine wl rfl (.int .i64 0) _ (run_asZ (.tmp 24) rfl (.int .i64 0) rfl) ?_
  simp only [Act.put, List.setIfInBounds_toArray, List.set_cons_succ, List.set_cons_zero]
  refine wpList_nil ?_
  go_upto_region 6 with fail
  refine wp_region_lit ?_
  refine wl rfl (ptr g) _ (run_mvZ (.tmp 1) rfl (ptr g) rfl) ?_
  simp only [Act.put, List.setIfInBounds_toArray, List.set_cons_succ, List.set_cons_zero]
  refine wl rfl (.slice (some ⟨w3.heap.size, 0, none⟩) 2 2) _ (run_lit97 rfl) ?_
  simp only [Act.put, List.setIfInBounds_toArray, List.set_cons_succ, List.set_cons_zero]
  refine wl rfl (.slice (some ⟨w3.heap.size, 0, none⟩) 2 2) _ (run_cv28 (w := w3) (.tmp 26) rfl _ _ rfl) ?_
  have HB : Hid (SliceIn (w3.alloc (.cells #[.int .u8 97, .int .u8 98] 5 (2, 2 + 1))) (.slice (some ⟨w3.heap.size, 0, none⟩) 2 2) [97, 98] ∧ Below w3.heap.size w3 (w3.alloc (.cells #[.int .u8 97, .int .u8 98] 5 (2, 2 + 1)))) := ⟨bytes_lit w3 [97, 98] (by decide) (by decide) _, below_alloc w3 _⟩
  obtain ⟨w4, hW_⟩ : ∃ W, W = w3.alloc (.cells #[.int .u8 97, .int .u8 98] 5 (2, 2 + 1)) := ⟨_, rfl⟩
  obtain ⟨vw4, hq_⟩ : ∃ q, q = Value.slice (some ⟨w3.heap.size, 0, none⟩) 2 2 := ⟨_, rfl⟩
  rw [← hW_, ← hq_] at HB
  change wpList _ _ _ _ _ (w3.alloc (.cells #[.int .u8 97, .int .u8 98] 5 (2, 2 + 1)))
  rw [← hW_, ← hq_]
  have H4 : Hid (SW w w4 F3 g 2 [(0, []), (1, [])] ∧ SliceIn w4 vw4 [97, 98]) := ⟨H3.out.later HB.out.2, HB.out.1⟩
  clear hW_ hq_ HB H3
  simp only [Act.put, List.setIfInBounds_toArray, List.set_cons_succ, List.set_cons_zero]
  refine wpList_callW eN12 [.tmp 25, .const (.int .i64 0), .tmp 27] _ rfl rfl [(ptr g), .int .i64 0, vw4] rfl ?_
  refine (SW.add H4.out.1 0 (Wf.of (by decide)) vw4 [97, 98] H4.out.2).mono ?_
  rintro e w5 ⟨F5, rfl, s5, _⟩
  refine ⟨_, rfl, ?_⟩
  have H5 : Hid (SW w w5 F5 g 2 [(0, [97, 98]), (1, [])]) := s5
  clear s5 H4
  simp only [Act.put, List.setIfInBounds_toArray, List.set_cons_succ, List.set_cons_zero]
  refine wl rfl (.int .i64 0) _ (run_asZ (.tmp 28) rfl (.int .i64 0) rfl) ?_
  simp only [Act.put, List.setIfInBounds_toArray, List.set_cons_succ, List.set_cons_zero]
  refine wpList_nil ?_
  go_upto_region 7 with fail
  refine wp_region_lit ?_
  refine wl rfl (ptr g) _ (run_mvZ (.tmp 1) rfl (ptr g) rfl) ?_
  simp only [Act.put, List.setIfInBounds_toArray, List.set_cons_succ, List.set_cons_zero]
  refine wl rfl (.slice (some ⟨w5.heap.size, 0, none⟩) 1 1) _ (run_lit99 rfl) ?_
  simp only [Act.put, List.setIfInBounds_toArray, List.set_cons_succ, List.set_cons_zero]
  refine wl rfl (.slice (some ⟨w5.heap.size, 0, none⟩) 1 1) _ (run_cv28 (w := w5) (.tmp 30) rfl _ _ rfl) ?_
  have HB : Hid (SliceIn (w5.alloc (.cells #[.int .u8 99] 5 (1, 1 + 1))) (.slice (some ⟨w5.heap.size, 0, none⟩) 1 1) [99] ∧ Below w5.heap.size w5 (w5.alloc (.cells #[.int .u8 99] 5 (1, 1 + 1)))) := ⟨bytes_lit w5 [99] (by decide) (by decide) _, below_alloc w5 _⟩
  obtain ⟨w6, hW_⟩ : ∃ W, W = w5.alloc (.cells #[.int .u8 99] 5 (1, 1 + 1)) := ⟨_, rfl⟩
  obtain ⟨vw6, hq_⟩ : ∃ q, q = Value.slice (some ⟨w5.heap.size, 0, none⟩) 1 1 := ⟨_, rfl⟩
  rw [← hW_, ← hq_] at HB
  change wpList _ _ _ _ _ (w5.alloc (.cells #[.int .u8 99] 5 (1, 1 + 1)))
  rw [← hW_, ← hq_]
  have H6 : Hid (SW w w6 F5 g 2 [(0, [97, 98]), (1, [])] ∧ SliceIn w6 vw6 [99]) := ⟨H5.out.later HB.out.2, HB.out.1⟩
  clear hW_ hq_ HB H5
  simp only [Act.put, List.setIfInBounds_toArray, List.set_cons_succ, List.set_cons_zero]
  refine wpList_callW eN12 [.tmp 29, .const (.int .i64 0), .tmp 31] _ rfl rfl [(ptr g), .int .i64 0, vw6] rfl ?_
  refine (SW.add H6.out.1 0 (Wf.of (by decide)) vw6 [99] H6.out.2).mono ?_
  rintro e w7 ⟨F7, rfl, s7, _⟩
  refine ⟨_, rfl, ?_⟩
  have H7 : Hid (SW w w7 F7 g 2 [(0, [97, 98, 99]), (1, [])]) := s7
  clear s7 H6
  simp only [Act.put, List.setIfInBounds_toArray, List.set_cons_succ, List.set_cons_zero]
  refine wl rfl (.int .i64 0) _ (run_asZ (.tmp 32) rfl (.int .i64 0) rfl) ?_
  simp only [Act.put, List.setIfInBounds_toArray, List.set_cons_succ, List.set_cons_zero]
  refine wpList_nil ?_
  go_upto_region 8 with fail
  refine wp_region_lit ?_
  refine wl rfl (ptr g) _ (run_mvZ (.tmp 1) rfl (ptr g) rfl) ?_
  simp only [Act.put, List.setIfInBounds_toArray, List.set_cons_succ, List.set_cons_zero]
  refine wpList_callW eN14 [.tmp 34, .const (.int .i64 0)] _ rfl rfl [(ptr g), .int .i64 0] rfl ?_
  refine (SW.take H7.out 0 (Wf.of (by decide))).mono ?_
  rintro e w8 ⟨F8, vx, rfl, s8, t8, o8, i8, d8⟩
  refine ⟨_, rfl, ?_⟩
  have H8 : Hid (SW w w8 F8 g 2 [(1, [])] ∧ BOwn w8 0 vx [97, 98, 99] ∧ SliceIn w8 vx [97, 98, 99] ∧ ∀ k, vx.ownBlock = some k → ¬ F8 k) := ⟨s8, o8, i8, fun k e => (d8 k e).2⟩
  clear s8 t8 o8 i8 d8 H7
  simp only [Act.put, List.setIfInBounds_toArray, List.set_cons_succ, List.set_cons_zero]
  refine wl rfl (.tuple #[vx, (.int .i64 0)]) _ (run_mvZ (.tmp 35) rfl (.tuple #[vx, (.int .i64 0)]) rfl) ?_
  simp only [Act.put, List.setIfInBounds_toArray, List.set_cons_succ, List.set_cons_zero]
  refine wl rfl vx _ (run_extZ (.tmp 33) 0 rfl #[vx, (.int .i64 0)] rfl vx rfl) ?_
  simp only [Act.put, List.setIfInBounds_toArray, List.set_cons_succ, List.set_cons_zero]
  refine wl rfl (.int .i64 0) _ (run_extZ (.tmp 33) 1 rfl #[vx, (.int .i64 0)] rfl (.int .i64 0) rfl) ?_
  simp only [Act.put, List.setIfInBounds_toArray, List.set_cons_succ, List.set_cons_zero]
  refine wl rfl vx _ (run_asZ (.tmp 36) rfl vx rfl) ?_
  simp only [Act.put, List.setIfInBounds_toArray, List.set_cons_succ, List.set_cons_zero]
  refine wl rfl (.int .i64 0) _ (run_asZ (.tmp 37) rfl (.int .i64 0) rfl) ?_
  simp only [Act.put, List.setIfInBounds_toArray, List.set_cons_succ, List.set_cons_zero]
  refine wpList_nil ?_
  go_upto_region 9 with fail
  refine wp_region_lit ?_
  refine wl rfl (ptr g) _ (run_mvZ (.tmp 1) rfl (ptr g) rfl) ?_
  simp only [Act.put, List.setIfInBounds_toArray, List.set_cons_succ, List.set_cons_zero]
  refine wpList_callW eN14 [.tmp 39, .const (.int .i64 0)] _ rfl rfl [(ptr g), .int .i64 0] rfl ?_
  refine (SW.take H8.out.1 0 (Wf.of (by decide))).mono ?_
  rintro e w9 ⟨F9, vy, rfl, s9, t9, o9, i9, d9⟩
  refine ⟨_, rfl, ?_⟩
  have H9 : Hid (SW w w9 F9 g 2 [(1, [])] ∧ SliceIn w9 vx [97, 98, 99]) := ⟨s9, shown_keep H8.out.2.2.1 H8.out.2.2.2 t9⟩
  clear s9 t9 o9 i9 d9 H8
  simp only [Act.put, List.setIfInBounds_toArray, List.set_cons_succ, List.set_cons_zero]
  refine wl rfl (.tuple #[vy, (.int .i64 130)]) _ (run_mvZ (.tmp 40) rfl (.tuple #[vy, (.int .i64 130)]) rfl) ?_
  simp only [Act.put, List.setIfInBounds_toArray, List.set_cons_succ, List.set_cons_zero]
  refine wl rfl vy _ (run_extZ (.tmp 38) 0 rfl #[vy, (.int .i64 130)] rfl vy rfl) ?_
  simp only [Act.put, List.setIfInBounds_toArray, List.set_cons_succ, List.set_cons_zero]
  refine wl rfl (.int .i64 130) _ (run_extZ (.tmp 38) 1 rfl #[vy, (.int .i64 130)] rfl (.int .i64 130) rfl) ?_
  simp only [Act.put, List.setIfInBounds_toArray, List.set_cons_succ, List.set_cons_zero]
  refine wl rfl vy _ (run_asZ (.tmp 41) rfl vy rfl) ?_
  simp only [Act.put, List.setIfInBounds_toArray, List.set_cons_succ, List.set_cons_zero]
  refine wl rfl (.int .i64 130) _ (run_asZ (.tmp 42) rfl (.int .i64 130) rfl) ?_
  simp only [Act.put, List.setIfInBounds_toArray, List.set_cons_succ, List.set_cons_zero]
  refine wpList_nil ?_
  go_upto_region 10 with fail
  refine wp_region_lit ?_
  refine wl rfl (.int .i64 0) _ (run_mvZ (.tmp 2) rfl (.int .i64 0) rfl) ?_
  simp only [Act.put, List.setIfInBounds_toArray, List.set_cons_succ, List.set_cons_zero]
  refine wl rfl (.bool true) _ (run_eqZ (.tmp 43) (.const (.int .i64 0)) rfl (0) (0) rfl rfl true rfl) ?_
  simp only [Act.put, List.setIfInBounds_toArray, List.set_cons_succ, List.set_cons_zero]
  refine wl rfl (.bool true) _ (run_mvZ (.tmp 44) rfl (.bool true) rfl) ?_
  simp only [Act.put, List.setIfInBounds_toArray, List.set_cons_succ, List.set_cons_zero]
  refine wl (by kernel_rfl) (.int .i64 1) _ (run_mvZ (.tmp 4) rfl (.int .i64 1) rfl) ?_
  simp only [Act.put, List.setIfInBounds_toArray, List.set_cons_succ, List.set_cons_zero]
  refine wl (by kernel_rfl) (.bool true) _ (run_eqZ (.tmp 46) (.const (.int .i64 1)) rfl (1) (1) rfl rfl true rfl) ?_
  simp only [Act.put, List.setIfInBounds_toArray, List.set_cons_succ, List.set_cons_zero]
  refine wl rfl (.bool true) _ (run_pickZ (.tmp 45) (.tmp 47) (.const (.bool false)) rfl true (.bool true) rfl rfl) ?_
  simp only [Act.put, List.setIfInBounds_toArray, List.set_cons_succ, List.set_cons_zero]
  refine wl rfl (.bool true) _ (run_mvZ (.tmp 48) rfl (.bool true) rfl) ?_
  simp only [Act.put, List.setIfInBounds_toArray, List.set_cons_succ, List.set_cons_zero]
  refine wl (by kernel_rfl) (.int .i64 0) _ (run_mvZ (.tmp 3) rfl (.int .i64 0) rfl) ?_
  simp only [Act.put, List.setIfInBounds_toArray, List.set_cons_succ, List.set_cons_zero]
  refine wl (by kernel_rfl) (.bool true) _ (run_eqZ (.tmp 50) (.const (.int .i64 0)) rfl (0) (0) rfl rfl true rfl) ?_
  simp only [Act.put, List.setIfInBounds_toArray, List.set_cons_succ, List.set_cons_zero]
  refine wl rfl (.bool true) _ (run_pickZ (.tmp 49) (.tmp 51) (.const (.bool false)) rfl true (.bool true) rfl rfl) ?_
  simp only [Act.put, List.setIfInBounds_toArray, List.set_cons_succ, List.set_cons_zero]
  refine wl rfl (.bool true) _ (run_mvZ (.tmp 52) rfl (.bool true) rfl) ?_
  simp only [Act.put, List.setIfInBounds_toArray, List.set_cons_succ, List.set_cons_zero]
  refine wl (by kernel_rfl) (.int .i64 0) _ (run_mvZ (.tmp 5) rfl (.int .i64 0) rfl) ?_
  simp only [Act.put, List.setIfInBounds_toArray, List.set_cons_succ, List.set_cons_zero]
  refine wl (by kernel_rfl) (.bool true) _ (run_eqZ (.tmp 54) (.const (.int .i64 0)) rfl (0) (0) rfl rfl true rfl) ?_
  simp only [Act.put, List.setIfInBounds_toArray, List.set_cons_succ, List.set_cons_zero]
  refine wl rfl (.bool true) _ (run_pickZ (.tmp 53) (.tmp 55) (.const (.bool false)) rfl true (.bool true) rfl rfl) ?_
  simp only [Act.put, List.setIfInBounds_toArray, List.set_cons_succ, List.set_cons_zero]
  refine wl rfl (.bool true) _ (run_mvZ (.tmp 56) rfl (.bool true) rfl) ?_
  simp only [Act.put, List.setIfInBounds_toArray, List.set_cons_succ, List.set_cons_zero]
  refine wl (by kernel_rfl) (.int .i64 0) _ (run_mvZ (.tmp 6) rfl (.int .i64 0) rfl) ?_
  simp only [Act.put, List.setIfInBounds_toArray, List.set_cons_succ, List.set_cons_zero]
  refine wl (by kernel_rfl) (.bool true) _ (run_eqZ (.tmp 58) (.const (.int .i64 0)) rfl (0) (0) rfl rfl true rfl) ?_
  simp only [Act.put, List.setIfInBounds_toArray, List.set_cons_succ, List.set_cons_zero]
  refine wl rfl (.bool true) _ (run_pickZ (.tmp 57) (.tmp 59) (.const (.bool false)) rfl true (.bool true) rfl rfl) ?_
  simp only [Act.put, List.setIfInBounds_toArray, List.set_cons_succ, List.set_cons_zero]
  refine wl rfl (.bool true) _ (run_mvZ (.tmp 60) rfl (.bool true) rfl) ?_
  simp only [Act.put, List.setIfInBounds_toArray, List.set_cons_succ, List.set_cons_zero]
  refine wl (by kernel_rfl) (.int .i64 0) _ (run_mvZ (.tmp 7) rfl (.int .i64 0) rfl) ?_
  simp only [Act.put, List.setIfInBounds_toArray, List.set_cons_succ, List.set_cons_zero]
  refine wl (by kernel_rfl) (.bool true) _ (run_eqZ (.tmp 62) (.const (.int .i64 0)) rfl (0) (0) rfl rfl true rfl) ?_
  simp only [Act.put, List.setIfInBounds_toArray, List.set_cons_succ, List.set_cons_zero]
  refine wl rfl (.bool true) _ (run_pickZ (.tmp 61) (.tmp 63) (.const (.bool false)) rfl true (.bool true) rfl rfl) ?_
  simp only [Act.put, List.setIfInBounds_toArray, List.set_cons_succ, List.set_cons_zero]
  refine wl rfl (.bool true) _ (run_mvZ (.tmp 64) rfl (.bool true) rfl) ?_
  simp only [Act.put, List.setIfInBounds_toArray, List.set_cons_succ, List.set_cons_zero]
  refine wl (by kernel_rfl) (.int .i64 0) _ (run_mvZ (.tmp 9) rfl (.int .i64 0) rfl) ?_
  simp only [Act.put, List.setIfInBounds_toArray, List.set_cons_succ, List.set_cons_zero]
  refine wl (by kernel_rfl) (.bool true) _ (run_eqZ (.tmp 66) (.const (.int .i64 0)) rfl (0) (0) rfl rfl true rfl) ?_
  simp only [Act.put, List.setIfInBounds_toArray, List.set_cons_succ, List.set_cons_zero]
  refine wl rfl (.bool true) _ (run_pickZ (.tmp 65) (.tmp 67) (.const (.bool false)) rfl true (.bool true) rfl rfl) ?_
  simp only [Act.put, List.setIfInBounds_toArray, List.set_cons_succ, List.set_cons_zero]
  refine wl rfl (.bool true) _ (run_mvZ (.tmp 68) rfl (.bool true) rfl) ?_
  simp only [Act.put, List.setIfInBounds_toArray, List.set_cons_succ, List.set_cons_zero]
  refine wl (by kernel_rfl) vx _ (run_mvZ (.tmp 8) rfl vx rfl) ?_
  simp only [Act.put, List.setIfInBounds_toArray, List.set_cons_succ, List.set_cons_zero]
  refine wl (by kernel_rfl) (.string (strOfNums ([97, 98, 99].map Int.ofNat))) _ (run_str (.tmp 70) rfl vx [97, 98, 99] rfl H9.out.2) ?_
  simp only [Act.put, List.setIfInBounds_toArray, List.set_cons_succ, List.set_cons_zero]
  refine wl (by kernel_rfl) (.bool true) _ (run_eqS (.tmp 71) (.const (.string { data := #[97, 98, 99] })) rfl (strOfNums ([97, 98, 99].map Int.ofNat)) { data := #[97, 98, 99] } rfl rfl (by decide)) ?_
  simp only [Act.put, List.setIfInBounds_toArray, List.set_cons_succ, List.set_cons_zero]
  refine wl rfl (.bool true) _ (run_pickZ (.tmp 69) (.tmp 72) (.const (.bool false)) rfl true (.bool true) rfl rfl) ?_
  simp only [Act.put, List.setIfInBounds_toArray, List.set_cons_succ, List.set_cons_zero]
  refine wl rfl (.bool true) _ (run_mvZ (.tmp 73) rfl (.bool true) rfl) ?_
  simp only [Act.put, List.setIfInBounds_toArray, List.set_cons_succ, List.set_cons_zero]
  refine wl (by kernel_rfl) (.int .i64 130) _ (run_mvZ (.tmp 11) rfl (.int .i64 130) rfl) ?_
  simp only [Act.put, List.setIfInBounds_toArray, List.set_cons_succ, List.set_cons_zero]
  refine wl (by kernel_rfl) (.bool true) _ (run_eqZ (.tmp 75) (.const (.int .i64 130)) rfl (130) (130) rfl rfl true rfl) ?_
  simp only [Act.put, List.setIfInBounds_toArray, List.set_cons_succ, List.set_cons_zero]
  refine wl rfl (.bool true) _ (run_pickZ (.tmp 74) (.tmp 76) (.const (.bool false)) rfl true (.bool true) rfl rfl) ?_
  simp only [Act.put, List.setIfInBounds_toArray, List.set_cons_succ, List.set_cons_zero]
  refine wl rfl (.bool true) _ (run_mvZ (.tmp 77) rfl (.bool true) rfl) ?_
  simp only [Act.put, List.setIfInBounds_toArray, List.set_cons_succ, List.set_cons_zero]
  refine wl (by kernel_rfl) (ptr g) _ (run_mvZ (.tmp 1) rfl (ptr g) rfl) ?_
  simp only [Act.put, List.setIfInBounds_toArray, List.set_cons_succ, List.set_cons_zero]
  refine wpList_callW eN18 [.tmp 79] _ (by kernel_rfl) rfl [(ptr g)] rfl ?_
  refine (SW.count H9.out.1).mono ?_
  rintro e w10 ⟨rfl, e10⟩
  refine ⟨_, rfl, ?_⟩
  subst e10
  simp only [Act.put, List.setIfInBounds_toArray, List.set_cons_succ, List.set_cons_zero]
  refine wl (by kernel_rfl) (.bool true) _ (run_eqZ (.tmp 80) (.const (.int .i64 1)) rfl ((1 : Nat) : Int) 1 rfl rfl true rfl) ?_
  simp only [Act.put, List.setIfInBounds_toArray, List.set_cons_succ, List.set_cons_zero]
  refine wl rfl (.bool true) _ (run_pickZ (.tmp 78) (.tmp 81) (.const (.bool false)) rfl true (.bool true) rfl rfl) ?_
  simp only [Act.put, List.setIfInBounds_toArray, List.set_cons_succ, List.set_cons_zero]
  refine wl rfl (.bool true) _ (run_asZ (.tmp 82) rfl (.bool true) rfl) ?_
  simp only [Act.put, List.setIfInBounds_toArray, List.set_cons_zero]
  refine wpList_nil ?_
  go_wp2_with fail
  rw [HPQ.out]
  exact ⟨rfl, H9.out.1.bel⟩

end Go.Proofs.Ytcjanjofjnedbaa

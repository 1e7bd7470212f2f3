/- Layer 9: the document's examples. Layer 9: what comes in, and what the laws keep. -/
import Derived.Test.YtkpnflgnhhfjoaaDoorZ34
namespace Go.Proofs.YtkpnflgnhhfjoaaDoor
open Go.RowKit Go.Maps

theorem eN9 : EntersF 9 := Go.Proofs.enters_of Tryd.func9 (by kernel_rfl) rfl
theorem eN10 : EntersF 10 := Go.Proofs.enters_of Tryd.func10 (by kernel_rfl) rfl
theorem eN14 : EntersF 14 := Go.Proofs.enters_of Tryd.func14 (by kernel_rfl) rfl
theorem eN22 : EntersF 22 := Go.Proofs.enters_of Tryd.func22 (by kernel_rfl) rfl
theorem eN23 : EntersF 23 := Go.Proofs.enters_of Tryd.func23 (by kernel_rfl) rfl
theorem eN25 : EntersF 25 := Go.Proofs.enters_of Tryd.func25 (by kernel_rfl) rfl
theorem eN26 : EntersF 26 := Go.Proofs.enters_of Tryd.func26 (by kernel_rfl) rfl
theorem eN12 : EntersF 12 := Go.Proofs.enters_of Tryd.func12 (by kernel_rfl) rfl
theorem eN16 : EntersF 16 := Go.Proofs.enters_of Tryd.func16 (by kernel_rfl) rfl
theorem eN18 : EntersF 18 := Go.Proofs.enters_of Tryd.func18 (by kernel_rfl) rfl
theorem eN20 : EntersF 20 := Go.Proofs.enters_of Tryd.func20 (by kernel_rfl) rfl
theorem eN21 : EntersF 21 := Go.Proofs.enters_of Tryd.func21 (by kernel_rfl) rfl
theorem eN24 : EntersF 24 := Go.Proofs.enters_of Tryd.func24 (by kernel_rfl) rfl
theorem eN47 : EntersF 47 := Go.Proofs.enters_of Tryd.func47 (by kernel_rfl) rfl
theorem eN48 : EntersF 48 := Go.Proofs.enters_of Tryd.func48 (by kernel_rfl) rfl
theorem eN49 : EntersF 49 := Go.Proofs.enters_of Tryd.func49 (by kernel_rfl) rfl
theorem eN50 : EntersF 50 := Go.Proofs.enters_of Tryd.func50 (by kernel_rfl) rfl
theorem newPl_rd (n p : Nat) : (newPl [(n : Int)] []).rd 0 p = zeros := by
  have hd := (newPl_one n).disk 0 (by simp)
  show Option.getD none ((fresh ((newPl [(n : Int)] []).tape 0) ((newPl [(n : Int)] []).size 0)).getD p zeros) = zeros
  rw [hd.1, hd.2]
  unfold fresh
  rw [if_neg (by decide), List.getD_eq_getElem?_getD, List.getElem?_replicate]
  split <;> rfl
theorem newPl_lv (n : Nat) (hn : 1 ≤ n ∧ n ≤ 4096) : Lv (newPl [(n : Int)] []) 0 :=
  ⟨newPl_wf _ _ (shapeOk_disk n hn), rfl, by rw [(newPl_one n).n]; simp, ((newPl_one n).disk 0 (by simp)).1⟩
theorem newPl_last (n k : Nat) : lastOf ((newPl [(n : Int)] []).rd 0) k = none := by
  unfold lastOf
  rw [headAt_zeros (newPl_rd n 0)]
def zX : Nat → List Nat := fun _ => List.replicate 512 0
theorem zX_imgs : Imgs zX := fun p => ⟨by unfold zX; rw [List.length_replicate], fun c hc => by unfold zX at hc; rw [List.mem_replicate] at hc; rw [hc.2]; decide⟩
theorem PlW.first {w W : World} {c : Nat → Colour} {g s n : Nat} (hs : 1 ≤ s ∧ s ≤ 4096) (hn : n = pagesN s) (hn1 : 1 ≤ n) (h : PlW w W c g (newPl [(s : Int)] []) [s] [] 0) : Calls Tryd.prog 11 #[ptr g, .int .i64 0] W fun e W' => e = .returned (.int .i64 0) ∧ ∃ c' m', PlW w W' c' g m' [s] [] 6 ∧ PgO m' 0 n (noHd 1) noneP zX ∧ m'.fuse < 0 := by
  refine (h.formatNew (i := 0) (n := n) (X := zX) (by omega) (by simp) (newPl_lv s hs) (by show (-1 : Int) < 0; decide) hn hn1 (newPl_last s n) zX_imgs 0).mono ?_
  rintro e W' ⟨rfl, c', m', _, h2, h3, _, h5⟩
  exact ⟨rfl, c', m', h2, h3, h5⟩
theorem PlW.openZ {w W : World} {c : Nat → Colour} {g K n : Nat} {m : Pl} {ds ts : List Nat} {L : Hd} {X : Nat → List Nat} (h : PlW w W c g m ds ts K) (hK : K ≤ 1000000000000) (hi : 0 < ds.length) (o : PgO m 0 n L L.used X) : Calls Tryd.prog 13 #[ptr g, .int .i64 0] W fun e W' => ∃ gp, e = .returned (.tuple #[ptr gp, .int .i64 0]) ∧ Below W.heap.size W W' ∧ PgW w W' c gp g m ds ts 0 n L L.used X K := by
  refine (h.opens hK hi o).mono ?_
  rintro e W' ⟨gp, _, rfl, h1, h2⟩
  exact ⟨gp, rfl, h1, h2⟩
section
variable {w W W' : World} {c : Nat → Colour} {gp g : Nat} {m m' : Pl} {ds ts : List Nat} {i n : Nat} {L : Hd} {U : List Nat} {X : Nat → List Nat} {K : Nat}
/-- Put with the power sure -/
theorem PgW.putC (h : PgW w W c gp g m ds ts i n L U X K) (hK : K ≤ 1000000000000) (hf : m.fuse < 0) (v : Value) (b : List Nat) (hv : SliceIn W v b) : Calls Tryd.prog 15 #[ptr gp, v] W fun e W' => ∃ c', Stp W W' c c' gp ∧
    ((500 < b.length ∧ e = ret2 0 5 ∧ PgW w W' c' gp g m ds ts i n L U X K) ∨
     (b.length ≤ 500 ∧ leastP L U n = none ∧ e = ret2 0 3 ∧ PgW w W' c' gp g m ds ts i n L U X K) ∨
     (∃ p m', b.length ≤ 500 ∧ leastP L U n = some p ∧ e = ret2 p 0 ∧ m'.fuse < 0 ∧ PgW w W' c' gp g m' ds ts i n L (withP U p) (updP X p (imOf b)) (K + 8))) := by
  refine (h.put hK v b hv).mono ?_
  rintro e W' ⟨c', h1, h2 | h2 | ⟨p, m', _, _, h2, _⟩ | ⟨p, m', h2, h3, h4, h5, h6⟩⟩
  · exact ⟨c', h1, Or.inl h2⟩
  · exact ⟨c', h1, Or.inr (Or.inl h2)⟩
  · omega
  · exact ⟨c', h1, Or.inr (Or.inr ⟨p, m', h2, h3, h4, h5 hf, h6⟩)⟩
theorem PgW.putOk (h : PgW w W c gp g m ds ts i n L U X K) (hK : K ≤ 1000000000000) (hf : m.fuse < 0) (v : Value) (b : List Nat) (hv : SliceIn W v b) (hb : b.length ≤ 500) (p : Nat) (hp : leastP L U n = some p) : Calls Tryd.prog 15 #[ptr gp, v] W fun e W' => ∃ c' m', e = ret2 p 0 ∧ Stp W W' c c' gp ∧ m'.fuse < 0 ∧ PgW w W' c' gp g m' ds ts i n L (withP U p) (updP X p (imOf b)) (K + 8) := by
  refine (h.putC hK hf v b hv).mono ?_
  rintro e W' ⟨c', h1, ⟨h2, _⟩ | ⟨_, h2, _⟩ | ⟨p', m', h2, h3, h4, h5, h6⟩⟩
  · omega
  · rw [hp] at h2; cases h2
  · rw [hp] at h3
    injection h3 with h3
    subst h3
    exact ⟨c', m', h4, h1, h5, h6⟩
theorem PgW.comC (h : PgW w W c gp g m ds ts i n L U X K) (hK : K ≤ 1000000000000) (hf : m.fuse < 0) (r : Int) (hr : rootOk U r = true) : Calls Tryd.prog 19 #[ptr gp, .int .i64 r] W fun e W' => ∃ c' m', e = .returned (.int .i64 0) ∧ Stp W W' c c' gp ∧ m'.fuse < 0 ∧ m'.wt i = [] ∧ PgW w W' c' gp g m' ds ts i n (nextHd L r U) U X (K + 3) := by
  refine (h.commit hK r).mono ?_
  rintro e W' ⟨c', h1, ⟨h2, _⟩ | ⟨m', _, h2, _⟩ | ⟨m', h2, h3, h4, h5, h6⟩⟩
  · rw [hr] at h2; cases h2
  · omega
  · exact ⟨c', m', h3, h1, h4 hf, h5, h6⟩
theorem PgW.readOk (h : PgW w W c gp g m ds ts i n L U X K) (hK : K ≤ 1000000000000) (p : Int) (b : List Nat) (hp : hasP U p = true) (hx : X p.toNat = imOf b) (hb : b.length ≤ 500) : Calls Tryd.prog 28 #[ptr gp, .int .i64 p] W fun e W' => ∃ v, e = .returned (.tuple #[v, .int .i64 0]) ∧ Below W.heap.size W W' ∧ NewB W W' v b := by
  refine (h.read hK p).mono ?_
  rintro e W' ⟨h1, ⟨h2, _⟩ | ⟨_, h2, _⟩ | ⟨v, _, _, h4, h5⟩⟩
  · rw [hp] at h2; cases h2
  · rw [hx, readV_of hb] at h2; cases h2
  · rw [hx, imBytes_of hb] at h4
    exact ⟨v, h5, h1, h4⟩
end
theorem NewB.slice {w w' : World} {v : Value} {b : List Nat} (h : NewB w w' v b) (hb : ∀ c ∈ b, c < 256) (hl : b.length ≤ 500) : SliceIn w' v b := by
  obtain ⟨q, rfl, _, hr⟩ := h
  refine ⟨some ⟨q, 0, none⟩, b.length, rfl, ⟨Nat.le_refl _, by omega⟩, Or.inr ⟨q, 0, rfl, fun j hj => ?_, lt256 b hb⟩⟩
  rw [Nat.zero_add]
  rw [hr.at j _ (bcells_at b j hj)]
theorem ints_lit (w : World) (z : Int) : IntsIn (w.alloc (.cells #[.int .i64 z] 3)) (.slice (some ⟨w.heap.size, 0, none⟩) 1 1) [z] := by
  have rr : Row (w.alloc (.cells #[.int .i64 z] 3)) w.heap.size 3 [.int .i64 z] := Row.new w 3 _
  refine ⟨_, 1, rfl, Nat.le_refl _, (by show 1 < 4611686018427387904; decide), Or.inr ⟨w.heap.size, 0, rfl, fun j hj => ?_⟩⟩
  have hj0 : j = 0 := by simp at hj; omega
  subst hj0
  exact rr.at 0 _ rfl
theorem bytes_lit (w : World) (b : List Nat) (hb : ∀ c ∈ b, c < 256) (hl : b.length ≤ 500) (k : Nat × Nat) : SliceIn (w.alloc (.cells (bcells b).toArray 5 k)) (.slice (some ⟨w.heap.size, 0, none⟩) b.length b.length) b := by
  refine ⟨_, b.length, rfl, ⟨Nat.le_refl _, by omega⟩, Or.inr ⟨w.heap.size, 0, rfl, fun j hj => ?_, lt256 _ hb⟩⟩
  have h1 := bcells_at b j hj
  simp only [World.cell?, World.alloc, Nat.zero_add]
  rw [Array.getElem?_push_size]
  show (if Option.isSome (none : Option Nat) = true then none else (bcells b).toArray[j]?) = _
  rw [if_neg (by decide), List.getElem?_toArray]
  exact h1
theorem freeze_alloc (w : World) (C : Array Value) (n : Nat) : (w.alloc (.cells C 5)).freeze ⟨w.heap.size, n, none⟩ 1 = w.alloc (.cells C 5 (n, n + 1)) := by
  have hm : ∀ (a : Array Obj) (x : Obj) (f : Obj → Obj), (a.push x).modify a.size f = a.push (f x) := by
    intro a x f
    apply Array.ext
    · simp
    · intro i h1 h2
      simp only [Array.getElem_modify, Array.getElem_push]
      by_cases h : a.size = i
      · subst h
        simp
      · have hi : i < a.size := by simp at h1; omega
        simp [h, hi]
  unfold World.freeze
  rw [if_neg (by decide)]
  show ({ w.alloc (.cells C 5) with heap := (w.heap.push (.cells C 5)).modify w.heap.size _ } : World) = _
  rw [hm]
  rfl
section
variable {w : World} {a : Act} {o : Oper}
theorem run_lit28 (x : Operand) (ho : o.op = .buildSlice 28 1 #[(0, x)]) (z : Int) (hx : a.eval x = .int .i64 z) : (execOp a.eval o).run Tryd.prog w = .ok (.value (.slice (some ⟨w.heap.size, 0, none⟩) 1 1)) (w.alloc (.cells #[.int .i64 z] 3)) := by
  have hr : (Instr.buildSlice 28 1 #[(0, .int .i64 z)]).run Tryd.prog w = .ok (.slice (some ⟨w.heap.size, 0, none⟩) 1 1) (w.alloc (.cells #[.int .i64 z] 3)) := by kernel_rfl
  simp only [execOp, ho, List.map_toArray, List.map_cons, List.map_nil, hx, hr, Sem.run_bind, Sem.run_pure, Result.andThen_ok]
theorem run_lit38_1 {z : Int} (ho : o.op = .buildSlice 38 1 #[(0, .const (.int .u8 z))]) : (execOp a.eval o).run Tryd.prog w = .ok (.value (.slice (some ⟨w.heap.size, 0, none⟩) 1 1)) (w.alloc (.cells #[.int .u8 z] 5)) := by
  have hr : (Instr.buildSlice 38 1 #[(0, .int .u8 z)]).run Tryd.prog w = .ok (.slice (some ⟨w.heap.size, 0, none⟩) 1 1) (w.alloc (.cells #[.int .u8 z] 5)) := by kernel_rfl
  have e1 : ∀ z, a.eval (.const (.int .u8 z)) = .int .u8 z := fun _ => rfl
  simp only [execOp, ho, List.map_toArray, List.map_cons, List.map_nil, e1, hr, Sem.run_bind, Sem.run_pure, Result.andThen_ok]
theorem run_build30 (x : Operand) (ho : o.op = .build 30 #[(0, x)]) (p : Option Addr) (n c : Nat) (hx : a.eval x = .slice p n c) : (execOp a.eval o).run Tryd.prog w = .ok (.value (.agg #[.slice p n c, .slice none 0 0])) w := by
  have hr : (Instr.build 30 #[(0, .slice p n c)]).run Tryd.prog w = .ok (.agg #[.slice p n c, .slice none 0 0]) w := by kernel_rfl
  simp only [execOp, ho, List.map_toArray, List.map_cons, List.map_nil, hx, hr, Sem.run_bind, Sem.run_pure, Result.andThen_ok]
theorem run_cv38 {C : Array Value} (x : Operand) (ho : o.op = .convert 38 38 x) (n c : Nat) (hx : a.eval x = .slice (some ⟨w.heap.size, 0, none⟩) n c) : (execOp a.eval o).run Tryd.prog (w.alloc (.cells C 5)) = .ok (.value (.slice (some ⟨w.heap.size, 0, none⟩) n c)) (w.alloc (.cells C 5 (C.size, C.size + 1))) := by
  have hsh : (w.alloc (.cells C 5)).shape? w.heap.size = some (5, C.size) := by
    have : (w.alloc (.cells C 5)).heap[w.heap.size]? = some (.cells C 5) := by
      show (w.heap.push (.cells C 5))[w.heap.size]? = _
      simp
    unfold World.shape?
    rw [this]
  have hr : (convert 38 38 (.slice (some ⟨w.heap.size, 0, none⟩) n c)).run Tryd.prog (w.alloc (.cells C 5)) = .ok (.slice (some ⟨w.heap.size, 0, none⟩) n c) (w.alloc (.cells C 5 (C.size, C.size + 1))) := by
    rw [← freeze_alloc w C C.size]
    simp [convert, run_underlying Tryd.underlying38, run_underlying Tryd.underlying5, markStringish, hsh]
  simp only [execOp, ho, hx, hr, Sem.run_bind, Sem.run_pure, Result.andThen_ok]
theorem run_str (x : Operand) (ho : o.op = .convert 38 9 x) (v : Value) (cs : List Nat) (hx : a.eval x = v) (hin : SliceIn w v cs) : (execOp a.eval o).run Tryd.prog w = .ok (.value (.string (strOfNums (cs.map Int.ofNat)))) w := by simp [execOp, ho, hx, run_bstring hin]
theorem run_eqS (x y : Operand) (ho : o.op = .binOp .eql 9 x y 9) (s t : ByteArray) (hx : a.eval x = .string s) (hy : a.eval y = .string t) (h : s = t) : (execOp a.eval o).run Tryd.prog w = .ok (.value (.bool true)) w := by
  subst h
  refine run_binOp' x y ho _ _ _ hx hy ?_ ?_
  · rfl
  · simp [go_sem]
end
theorem str97 : strOfNums ([97].map Int.ofNat) = { data := #[97] } := by rfl
def U0 : List Nat := withP noneP 0
def U1 : List Nat := withP U0 1
theorem exP : pagesN 34 = 4 ∧ leastP (noHd 1) noneP 4 = some 0 ∧ leastP (noHd 1) U0 4 = some 1 ∧ roomTo (noHd 1) U1 4 = 2 ∧ rootOk U1 1 = true ∧ hasP U1 0 = true := by decide
theorem exX : updP (updP zX 0 (imOf [97])) 1 (imOf [98]) ((0 : Int).toNat) = imOf [97] := rfl
set_option maxHeartbeats 8000000 in
set_option maxRecDepth 100000 in
theorem shown_any (w : World) (ht : Fr.TabIn w) : Calls Tryd.prog 9 #[] w fun e w' => e = .returned (.bool true) ∧ Below w.heap.size w w' := by
  have HT : Hid (Fr.TabIn w) := ht
  obtain ⟨PQ, hPQ⟩ : ∃ PQ : Ending → World → Prop, PQ = fun (e : Ending) (w' : World) => e = .returned (.bool true) ∧ Below w.heap.size w w' := ⟨_, rfl⟩
  have HPQ : Hid (PQ = fun (e : Ending) (w' : World) => e = .returned (.bool true) ∧ Below w.heap.size w w') := hPQ
  rw [← hPQ]
  clear hPQ ht
  go_enter Tryd.func9, Tryd.ntmps9
  go_upto_region 0 with fail
  refine wp_region_lit ?_
  refine wl rfl (.bool false) _ (run_asZ (.const (.bool false)) rfl (.bool false) rfl) ?_
  simp only [Act.put, aS, aZ]
  refine wpList_nil ?_
  go_upto_region 1 with fail
  refine wp_region_lit ?_
  refine wl rfl (.slice (some ⟨w.heap.size, 0, none⟩) 1 1) _ (run_lit28 (.const (.int .i64 34)) rfl 34 rfl) ?_
  have HI : Hid (IntsIn (w.alloc (.cells #[.int .i64 34] 3)) (.slice (some ⟨w.heap.size, 0, none⟩) 1 1) [((34 : Nat) : Int)] ∧ Below w.heap.size w (w.alloc (.cells #[.int .i64 34] 3))) := ⟨ints_lit w 34, below_alloc w _⟩
  obtain ⟨W1, hW_⟩ : ∃ W, W = w.alloc (.cells #[.int .i64 34] 3) := ⟨_, rfl⟩
  obtain ⟨q0, hq_⟩ : ∃ q, q = w.heap.size := ⟨_, rfl⟩
  rw [← hW_] at HI ⊢
  rw [← hq_] at ⊢
  have HI2 : Hid (IntsIn W1 (.slice (some ⟨q0, 0, none⟩) 1 1) [((34 : Nat) : Int)] ∧ Below w.heap.size w W1) := by rw [hq_]; exact HI.out
  clear hW_ hq_ HI
  simp only [Act.put, aS, aC, aZ]
  refine wl rfl (.agg #[.slice (some ⟨q0, 0, none⟩) 1 1, .slice none 0 0]) _ (run_build30 (.tmp 17) rfl _ _ _ rfl) ?_
  simp only [Act.put, aS, aC, aZ]
  refine wpList_callW eN10 [.tmp 18] _ rfl rfl [(.agg #[.slice (some ⟨q0, 0, none⟩) 1 1, .slice none 0 0])] rfl ?_
  refine (PlW.new HI2.out.2 HT.out 34 ⟨by decide, by decide⟩ _ HI2.out.1).mono ?_
  rintro e W2 ⟨g, c2, rfl, b_, h_⟩
  refine ⟨_, rfl, ?_⟩
  have H2 : Hid (PlW w W2 c2 g (newPl [((34 : Nat) : Int)] []) [34] [] 0) := h_
  clear h_ b_ HI2
  simp only [Act.put, aS, aC, aZ]
  refine wl rfl (.tuple #[(ptr g), (.int .i64 0)]) _ (run_mvZ (.tmp 19) rfl (.tuple #[(ptr g), (.int .i64 0)]) rfl) ?_
  simp only [Act.put, aS, aC, aZ]
  refine wl rfl (ptr g) _ (run_extZ (.tmp 16) 0 rfl #[(ptr g), (.int .i64 0)] rfl (ptr g) rfl) ?_
  simp only [Act.put, aS, aC, aZ]
  refine wl rfl (.int .i64 0) _ (run_extZ (.tmp 16) 1 rfl #[(ptr g), (.int .i64 0)] rfl (.int .i64 0) rfl) ?_
  simp only [Act.put, aS, aC, aZ]
  refine wl rfl (ptr g) _ (run_asZ (.tmp 20) rfl (ptr g) rfl) ?_
  simp only [Act.put, aS, aC, aZ]
  refine wl rfl (.int .i64 0) _ (run_asZ (.tmp 21) rfl (.int .i64 0) rfl) ?_
  simp only [Act.put, aS, aC, aZ]
  refine wpList_nil ?_
  go_upto_region 2 with fail
  refine wp_region_lit ?_
  refine wl rfl (ptr g) _ (run_mvZ (.tmp 1) rfl (ptr g) rfl) ?_
  simp only [Act.put, aS, aC, aZ]
  refine wl rfl (.bool false) _ (run_binOp' (.tmp 22) (.const (.pointer none)) rfl _ _ _ rfl rfl rfl (by kernel_rfl)) ?_
  simp only [Act.put, aS, aC, aZ]
  refine wl rfl (.bool false) _ (run_mvZ (.tmp 23) rfl (.bool false) rfl) ?_
  simp only [Act.put, aS, aC, aZ]
  refine wl (by kernel_rfl) (.int .i64 0) _ (run_mvZ (.tmp 2) rfl (.int .i64 0) rfl) ?_
  simp only [Act.put, aS, aC, aZ]
  refine wl (by kernel_rfl) (.bool false) _ (run_neZ (.tmp 25) (.const (.int .i64 0)) rfl (0) (0) rfl rfl false rfl) ?_
  simp only [Act.put, aS, aC, aZ]
  refine wl rfl (.bool false) _ (run_pickZ (.tmp 24) (.const (.bool true)) (.tmp 26) rfl false (.bool false) rfl rfl) ?_
  simp only [Act.put, aS, aC, aZ]
  refine wpList_nil ?_
  go_upto_region 4 with fail
  refine wp_region_lit ?_
  refine wl rfl (ptr g) _ (run_mvZ (.tmp 1) rfl (ptr g) rfl) ?_
  simp only [Act.put, aS, aC, aZ]
  refine wpList_callW eN13 [.tmp 29, .const (.int .i64 0)] _ rfl rfl [(ptr g), .int .i64 0] rfl ?_
  refine (PlW.openNone (i := 0) (n := 4) H2.out (by decide) (by decide) rfl (by decide) (by decide) (newPl_last 34 4)).mono ?_
  rintro e W3 ⟨rfl, b_⟩
  refine ⟨_, rfl, ?_⟩
  have H3 : Hid (PlW w W3 c2 g (newPl [((34 : Nat) : Int)] []) [34] [] 0) := H2.out.bel b_
  clear b_ H2
  simp only [Act.put, aS, aC, aZ]
  refine wl rfl (.tuple #[(.pointer none), (.int .i64 4)]) _ (run_mvZ (.tmp 30) rfl (.tuple #[(.pointer none), (.int .i64 4)]) rfl) ?_
  simp only [Act.put, aS, aC, aZ]
  refine wl rfl (.pointer none) _ (run_extZ (.tmp 28) 0 rfl #[(.pointer none), (.int .i64 4)] rfl (.pointer none) rfl) ?_
  simp only [Act.put, aS, aC, aZ]
  refine wl rfl (.int .i64 4) _ (run_extZ (.tmp 28) 1 rfl #[(.pointer none), (.int .i64 4)] rfl (.int .i64 4) rfl) ?_
  simp only [Act.put, aS, aC, aZ]
  refine wl rfl (.pointer none) _ (run_asZ (.tmp 31) rfl (.pointer none) rfl) ?_
  simp only [Act.put, aS, aC, aZ]
  refine wl rfl (.int .i64 4) _ (run_asZ (.tmp 32) rfl (.int .i64 4) rfl) ?_
  simp only [Act.put, aS, aC, aZ]
  refine wpList_nil ?_
  go_upto_region 5 with fail
  refine wp_region_lit ?_
  refine wl rfl (ptr g) _ (run_mvZ (.tmp 1) rfl (ptr g) rfl) ?_
  simp only [Act.put, aS, aC, aZ]
  refine wpList_callW eN11 [.tmp 33, .const (.int .i64 0)] _ rfl rfl [(ptr g), .int .i64 0] rfl ?_
  refine (PlW.first (n := 4) ⟨by decide, by decide⟩ (by decide) (by decide) H3.out).mono ?_
  rintro e W4 ⟨rfl, c4, m4, h_, o_, f_⟩
  refine ⟨_, rfl, ?_⟩
  have H4 : Hid (PlW w W4 c4 g m4 [34] [] 6 ∧ PgO m4 0 4 (noHd 1) noneP zX ∧ m4.fuse < 0) := ⟨h_, o_, f_⟩
  clear h_ o_ f_ H3
  simp only [Act.put, aS, aC, aZ]
  refine wl rfl (.int .i64 0) _ (run_asZ (.tmp 34) rfl (.int .i64 0) rfl) ?_
  simp only [Act.put, aS, aC, aZ]
  refine wpList_nil ?_
  go_upto_region 6 with fail
  refine wp_region_lit ?_
  refine wl rfl (ptr g) _ (run_mvZ (.tmp 1) rfl (ptr g) rfl) ?_
  simp only [Act.put, aS, aC, aZ]
  refine wpList_callW eN13 [.tmp 36, .const (.int .i64 0)] _ rfl rfl [(ptr g), .int .i64 0] rfl ?_
  refine (PlW.openZ H4.out.1 (by decide) (by decide) (L := noHd 1) H4.out.2.1).mono ?_
  rintro e W5 ⟨gp, rfl, b_, h_⟩
  refine ⟨_, rfl, ?_⟩
  have H5 : Hid (PgW w W5 c4 gp g m4 [34] [] 0 4 (noHd 1) noneP zX 6 ∧ m4.fuse < 0) := ⟨h_, H4.out.2.2⟩
  clear h_ b_ H4
  simp only [Act.put, aS, aC, aZ]
  refine wl rfl (.tuple #[(ptr gp), (.int .i64 0)]) _ (run_mvZ (.tmp 37) rfl (.tuple #[(ptr gp), (.int .i64 0)]) rfl) ?_
  simp only [Act.put, aS, aC, aZ]
  refine wl rfl (ptr gp) _ (run_extZ (.tmp 35) 0 rfl #[(ptr gp), (.int .i64 0)] rfl (ptr gp) rfl) ?_
  simp only [Act.put, aS, aC, aZ]
  refine wl rfl (.int .i64 0) _ (run_extZ (.tmp 35) 1 rfl #[(ptr gp), (.int .i64 0)] rfl (.int .i64 0) rfl) ?_
  simp only [Act.put, aS, aC, aZ]
  refine wl rfl (ptr gp) _ (run_asZ (.tmp 38) rfl (ptr gp) rfl) ?_
  simp only [Act.put, aS, aC, aZ]
  refine wl rfl (.int .i64 0) _ (run_asZ (.tmp 39) rfl (.int .i64 0) rfl) ?_
  simp only [Act.put, aS, aC, aZ]
  refine wpList_nil ?_
  go_upto_region 7 with fail
  refine wp_region_lit ?_
  refine wl rfl (ptr gp) _ (run_mvZ (.tmp 6) rfl (ptr gp) rfl) ?_
  simp only [Act.put, aS, aC, aZ]
  refine wl rfl (.bool false) _ (run_binOp' (.tmp 40) (.const (.pointer none)) rfl _ _ _ rfl rfl rfl (by kernel_rfl)) ?_
  simp only [Act.put, aS, aC, aZ]
  refine wl rfl (.bool false) _ (run_mvZ (.tmp 41) rfl (.bool false) rfl) ?_
  simp only [Act.put, aS, aC, aZ]
  refine wl (by kernel_rfl) (.int .i64 0) _ (run_mvZ (.tmp 5) rfl (.int .i64 0) rfl) ?_
  simp only [Act.put, aS, aC, aZ]
  refine wl (by kernel_rfl) (.bool false) _ (run_neZ (.tmp 43) (.const (.int .i64 0)) rfl (0) (0) rfl rfl false rfl) ?_
  simp only [Act.put, aS, aC, aZ]
  refine wl rfl (.bool false) _ (run_pickZ (.tmp 42) (.const (.bool true)) (.tmp 44) rfl false (.bool false) rfl rfl) ?_
  simp only [Act.put, aS, aC, aZ]
  refine wl rfl (.bool false) _ (run_mvZ (.tmp 45) rfl (.bool false) rfl) ?_
  simp only [Act.put, aS, aC, aZ]
  refine wl (by kernel_rfl) (.int .i64 0) _ (run_mvZ (.tmp 7) rfl (.int .i64 0) rfl) ?_
  simp only [Act.put, aS, aC, aZ]
  refine wl (by kernel_rfl) (.bool false) _ (run_neZ (.tmp 47) (.const (.int .i64 0)) rfl (0) (0) rfl rfl false rfl) ?_
  simp only [Act.put, aS, aC, aZ]
  refine wl rfl (.bool false) _ (run_pickZ (.tmp 46) (.const (.bool true)) (.tmp 48) rfl false (.bool false) rfl rfl) ?_
  simp only [Act.put, aS, aC, aZ]
  refine wl rfl (.bool false) _ (run_mvZ (.tmp 49) rfl (.bool false) rfl) ?_
  simp only [Act.put, aS, aC, aZ]
  refine wl (by kernel_rfl) (.int .i64 4) _ (run_mvZ (.tmp 4) rfl (.int .i64 4) rfl) ?_
  simp only [Act.put, aS, aC, aZ]
  refine wl (by kernel_rfl) (.bool false) _ (run_neZ (.tmp 51) (.const (.int .i64 4)) rfl (4) (4) rfl rfl false rfl) ?_
  simp only [Act.put, aS, aC, aZ]
  refine wl rfl (.bool false) _ (run_pickZ (.tmp 50) (.const (.bool true)) (.tmp 52) rfl false (.bool false) rfl rfl) ?_
  simp only [Act.put, aS, aC, aZ]
  refine wl rfl (.bool false) _ (run_mvZ (.tmp 53) rfl (.bool false) rfl) ?_
  simp only [Act.put, aS, aC, aZ]
  refine wl (by kernel_rfl) (ptr gp) _ (run_mvZ (.tmp 6) rfl (ptr gp) rfl) ?_
  simp only [Act.put, aS, aC, aZ]
  refine wpList_callW eN27 [.tmp 55] _ (by kernel_rfl) rfl [(ptr gp)] rfl ?_
  refine (show Calls Tryd.prog 27 #[ptr gp] W5 fun e W' => e = .returned (.int .i64 (-1)) ∧ W5 = W' from H5.out.1.root).mono ?_
  rintro e W_ ⟨rfl, rfl⟩
  refine ⟨_, rfl, ?_⟩
  simp only [Act.put, aS, aC, aZ]
  refine wl (by kernel_rfl) (.bool false) _ (run_neZ (.tmp 56) (.const (.int .i64 (-1))) rfl (-1) (-1) rfl rfl false rfl) ?_
  simp only [Act.put, aS, aC, aZ]
  refine wl rfl (.bool false) _ (run_pickZ (.tmp 54) (.const (.bool true)) (.tmp 57) rfl false (.bool false) rfl rfl) ?_
  simp only [Act.put, aS, aC, aZ]
  refine wpList_nil ?_
  go_upto_region 9 with fail
  refine wp_region_lit ?_
  refine wl rfl (ptr gp) _ (run_mvZ (.tmp 6) rfl (ptr gp) rfl) ?_
  simp only [Act.put, aS, aC, aZ]
  refine wl rfl (.slice (some ⟨W5.heap.size, 0, none⟩) 1 1) _ (run_lit38_1 rfl) ?_
  simp only [Act.put, aS, aC, aZ]
  refine wl rfl (.slice (some ⟨W5.heap.size, 0, none⟩) 1 1) _ (run_cv38 (w := W5) (.tmp 61) rfl _ _ rfl) ?_
  have HB : Hid (SliceIn (W5.alloc (.cells #[.int .u8 97] 5 (1, 1 + 1))) (.slice (some ⟨W5.heap.size, 0, none⟩) 1 1) [97] ∧ Below W5.heap.size W5 (W5.alloc (.cells #[.int .u8 97] 5 (1, 1 + 1)))) := ⟨bytes_lit W5 [97] (by decide) (by decide) _, below_alloc W5 _⟩
  obtain ⟨W6, hW_⟩ : ∃ W, W = W5.alloc (.cells #[.int .u8 97] 5 (1, 1 + 1)) := ⟨_, rfl⟩
  obtain ⟨q1, hq_⟩ : ∃ q, q = W5.heap.size := ⟨_, rfl⟩
  rw [← hW_] at HB
  change wpList _ _ _ _ _ (W5.alloc (.cells #[.int .u8 97] 5 (1, 1 + 1)))
  rw [← hW_, ← hq_]
  have HS : Hid (SliceIn W6 (.slice (some ⟨q1, 0, none⟩) 1 1) [97]) := by rw [hq_]; exact HB.out.1
  have H6 : Hid (PgW w W6 c4 gp g m4 [34] [] 0 4 (noHd 1) noneP zX 6 ∧ m4.fuse < 0) := ⟨H5.out.1.bel HB.out.2, H5.out.2⟩
  clear H5
  clear hW_ hq_ HB
  simp only [Act.put, aS, aC, aZ]
  refine wpList_callW eN15 [.tmp 60, .tmp 62] _ rfl rfl [(ptr gp), (.slice (some ⟨q1, 0, none⟩) 1 1)] rfl ?_
  refine (PgW.putOk H6.out.1 (by decide) H6.out.2 _ _ HS.out (by decide) 0 exP.2.1).mono ?_
  rintro e W7 ⟨c7, m7, rfl, s_, f_, h_⟩
  refine ⟨_, rfl, ?_⟩
  have HW7 : Hid (PgW w W7 c7 gp g m7 [34] [] 0 4 (noHd 1) U0 (updP zX 0 (imOf [97])) 14 ∧ m7.fuse < 0) := ⟨h_, f_⟩
  clear h_ f_ s_ HS H6
  simp only [Act.put, aS, aC, aZ]
  refine wl rfl (.tuple #[(.int .i64 0), (.int .i64 0)]) _ (run_mvZ (.tmp 63) rfl (.tuple #[(.int .i64 0), (.int .i64 0)]) rfl) ?_
  simp only [Act.put, aS, aC, aZ]
  refine wl rfl (.int .i64 0) _ (run_extZ (.tmp 59) 0 rfl #[(.int .i64 0), (.int .i64 0)] rfl (.int .i64 0) rfl) ?_
  simp only [Act.put, aS, aC, aZ]
  refine wl rfl (.int .i64 0) _ (run_extZ (.tmp 59) 1 rfl #[(.int .i64 0), (.int .i64 0)] rfl (.int .i64 0) rfl) ?_
  simp only [Act.put, aS, aC, aZ]
  refine wl rfl (.int .i64 0) _ (run_asZ (.tmp 64) rfl (.int .i64 0) rfl) ?_
  simp only [Act.put, aS, aC, aZ]
  refine wl rfl (.int .i64 0) _ (run_asZ (.tmp 65) rfl (.int .i64 0) rfl) ?_
  simp only [Act.put, aS, aC, aZ]
  refine wpList_nil ?_
  go_upto_region 10 with fail
  refine wp_region_lit ?_
  refine wl rfl (ptr gp) _ (run_mvZ (.tmp 6) rfl (ptr gp) rfl) ?_
  simp only [Act.put, aS, aC, aZ]
  refine wl rfl (.slice (some ⟨W7.heap.size, 0, none⟩) 1 1) _ (run_lit38_1 rfl) ?_
  simp only [Act.put, aS, aC, aZ]
  refine wl rfl (.slice (some ⟨W7.heap.size, 0, none⟩) 1 1) _ (run_cv38 (w := W7) (.tmp 68) rfl _ _ rfl) ?_
  have HB : Hid (SliceIn (W7.alloc (.cells #[.int .u8 98] 5 (1, 1 + 1))) (.slice (some ⟨W7.heap.size, 0, none⟩) 1 1) [98] ∧ Below W7.heap.size W7 (W7.alloc (.cells #[.int .u8 98] 5 (1, 1 + 1)))) := ⟨bytes_lit W7 [98] (by decide) (by decide) _, below_alloc W7 _⟩
  obtain ⟨W8, hW_⟩ : ∃ W, W = W7.alloc (.cells #[.int .u8 98] 5 (1, 1 + 1)) := ⟨_, rfl⟩
  obtain ⟨q2, hq_⟩ : ∃ q, q = W7.heap.size := ⟨_, rfl⟩
  rw [← hW_] at HB
  change wpList _ _ _ _ _ (W7.alloc (.cells #[.int .u8 98] 5 (1, 1 + 1)))
  rw [← hW_, ← hq_]
  have HS : Hid (SliceIn W8 (.slice (some ⟨q2, 0, none⟩) 1 1) [98]) := by rw [hq_]; exact HB.out.1
  have H8 : Hid (PgW w W8 c7 gp g m7 [34] [] 0 4 (noHd 1) U0 (updP zX 0 (imOf [97])) 14 ∧ m7.fuse < 0) := ⟨HW7.out.1.bel HB.out.2, HW7.out.2⟩
  clear HW7
  clear hW_ hq_ HB
  simp only [Act.put, aS, aC, aZ]
  refine wpList_callW eN15 [.tmp 67, .tmp 69] _ rfl rfl [(ptr gp), (.slice (some ⟨q2, 0, none⟩) 1 1)] rfl ?_
  refine (PgW.putOk H8.out.1 (by decide) H8.out.2 _ _ HS.out (by decide) 1 exP.2.2.1).mono ?_
  rintro e W9 ⟨c9, m9, rfl, s_, f_, h_⟩
  refine ⟨_, rfl, ?_⟩
  have HW9 : Hid (PgW w W9 c9 gp g m9 [34] [] 0 4 (noHd 1) U1 (updP (updP zX 0 (imOf [97])) 1 (imOf [98])) 22 ∧ m9.fuse < 0) := ⟨h_, f_⟩
  clear h_ f_ s_ HS H8
  simp only [Act.put, aS, aC, aZ]
  refine wl rfl (.tuple #[(.int .i64 1), (.int .i64 0)]) _ (run_mvZ (.tmp 70) rfl (.tuple #[(.int .i64 1), (.int .i64 0)]) rfl) ?_
  simp only [Act.put, aS, aC, aZ]
  refine wl rfl (.int .i64 1) _ (run_extZ (.tmp 66) 0 rfl #[(.int .i64 1), (.int .i64 0)] rfl (.int .i64 1) rfl) ?_
  simp only [Act.put, aS, aC, aZ]
  refine wl rfl (.int .i64 0) _ (run_extZ (.tmp 66) 1 rfl #[(.int .i64 1), (.int .i64 0)] rfl (.int .i64 0) rfl) ?_
  simp only [Act.put, aS, aC, aZ]
  refine wl rfl (.int .i64 1) _ (run_asZ (.tmp 71) rfl (.int .i64 1) rfl) ?_
  simp only [Act.put, aS, aC, aZ]
  refine wl rfl (.int .i64 0) _ (run_asZ (.tmp 72) rfl (.int .i64 0) rfl) ?_
  simp only [Act.put, aS, aC, aZ]
  refine wpList_nil ?_
  obtain ⟨X2, hX2⟩ : ∃ X2, X2 = updP (updP zX 0 (imOf [97])) 1 (imOf [98]) := ⟨_, rfl⟩
  have HX2 : Hid (X2 ((0 : Int).toNat) = imOf [97]) := by rw [hX2]; exact exX
  rw [← hX2] at HW9
  clear hX2
  go_upto_region 11 with fail
  refine wp_region_lit ?_
  refine wl rfl (ptr gp) _ (run_mvZ (.tmp 6) rfl (ptr gp) rfl) ?_
  simp only [Act.put, aS, aC, aZ]
  refine wpList_callW eN29 [.tmp 73] _ rfl rfl [(ptr gp)] rfl ?_
  refine (show Calls Tryd.prog 29 #[ptr gp] W9 fun e W' => e = .returned (.int .i64 2) ∧ Below W9.heap.size W9 W' from HW9.out.1.room).mono ?_
  rintro e W10 ⟨rfl, b_⟩
  refine ⟨_, rfl, ?_⟩
  have H10 : Hid (PgW w W10 c9 gp g m9 [34] [] 0 4 (noHd 1) U1 X2 22 ∧ m9.fuse < 0) := ⟨HW9.out.1.bel b_, HW9.out.2⟩
  clear b_ HW9
  simp only [Act.put, aS, aC, aZ]
  refine wl rfl (.int .i64 2) _ (run_asZ (.tmp 74) rfl (.int .i64 2) rfl) ?_
  simp only [Act.put, aS, aC, aZ]
  refine wpList_nil ?_
  go_upto_region 12 with fail
  refine wp_region_lit ?_
  refine wl rfl (ptr gp) _ (run_mvZ (.tmp 6) rfl (ptr gp) rfl) ?_
  simp only [Act.put, aS, aC, aZ]
  refine wpList_callW eN19 [.tmp 75, .const (.int .i64 1)] _ rfl rfl [(ptr gp), .int .i64 1] rfl ?_
  refine (PgW.comC H10.out.1 (by decide) H10.out.2 1 exP.2.2.2.2.1).mono ?_
  rintro e W11 ⟨c11, m11, rfl, s_, f_, _, h_⟩
  refine ⟨_, rfl, ?_⟩
  have H11 : Hid (PgW w W11 c11 gp g m11 [34] [] 0 4 (nextHd (noHd 1) 1 U1) U1 X2 25 ∧ m11.fuse < 0) := ⟨h_, f_⟩
  clear h_ f_ s_ H10
  simp only [Act.put, aS, aC, aZ]
  refine wl rfl (.int .i64 0) _ (run_asZ (.tmp 76) rfl (.int .i64 0) rfl) ?_
  simp only [Act.put, aS, aC, aZ]
  refine wpList_nil ?_
  go_upto_region 13 with fail
  refine wp_region_lit ?_
  refine wl rfl (ptr gp) _ (run_mvZ (.tmp 6) rfl (ptr gp) rfl) ?_
  simp only [Act.put, aS, aC, aZ]
  refine wpList_callW eN28 [.tmp 78, .const (.int .i64 0)] _ rfl rfl [(ptr gp), .int .i64 0] rfl ?_
  refine (PgW.readOk H11.out.1 (by decide) 0 [97] exP.2.2.2.2.2 HX2.out (by decide)).mono ?_
  rintro e W12 ⟨v, rfl, b_, n_⟩
  refine ⟨_, rfl, ?_⟩
  have H12 : Hid (PgW w W12 c11 gp g m11 [34] [] 0 4 (nextHd (noHd 1) 1 U1) U1 X2 25 ∧ SliceIn W12 v [97]) := ⟨H11.out.1.bel b_, n_.slice (by decide) (by decide)⟩
  clear b_ n_ H11
  simp only [Act.put, aS, aC, aZ]
  refine wl rfl (.tuple #[v, (.int .i64 0)]) _ (run_mvZ (.tmp 79) rfl (.tuple #[v, (.int .i64 0)]) rfl) ?_
  simp only [Act.put, aS, aC, aZ]
  refine wl rfl v _ (run_extZ (.tmp 77) 0 rfl #[v, (.int .i64 0)] rfl v rfl) ?_
  simp only [Act.put, aS, aC, aZ]
  refine wl rfl (.int .i64 0) _ (run_extZ (.tmp 77) 1 rfl #[v, (.int .i64 0)] rfl (.int .i64 0) rfl) ?_
  simp only [Act.put, aS, aC, aZ]
  refine wl rfl v _ (run_asZ (.tmp 80) rfl v rfl) ?_
  simp only [Act.put, aS, aC, aZ]
  refine wl rfl (.int .i64 0) _ (run_asZ (.tmp 81) rfl (.int .i64 0) rfl) ?_
  simp only [Act.put, aS, aC, aZ]
  refine wpList_nil ?_
  go_upto_region 14 with fail
  refine wp_region_lit ?_
  refine wl rfl (.int .i64 0) _ (run_mvZ (.tmp 8) rfl (.int .i64 0) rfl) ?_
  simp only [Act.put, aS, aC, aZ]
  refine wl rfl (.bool true) _ (run_eqZ (.tmp 82) (.const (.int .i64 0)) rfl (0) (0) rfl rfl true rfl) ?_
  simp only [Act.put, aS, aC, aZ]
  refine wl rfl (.bool true) _ (run_mvZ (.tmp 83) rfl (.bool true) rfl) ?_
  simp only [Act.put, aS, aC, aZ]
  refine wl (by kernel_rfl) (.int .i64 1) _ (run_mvZ (.tmp 10) rfl (.int .i64 1) rfl) ?_
  simp only [Act.put, aS, aC, aZ]
  refine wl (by kernel_rfl) (.bool true) _ (run_eqZ (.tmp 85) (.const (.int .i64 1)) rfl (1) (1) rfl rfl true rfl) ?_
  simp only [Act.put, aS, aC, aZ]
  refine wl rfl (.bool true) _ (run_pickZ (.tmp 84) (.tmp 86) (.const (.bool false)) rfl true (.bool true) rfl rfl) ?_
  simp only [Act.put, aS, aC, aZ]
  refine wl rfl (.bool true) _ (run_mvZ (.tmp 87) rfl (.bool true) rfl) ?_
  simp only [Act.put, aS, aC, aZ]
  refine wl (by kernel_rfl) (.int .i64 2) _ (run_mvZ (.tmp 12) rfl (.int .i64 2) rfl) ?_
  simp only [Act.put, aS, aC, aZ]
  refine wl (by kernel_rfl) (.bool true) _ (run_eqZ (.tmp 89) (.const (.int .i64 2)) rfl (2) (2) rfl rfl true rfl) ?_
  simp only [Act.put, aS, aC, aZ]
  refine wl rfl (.bool true) _ (run_pickZ (.tmp 88) (.tmp 90) (.const (.bool false)) rfl true (.bool true) rfl rfl) ?_
  simp only [Act.put, aS, aC, aZ]
  refine wl rfl (.bool true) _ (run_mvZ (.tmp 91) rfl (.bool true) rfl) ?_
  simp only [Act.put, aS, aC, aZ]
  refine wl (by kernel_rfl) (.int .i64 0) _ (run_mvZ (.tmp 9) rfl (.int .i64 0) rfl) ?_
  simp only [Act.put, aS, aC, aZ]
  refine wl (by kernel_rfl) (.bool true) _ (run_eqZ (.tmp 93) (.const (.int .i64 0)) rfl (0) (0) rfl rfl true rfl) ?_
  simp only [Act.put, aS, aC, aZ]
  refine wl rfl (.bool true) _ (run_pickZ (.tmp 92) (.tmp 94) (.const (.bool false)) rfl true (.bool true) rfl rfl) ?_
  simp only [Act.put, aS, aC, aZ]
  refine wl rfl (.bool true) _ (run_mvZ (.tmp 95) rfl (.bool true) rfl) ?_
  simp only [Act.put, aS, aC, aZ]
  refine wl (by kernel_rfl) (.int .i64 0) _ (run_mvZ (.tmp 11) rfl (.int .i64 0) rfl) ?_
  simp only [Act.put, aS, aC, aZ]
  refine wl (by kernel_rfl) (.bool true) _ (run_eqZ (.tmp 97) (.const (.int .i64 0)) rfl (0) (0) rfl rfl true rfl) ?_
  simp only [Act.put, aS, aC, aZ]
  refine wl rfl (.bool true) _ (run_pickZ (.tmp 96) (.tmp 98) (.const (.bool false)) rfl true (.bool true) rfl rfl) ?_
  simp only [Act.put, aS, aC, aZ]
  refine wl rfl (.bool true) _ (run_mvZ (.tmp 99) rfl (.bool true) rfl) ?_
  simp only [Act.put, aS, aC, aZ]
  refine wl (by kernel_rfl) (.int .i64 0) _ (run_mvZ (.tmp 13) rfl (.int .i64 0) rfl) ?_
  simp only [Act.put, aS, aC, aZ]
  refine wl (by kernel_rfl) (.bool true) _ (run_eqZ (.tmp 101) (.const (.int .i64 0)) rfl (0) (0) rfl rfl true rfl) ?_
  simp only [Act.put, aS, aC, aZ]
  refine wl rfl (.bool true) _ (run_pickZ (.tmp 100) (.tmp 102) (.const (.bool false)) rfl true (.bool true) rfl rfl) ?_
  simp only [Act.put, aS, aC, aZ]
  refine wl rfl (.bool true) _ (run_mvZ (.tmp 103) rfl (.bool true) rfl) ?_
  simp only [Act.put, aS, aC, aZ]
  refine wl (by kernel_rfl) (.int .i64 0) _ (run_mvZ (.tmp 15) rfl (.int .i64 0) rfl) ?_
  simp only [Act.put, aS, aC, aZ]
  refine wl (by kernel_rfl) (.bool true) _ (run_eqZ (.tmp 105) (.const (.int .i64 0)) rfl (0) (0) rfl rfl true rfl) ?_
  simp only [Act.put, aS, aC, aZ]
  refine wl rfl (.bool true) _ (run_pickZ (.tmp 104) (.tmp 106) (.const (.bool false)) rfl true (.bool true) rfl rfl) ?_
  simp only [Act.put, aS, aC, aZ]
  refine wl rfl (.bool true) _ (run_mvZ (.tmp 107) rfl (.bool true) rfl) ?_
  simp only [Act.put, aS, aC, aZ]
  refine wl (by kernel_rfl) v _ (run_mvZ (.tmp 14) rfl v rfl) ?_
  simp only [Act.put, aS, aC, aZ]
  refine wl (by kernel_rfl) (.string (strOfNums ([97].map Int.ofNat))) _ (run_str (.tmp 109) rfl v [97] rfl H12.out.2) ?_
  simp only [Act.put, aS, aC, aZ]
  refine wl (by kernel_rfl) (.bool true) _ (run_eqS (.tmp 110) (.const (.string { data := #[97] })) rfl _ _ rfl rfl str97) ?_
  simp only [Act.put, aS, aC, aZ]
  refine wl rfl (.bool true) _ (run_pickZ (.tmp 108) (.tmp 111) (.const (.bool false)) rfl true (.bool true) rfl rfl) ?_
  simp only [Act.put, aS, aC, aZ]
  refine wl rfl (.bool true) _ (run_mvZ (.tmp 112) rfl (.bool true) rfl) ?_
  simp only [Act.put, aS, aC, aZ]
  refine wl (by kernel_rfl) (ptr gp) _ (run_mvZ (.tmp 6) rfl (ptr gp) rfl) ?_
  simp only [Act.put, aS, aC, aZ]
  refine wpList_callW eN27 [.tmp 114] _ (by kernel_rfl) rfl [(ptr gp)] rfl ?_
  refine (show Calls Tryd.prog 27 #[ptr gp] W12 fun e W' => e = .returned (.int .i64 1) ∧ W12 = W' from H12.out.1.root).mono ?_
  rintro e W_ ⟨rfl, rfl⟩
  refine ⟨_, rfl, ?_⟩
  simp only [Act.put, aS, aC, aZ]
  refine wl (by kernel_rfl) (.bool true) _ (run_eqZ (.tmp 115) (.const (.int .i64 1)) rfl (1) (1) rfl rfl true rfl) ?_
  simp only [Act.put, aS, aC, aZ]
  refine wl rfl (.bool true) _ (run_pickZ (.tmp 113) (.tmp 116) (.const (.bool false)) rfl true (.bool true) rfl rfl) ?_
  simp only [Act.put, aS, aC, aZ]
  refine wl rfl (.bool true) _ (run_asZ (.tmp 117) rfl (.bool true) rfl) ?_
  simp only [Act.put, aS, aZ]
  refine wpList_nil ?_
  go_wp2_with fail
  rw [HPQ.out]
  exact ⟨rfl, H12.out.1.pl.below⟩
end Go.Proofs.YtkpnflgnhhfjoaaDoor

namespace Go.Proofs.YtkpnflgnhhfjoaaDoor
open Go.RowKit Go.Maps

/-- rows of bytes -/
def RowsIn (w : World) (v : Value) (L : List (List Nat)) : Prop :=
  ∃ p cap, v = .slice p L.length cap ∧ L.length ≤ 9223372036854775807 ∧ (L = [] ∨ ∃ b off, p = some ⟨b, off, none⟩ ∧ ∀ i, i < L.length → ∃ u, w.cell? ⟨b, off + i, none⟩ = some u ∧ SliceIn w u (L.getD i []))
theorem IntsIn.keep {w W : World} {v : Value} {ks : List Int} (h : IntsIn w v ks) (hb : Below w.heap.size w W) {c : Nat → Colour} (hc : ∀ b, b < w.heap.size → c b = (0, 0)) : KeepIn W c 2 v ks := by
  obtain ⟨p, cap, h1, h2, h3, h4⟩ := h
  refine ⟨p, cap, h1, h2, h3, ?_⟩
  rcases h4 with h4 | ⟨b, off, h5, h6⟩
  · exact Or.inl h4
  · by_cases h0 : ks = []
    · exact Or.inl h0
    · have hlt := block_lt_of_cell (h6 0 (List.length_pos_iff.2 h0))
      exact Or.inr ⟨b, off, h5, by rw [hc b hlt]; decide, Nat.lt_of_lt_of_le hlt hb.size, fun j hj => by rw [← h6 j hj]; exact World.cell?_of_block (hb.block b hlt)⟩
theorem o38' : OneT 38 := fun w g o v h => by simp [loadVar, isAgg, run_underlying Tryd.underlying38, h]
section
variable {w : World} {a : Act} {o : Oper}
end
/-- the first pages -/
def firstU : Nat → List Nat
  | 0 => noneP
  | n + 1 => withP (firstU n) n
def hdU (U : List Nat) : Hd := ⟨0, 0, U⟩
def okB (b : List Nat) : Bool := decide (b.length ≤ 500)
def oks (L : List (List Nat)) : List (List Nat) := L.filter okB
theorem PgO.fused {m : Pl} {i n : Nat} {L : Hd} {U : List Nat} {X : Nat → List Nat} (h : PgO m i n L U X) (N : Int) (h0 : -9223372036854775808 ≤ N) (h1 : N ≤ 9223372036854775807) : PgO (m.fuseTo N) i n L U X := by
  have hw := Pl.fuse_wf h.c.wf N h0 h1
  have e : m.fuseTo N = { m with fuse := N } := by unfold Pl.fuseTo; rw [if_pos h.on]
  rw [e] at hw ⊢
  exact ⟨⟨hw, h.c.lt, h.c.disk, h.c.pages, h.c.pos, ⟨h.c.h.lwf, h.c.h.holds, h.c.h.head, h.c.h.prev⟩, h.c.firm, h.c.img⟩, h.on, h.us, h.out, h.vis⟩
end Go.Proofs.YtkpnflgnhhfjoaaDoor

/- Layer 8: what is read of the disk is appended again. -/
import Derived.Test.YtgcecejamcnkiaaDoorX43
namespace Go.Proofs.YtgcecejamcnkiaaDoor
open Go.RowKit Go.Maps

/-- rows that the law lays, of sectors that it read -/
structure LkI (wB : World) (v : Value) (L : List (List Nat)) (us : List Value) (W : World) : Prop where
  below : Below wB.heap.size wB W
  own : W.ownsRow wB.heap.size 51 1 v L.length us
  row : ∀ i, i < L.length → SliceIn W (us.getD i undef) (L.getD i []) ∧ ∀ b, (us.getD i undef).ownBlock = some b → wB.heap.size ≤ b ∧ b < W.heap.size ∧ v.ownBlock ≠ some b
  len : ∀ r ∈ L, r.length ≤ 64
theorem LkI.nil (W : World) : LkI W (.slice (some ⟨W.heap.size, 0, none⟩) 0 0) [] [] (W.alloc (.cells #[] 51)) :=
  ⟨below_alloc W _, ⟨rfl, Or.inr ⟨W.heap.size, 0, #[], rfl, Nat.le_refl _, Row.new W 51 [], Nat.le_refl _, by unfold maxLen; omega, rfl, rfl⟩⟩, fun _ h => absurd h (Nat.not_lt_zero _), fun _ h => (by cases h)⟩
theorem take_slice {W : World} {b q : Nat} {s : List Nat} (h : Row W b 5 (bcells s)) (hs : Sec s) (hq : q ≤ 64) : SliceIn W (.slice (some ⟨b, 0, none⟩) q 64) (s.take q) := by
  have h1 := Row.slice h hs.2 (by rw [hs.1]; decide)
  obtain ⟨p, cap, e, hl, h2⟩ := h1
  have hlen : (s.take q).length = q := by rw [List.length_take, hs.1]; omega
  refine ⟨some ⟨b, 0, none⟩, 64, by rw [hlen], ⟨by omega, by omega⟩, ?_⟩
  by_cases h0 : q = 0
  · left; rw [h0]; rfl
  · right
    rcases h2 with h2 | ⟨b', off', e2, h3, h4⟩
    · have := hs.1; rw [h2] at this; simp at this
    · injection e with e5 e6 e7
      rw [← e5] at e2
      injection e2 with e2
      injection e2 with e8 e9
      subst e8 e9
      refine ⟨b, 0, rfl, fun j hj => ?_, ?_⟩
      · rw [hlen] at hj
        have := h3 j (by rw [hs.1]; omega)
        rw [this, List.getD_eq_getElem?_getD, List.getD_eq_getElem?_getD, List.getElem?_take_of_lt hj]
      · first
          | exact fun c hc => h4 c (List.mem_of_mem_take hc)
          | (intro j; rw [List.getD_eq_getElem?_getD, List.getElem?_take]; split
             · have := h4 j; rw [List.getD_eq_getElem?_getD] at this; exact this
             · decide)
set_option maxRecDepth 100000 in
theorem LkI.push {wB W W1 : World} {v : Value} {L : List (List Nat)} {us : List Value} (h : LkI wB v L us W) (hb : Below W.heap.size W W1) {b : Nat} (hge : W.heap.size ≤ b) {s : List Nat} (hrow : Row W1 b 5 (bcells s)) (hs : Sec s) (q : Nat) (hq : q ≤ 64) (hl : L.length ≤ 90) :
    ∃ v' W', (Builtin.append_ #[30, 30] 30 #[v, .slice (some ⟨W1.heap.size, 0, none⟩) 2 2]).run Tryd.prog (W1.alloc (.cells #[.slice (some ⟨b, 0, none⟩) 64 64, .slice (some ⟨b, 0, none⟩) q 64] 51)) = .ok v' W' ∧ LkI wB v' (L ++ [s] ++ [s.take q]) (us ++ [.slice (some ⟨b, 0, none⟩) 64 64] ++ [.slice (some ⟨b, 0, none⟩) q 64]) W' := by
  obtain ⟨i, hi, hz0, hz1, hz2⟩ := info_parts info51z
  obtain ⟨x, hx⟩ : ∃ x, x = Value.slice (some ⟨b, 0, none⟩) 64 64 := ⟨_, rfl⟩
  obtain ⟨y, hy⟩ : ∃ y, y = Value.slice (some ⟨b, 0, none⟩) q 64 := ⟨_, rfl⟩
  have hxb : x.ownBlock = some b := by rw [hx]; rfl
  have hyb : y.ownBlock = some b := by rw [hy]; rfl
  have hx1 : SliceIn W1 x s := by rw [hx]; have := Row.slice hrow hs.2 (by rw [hs.1]; decide); rw [hs.1] at this; exact this
  have hy1 : SliceIn W1 y (s.take q) := by rw [hy]; exact take_slice hrow hs hq
  have hxo : x.oneCell' = true := by rw [hx]; rfl
  have hyo : y.oneCell' = true := by rw [hy]; rfl
  rw [← hx, ← hy]
  clear hx hy
  have hblt : b < W1.heap.size := hrow.lt
  have hul : us.length = L.length := by have := h.own.1; omega
  have hz := h.below.size
  have hzb := hb.size
  have b2 : Below W1.heap.size W1 (W1.alloc (.cells #[x, y] 51)) := below_alloc W1 _
  have z2 : (W1.alloc (.cells #[x, y] 51)).heap.size = W1.heap.size + 1 := World.size_alloc _ _
  have r2 : Row (W1.alloc (.cells #[x, y] 51)) W1.heap.size 51 [x, y] := Row.new W1 51 [x, y]
  have c2 : Below W.heap.size W (W1.alloc (.cells #[x, y] 51)) := hb.trans (b2.mono hzb)
  have hvlt := fun b hb => World.ownsRow.lt h.own b hb
  have hown2 : (W1.alloc (.cells #[x, y] 51)).ownsRow wB.heap.size 51 1 v L.length us := ownK h.own fun b hb => c2.block b (hvlt b hb).2
  obtain ⟨v', W', hr, o2, g2, _, hv'⟩ := run_append_own_at (P := Tryd.prog) (w := W1.alloc (.cells #[x, y] 51)) wB.heap.size 30 30 51 i (.slice none 0 0) 1 24 Tryd.underlying30 hi hz0 hz1 hz2 rfl (by decide) v L.length us hown2
    ⟨W1.heap.size, 0, none⟩ 2 2 [x, y] (by simp) (fun j u hu => by rw [add_none, Nat.zero_add]; exact r2.at j u hu) (by intro u hu; simp at hu; rcases hu with rfl | rfl <;> assumption) (by unfold maxLen; omega) (by omega) (by omega)
  have s2 := g2.size
  have hvb : ∀ b, v'.ownBlock = some b → v.ownBlock = some b ∨ W1.heap.size + 1 ≤ b := fun b hb => by
    rcases hv' with e | e
    · exact Or.inl (by rw [← e]; exact hb)
    · rw [hb] at e; injection e with e; exact Or.inr (by omega)
  have hk2 : ∀ b, b < W1.heap.size → v.ownBlock ≠ some b → W'.heap[b]? = W1.heap[b]? := fun b hb hne => (g2.block b (by omega) (fun e => hne e.symm)).trans (b2.block b hb)
  have hfx : v.ownBlock ≠ some b := fun e => by have := (hvlt b e).2; omega
  have hall : (L ++ [s] ++ [s.take q]).length = L.length + 2 := by simp
  refine ⟨v', W', hr, ⟨(h.below.trans (c2.mono hz)).grown g2 (by omega) fun k hk => (hvlt k hk).1, by rw [hall, List.append_assoc]; exact o2, fun k hk => ?_, fun r hr => ?_⟩⟩
  · rw [hall] at hk
    by_cases e : k < L.length
    · rw [getD_left _ _ _ _ (by simp; omega), getD_left _ _ _ _ (by omega), getD_left _ _ _ _ (by simp; omega), getD_left _ _ _ _ e]
      obtain ⟨k1, k2⟩ := h.row k e
      refine ⟨sliceK k1 fun b' hb' hlt => ?_, fun b' hb' => ?_⟩
      · rw [hk2 b' (by omega) (k2 b' hb').2.2, hb.block b' hlt]
      · have k3 := k2 b' hb'
        refine ⟨k3.1, by omega, fun e' => ?_⟩
        rcases hvb b' e' with e' | e'
        · exact k3.2.2 e'
        · omega
    · by_cases e2 : k = L.length
      · subst e2
        have g1 : (L ++ [s] ++ [s.take q]).getD L.length [] = s := by rw [getD_left (L ++ [s]) _ _ _ (by simp), getD_last]
        have g3 : (us ++ [x] ++ [y]).getD L.length undef = x := by rw [← hul, getD_left (us ++ [x]) _ _ _ (by simp), getD_last]
        rw [g1, g3]
        refine ⟨sliceK hx1 fun b' hb' hlt => ?_, fun b' hb' => ?_⟩
        · rw [hxb] at hb'; injection hb' with hb'; subst hb'; exact hk2 b hlt hfx
        · rw [hxb] at hb'; injection hb' with hb'; subst hb'
          refine ⟨by omega, by omega, fun e' => ?_⟩
          rcases hvb b e' with e' | e'
          · exact hfx e'
          · omega
      · have e3 : k = L.length + 1 := by omega
        subst e3
        have g1 : (L ++ [s] ++ [s.take q]).getD (L.length + 1) [] = s.take q := by simp
        have g3 : (us ++ [x] ++ [y]).getD (L.length + 1) undef = y := by have := getD_last (us ++ [x]) y undef; rw [List.length_append, hul] at this; simpa using this
        rw [g1, g3]
        refine ⟨sliceK hy1 fun b' hb' hlt => ?_, fun b' hb' => ?_⟩
        · rw [hyb] at hb'; injection hb' with hb'; subst hb'; exact hk2 b hlt hfx
        · rw [hyb] at hb'; injection hb' with hb'; subst hb'
          refine ⟨by omega, by omega, fun e' => ?_⟩
          rcases hvb b e' with e' | e'
          · exact hfx e'
          · omega
  · rcases List.mem_append.1 hr with h1 | h1
    · rcases List.mem_append.1 h1 with h1 | h1
      · exact h.len r h1
      · rw [List.mem_singleton.1 h1, hs.1]; exact Nat.le_refl _
    · rw [List.mem_singleton.1 h1, List.length_take]; omega
theorem LkI.rob {wB W : World} {v : Value} {L : List (List Nat)} {us : List Value} (h : LkI wB v L us W) (hl : L.length ≤ 100) {P : Nat → Prop} (hP : ∀ b, wB.heap.size ≤ b → P b) : Rob P (fun W => RowsIn W v L) W := by
  intro w' hz hk
  have hul : us.length = L.length := by have := h.own.1; omega
  have hown : w'.ownsRow wB.heap.size 51 1 v L.length us := ownK h.own fun b hb => hk b (World.ownsRow.lt h.own b hb).2 (hP b (World.ownsRow.lt h.own b hb).1)
  rcases hown.2 with ⟨e, h0⟩ | ⟨g, cap, cur, e, _, hg, hcap, _, _, htake⟩
  · obtain rfl : L = [] := List.length_eq_zero_iff.1 h0
    exact ⟨none, 0, e, by decide, Or.inl rfl⟩
  · refine ⟨_, cap, e, by omega, Or.inr ⟨g, 0, rfl, fun i hi => ⟨us.getD i undef, ?_, sliceK (h.row i hi).1 fun b hb hlt => hk b hlt (hP b ((h.row i hi).2 b hb).1)⟩⟩⟩
    have h2 := hown.cells (g := g) (by rw [e]; rfl) i (us.getD i undef) (by rw [List.getD_eq_getElem?_getD, List.getElem?_eq_getElem (by omega)]; rfl)
    rw [add_none] at h2
    exact h2
theorem LkI.isSl {wB W : World} {v : Value} {L : List (List Nat)} {us : List Value} (h : LkI wB v L us W) : ∃ p n c, v = .slice p n c := own_isSlice h.own
theorem small_size : ∀ (L : List (List Nat)), (∀ r ∈ L, r.length ≤ 64) → bytesOf L ≤ 64 * L.length
  | [], _ => by simp [bytesOf]
  | r :: L, h => by
    have h1 := small_size L fun x hx => h x (List.mem_cons_of_mem _ hx)
    have h2 := h r List.mem_cons_self
    unfold bytesOf at h1 ⊢
    simp only [List.map_cons, List.sum_cons, List.length_cons]
    omega
theorem LawD.appends {w W : World} {c : Nat → Colour} {gd gw g : Nat} {m : Pl} {ds : List Nat} {i n S E : Nat} {D : List (List (List Nat))} {nv : Value} {dims K Kd : Nat} (h : LawD w W c gd gw g m ds i n S E D nv dims K Kd) (hK : K ≤ 1000000000000) (hKd : Kd ≤ 900000000) {k N : Int} {txv kv : Value} {L : List (List Nat)} {ks : List Int} (ho : OpR W (Fr3 c 2 gd gw) k N txv kv L ks) :
    Calls Tryd.prog 26 #[ptr gd, .agg (opCells k N txv kv).toArray] W fun e W' => e = .returned (.bool true) ∧ ∃ c' gw' m' S' E' D' nv' dims', LawD w W' c' gd gw' g m' ds i n S' E' D' nv' dims' (K + 20000) (Kd + 10) := by
  have h1 := h.le
  have h2 := h.dim
  refine (dappend_any h.desk (by omega) (by omega) ho).mono ?_
  rintro e W' ⟨rfl, c', gw', m', S', E', D', nv', dims', hd⟩
  exact ⟨rfl, c', gw', m', S', E', D', nv', dims', h.next hd⟩
theorem LawD.fuse2 {w W : World} {c : Nat → Colour} {gd gw g : Nat} {m : Pl} {ds : List Nat} {i n S E : Nat} {D : List (List (List Nat))} {nv : Value} {dims K Kd : Nat} (h : LawD w W c gd gw g m ds i n S E D nv dims K Kd) (N : Int) (h0 : -9223372036854775808 ≤ N) (h1 : N ≤ 9223372036854775807) :
    Calls Tryd.prog 14 #[ptr g, .int .i64 N] W fun e W' => e = .returned noResult ∧ ∃ c', LawD w W' c' gd gw g (m.fuseTo N) ds i n S E D nv dims K Kd ∧ ∀ (R : World → Prop), Rob (Fr3 c 2 gd gw) R W → Rob (Fr3 c' 2 gd gw) R W' := by
  refine (h.desk.dk.live.fuse N h0 h1).mono ?_
  rintro e W' ⟨rfl, hnx⟩
  obtain ⟨c', q1, q2, q3⟩ := hnx.nx
  obtain ⟨us, hn⟩ := h.desk.now
  have hz := h.below.size
  refine ⟨rfl, c', ⟨⟨h.desk.dk.nx q1 q2 q3 (Rel.fuse m i N).sh, h.desk.wal.kept q1 q3, h.desk.ne, ?_, us, hn.next q3.size fun b hb hp => ⟨q3.block b hb hp.1, by rw [q1 b hb]; exact hp.1, hp.2⟩⟩, fun b hb => by rw [q1 b (by omega)]; exact h.cc b hb, h.below.trans (q3.below hz fun b hb e => by rw [h.cc b hb] at e; exact absurd e (by decide)), h.gd, h.gw, by have := h.le; unfold Pl.fuseTo; split <;> exact this, h.dim⟩, fun R hR => hR.next q3.size fun b hb hp => ⟨q3.block b hb hp.1, by rw [q1 b hb]; exact hp.1, hp.2⟩⟩
  obtain ⟨F, rows, hJ, h2, h3⟩ := h.desk.jo
  exact ⟨F, rows, hJ.fuse N h0 h1, h2, h3⟩
theorem LawD.reads {w W : World} {c : Nat → Colour} {gd gw g : Nat} {m : Pl} {n S E : Nat} {D : List (List (List Nat))} {nv : Value} {dims K Kd : Nat} (h : LawD w W c gd gw g m [n] 0 n S E D nv dims K Kd) (hK : K ≤ 1000000000000) (p : Nat) (hp : p < n) :
    Calls Tryd.prog 27 #[ptr g, .int .i64 0, .int .i64 (p : Nat)] W fun e w' => ∃ b, e = .returned (.tuple #[.slice (some ⟨b, 0, none⟩) 64 64, .int .i64 0]) ∧ W.heap.size ≤ b ∧ Row w' b 5 (bcells (m.rd 0 p)) ∧ Below W.heap.size W w' := by
  have h1 := h.le
  have hlv := h.desk.jo.jc.lv
  exact h.desk.dk.live.read (by omega) hlv.1.on 0 p hlv.1.lt (by
    unfold Pl.len
    rw [(h.desk.dk.shape.disk 0 (by simp)).1, (h.desk.dk.shape.disk 0 (by simp)).2]
    exact hp)
theorem LawD.sec {w W : World} {c : Nat → Colour} {gd gw g : Nat} {m : Pl} {ds : List Nat} {i n S E : Nat} {D : List (List (List Nat))} {nv : Value} {dims K Kd : Nat} (h : LawD w W c gd gw g m ds i n S E D nv dims K Kd) (j p : Nat) : Sec (m.rd j p) := Pl.rd_sec h.desk.dk.live.2.1 j p
theorem LawD.fresh {w W : World} {c : Nat → Colour} {gd gw g : Nat} {m : Pl} {ds : List Nat} {i n S E : Nat} {D : List (List (List Nat))} {nv : Value} {dims K Kd : Nat} (h : LawD w W c gd gw g m ds i n S E D nv dims K Kd) (b : Nat) (hb : W.heap.size ≤ b) : Fr3 c 2 gd gw b := ⟨h.desk.dk.live.2.2 b hb, by have := h.desk.dk.row.lt; omega, by have := h.desk.wal.row.lt; omega⟩
theorem wrap_in (z : Int) : -9223372036854775808 ≤ IntKind.i64.wrap z ∧ IntKind.i64.wrap z ≤ 9223372036854775807 := by
  simp [IntKind.wrap, IntKind.signed, IntKind.bits]
  omega
section
variable {w : World} {ops : Array Oper} {rest : List Oper} {o : Oper} {a : Act} {Q : Exit → Act → World → Prop}
theorem wl_addW (x y : Operand) (hgd : Region.wanted o (yielded ops a.tmps) = true) (ho : o.op = .binOp .add 3 x y 3) (m n : Int) (hx : a.eval x = .int .i64 m) (hy : a.eval y = .int .i64 n) (h : wpList Tryd.prog ops Q rest (a.put o.dst (.int .i64 (IntKind.i64.wrap (m + n)))) w) : wpList Tryd.prog ops Q (o :: rest) a w := by
  have hr : (binOp .add 3 (.int .i64 m) (.int .i64 n)).run Tryd.prog w = .ok (.int .i64 (IntKind.i64.wrap (m + n))) w := by simp [binOp, Op.intArith]
  exact wl hgd _ w (run_binOp' x y ho _ _ _ hx hy rfl hr) h
theorem wl_mulW (x y : Operand) (hgd : Region.wanted o (yielded ops a.tmps) = true) (ho : o.op = .binOp .mul 3 x y 3) (m n : Int) (hx : a.eval x = .int .i64 m) (hy : a.eval y = .int .i64 n) (h : wpList Tryd.prog ops Q rest (a.put o.dst (.int .i64 (IntKind.i64.wrap (m * n)))) w) : wpList Tryd.prog ops Q (o :: rest) a w := by
  have hr : (binOp .mul 3 (.int .i64 m) (.int .i64 n)).run Tryd.prog w = .ok (.int .i64 (IntKind.i64.wrap (m * n))) w := by simp [binOp, Op.intArith]
  exact wl hgd _ w (run_binOp' x y ho _ _ _ hx hy rfl hr) h
theorem wl_quo2 (x : Operand) (hgd : Region.wanted o (yielded ops a.tmps) = true) (ho : o.op = .binOp .quo 3 x (.const (.int .i64 2)) 3) (m : Int) (hx : a.eval x = .int .i64 m) (h : wpList Tryd.prog ops Q rest (a.put o.dst (.int .i64 (IntKind.i64.wrap (m.tdiv 2)))) w) : wpList Tryd.prog ops Q (o :: rest) a w := by
  have hr : (binOp .quo 3 (.int .i64 m) (.int .i64 2)).run Tryd.prog w = .ok (.int .i64 (IntKind.i64.wrap (m.tdiv 2))) w := by simp [binOp, Op.intDiv]
  exact wl hgd _ w (run_binOp' x (.const (.int .i64 2)) ho _ _ _ hx rfl rfl hr) h
end
theorem run_build33 {w : World} {a : Act} {o : Oper} (x : Operand) (ho : o.op = .build 33 #[(2, x)]) (v : Value) (hv : ∃ p n c, v = .slice p n c) (hx : a.eval x = v) : (execOp a.eval o).run Tryd.prog w = .ok (.value (.agg (opCells 0 0 v (.slice none 0 0)).toArray)) w := by
  obtain ⟨p, n, c, rfl⟩ := hv
  have hr : (Instr.build 33 #[(2, .slice p n c)]).run Tryd.prog w = .ok (.agg (opCells 0 0 (.slice p n c) (.slice none 0 0)).toArray) w := by kernel_rfl
  simp only [execOp, ho, List.map_toArray, List.map_cons, List.map_nil, hx, hr, Sem.run_bind, Sem.run_pure, Result.andThen_ok]
theorem run_build33' {w : World} {a : Act} {o : Oper} (x y : Operand) (ho : o.op = .build 33 #[(2, x), (3, y)]) (v u : Value) (hv : ∃ p n c, v = .slice p n c) (hu : ∃ p n c, u = .slice p n c) (hx : a.eval x = v) (hy : a.eval y = u) : (execOp a.eval o).run Tryd.prog w = .ok (.value (.agg (opCells 0 0 v u).toArray)) w := by
  obtain ⟨p, n, c, rfl⟩ := hv
  obtain ⟨p', n', c', rfl⟩ := hu
  have hr : (Instr.build 33 #[(2, .slice p n c), (3, .slice p' n' c')]).run Tryd.prog w = .ok (.agg (opCells 0 0 (.slice p n c) (.slice p' n' c')).toArray) w := by kernel_rfl
  simp only [execOp, ho, List.map_toArray, List.map_cons, List.map_nil, hx, hy, hr, Sem.run_bind, Sem.run_pure, Result.andThen_ok]
theorem run_build33'' {w : World} {a : Act} {o : Oper} (y : Operand) (ho : o.op = .build 33 #[(0, .const (.int .i64 7)), (3, y)]) (u : Value) (hu : ∃ p n c, u = .slice p n c) (hy : a.eval y = u) : (execOp a.eval o).run Tryd.prog w = .ok (.value (.agg (opCells 7 0 (.slice none 0 0) u).toArray)) w := by
  obtain ⟨p', n', c', rfl⟩ := hu
  have h7 : a.eval (.const (.int .i64 7)) = .int .i64 7 := rfl
  have hr : (Instr.build 33 #[(0, .int .i64 7), (3, .slice p' n' c')]).run Tryd.prog w = .ok (.agg (opCells 7 0 (.slice none 0 0) (.slice p' n' c')).toArray) w := by kernel_rfl
  simp only [execOp, ho, List.map_toArray, List.map_cons, List.map_nil, h7, hy, hr, Sem.run_bind, Sem.run_pure, Result.andThen_ok]
theorem run_lit30_b {w : World} {a : Act} {o : Oper} (x y : Operand) (ho : o.op = .buildSlice 30 2 #[(0, x), (1, y)]) (b q : Nat) (hx : a.eval x = .slice (some ⟨b, 0, none⟩) 64 64) (hy : a.eval y = .slice (some ⟨b, 0, none⟩) q 64) : (execOp a.eval o).run Tryd.prog w = .ok (.value (.slice (some ⟨w.heap.size, 0, none⟩) 2 2)) (w.alloc (.cells #[.slice (some ⟨b, 0, none⟩) 64 64, .slice (some ⟨b, 0, none⟩) q 64] 51)) := by
  have hr : (Instr.buildSlice 30 2 #[(0, .slice (some ⟨b, 0, none⟩) 64 64), (1, .slice (some ⟨b, 0, none⟩) q 64)]).run Tryd.prog w = .ok (.slice (some ⟨w.heap.size, 0, none⟩) 2 2) (w.alloc (.cells #[.slice (some ⟨b, 0, none⟩) 64 64, .slice (some ⟨b, 0, none⟩) q 64] 51)) := by kernel_rfl
  simp only [execOp, ho, List.map_toArray, List.map_cons, List.map_nil, hx, hy, hr, Sem.run_bind, Sem.run_pure, Result.andThen_ok]
theorem run_cutb {w : World} {a : Act} {o : Oper} (x y : Operand) (ho : o.op = .slice 51 x none (some y) none) (b q : Nat) (hq : q ≤ 64) (hx : a.eval x = .slice (some ⟨b, 0, none⟩) 64 64) (hy : a.eval y = .int .i64 (q : Nat)) : (execOp a.eval o).run Tryd.prog w = .ok (.value (.slice (some ⟨b, 0, none⟩) q 64)) w := by
  obtain ⟨i5, hi5, hsz⟩ := Option.map_eq_some_iff.1 (show (Tryd.prog.info? 5).map (·.size) = some 1 by kernel_rfl)
  have hsize : (sizeOf 5).run Tryd.prog w = .ok 1 w := by simp [sizeOf, typeInfo, hi5, hsz]
  have he : Tryd.prog.elem 51 = 5 := by kernel_rfl
  have hr : (Instr.slice 51 (.slice (some ⟨b, 0, none⟩) 64 64) none (some (.int .i64 (q : Nat))) none).run Tryd.prog w = .ok (sliced (some ⟨b, 0, none⟩) 0 q 64 1) w := by
    rw [run_slice_h _ _ _ _ _ sl51 _ _ (by omega) (by omega), he, hsize]
    rfl
  have hs : sliced (some ⟨b, 0, none⟩) 0 q 64 1 = .slice (some ⟨b, 0, none⟩) q 64 := by
    unfold sliced
    simp [Addr.add]
  rw [hs] at hr
  simp [execOp, ho, hx, hy, run_sliceAt_slice _ _ _ _ _ _ sl51, hr]
theorem idx31 (b off n cap k : Nat) (h : k < n) (w' : World) : (Instr.indexAt 31 (.slice (some ⟨b, off, none⟩) n cap) (.int .i64 (k : Nat))).run Tryd.prog w' = .ok (.pointer (some ⟨b, off + k, none⟩)) w' := by
  obtain ⟨i5, hi5, hsz⟩ := Option.map_eq_some_iff.1 (show (Tryd.prog.info? 3).map (·.size) = some 1 by kernel_rfl)
  simp [Instr.indexAt, asIntOf, run_underlying Tryd.underlying31, h, sizeOf, typeInfo, hi5, hsz, add_none]

theorem i64_in (z : Int) (h0 : -9223372036854775808 ≤ z) (h1 : z ≤ 9223372036854775807) : -9223372036854775808 ≤ z ∧ z ≤ 9223372036854775807 := ⟨h0, h1⟩
theorem ints_nil (w : World) : IntsIn w (.slice none 0 0) [] := ⟨none, 0, rfl, Nat.le_refl _, by decide, Or.inl rfl⟩
theorem rows_nil8 (w : World) : RowsIn w (.slice none 0 0) [] := ⟨none, 0, rfl, by decide, Or.inl rfl⟩
theorem LawD.bel {w W W' : World} {c : Nat → Colour} {gd gw g : Nat} {m : Pl} {ds : List Nat} {i n S E : Nat} {D : List (List (List Nat))} {nv : Value} {dims K Kd : Nat} (h : LawD w W c gd gw g m ds i n S E D nv dims K Kd) (hb : Below W.heap.size W W') : LawD w W' c gd gw g m ds i n S E D nv dims K Kd := ⟨h.desk.below hb, h.cc, h.below.trans (hb.mono h.below.size), h.gd, h.gw, h.le, h.dim⟩
theorem LawD.mono {w W : World} {c : Nat → Colour} {gd gw g : Nat} {m : Pl} {ds : List Nat} {i n S E : Nat} {D : List (List (List Nat))} {nv : Value} {dims K Kd K' Kd' : Nat} (h : LawD w W c gd gw g m ds i n S E D nv dims K Kd) (hk : K ≤ K') (hd : Kd ≤ Kd') : LawD w W c gd gw g m ds i n S E D nv dims K' Kd' := ⟨h.desk, h.cc, h.below, h.gd, h.gw, by have := h.le; omega, by have := h.dim; omega⟩
set_option maxHeartbeats 32000000 in
set_option maxRecDepth 100000 in
theorem walLooks_any (w : World) (ht : Fr.TabIn w) (fv : Value) (L0 : List (List Nat)) (hf : RowsIn w fv L0) (hL0 : txSize L0 ≤ 10000000) (pv : Value) (ps : List Int) (hp : IntsIn w pv ps) (hpb : ∀ z ∈ ps, -9223372036854775808 ≤ z ∧ z ≤ 9223372036854775807) (fz : Int) (hfz : -9223372036854775808 ≤ fz ∧ fz ≤ 9223372036854775807) (kv : Value) (ks : List Int) (hk : IntsIn w kv ks) : Calls Tryd.prog 8 #[fv, pv, .int .i64 fz, kv] w fun e w' => e = .returned (.bool true) ∧ Below w.heap.size w w' := by
  have HFO : Hid (∀ W c gd gw, Below w.heap.size w W → (∀ b, b < w.heap.size → Fr3 c 2 gd gw b) → OpR W (Fr3 c 2 gd gw) 0 0 fv (.slice none 0 0) L0 []) := fun W c gd gw hb hP => OpIn.at (o := ⟨0, 0, fv, .slice none 0 0, L0, []⟩) ⟨i64_in 0 (by decide) (by decide), i64_in 0 (by decide) (by decide), hf, ints_nil w, hL0⟩ hb hP
  have HO7 : Hid (∀ W c gd gw, Below w.heap.size w W → (∀ b, b < w.heap.size → Fr3 c 2 gd gw b) → OpR W (Fr3 c 2 gd gw) 7 0 (.slice none 0 0) kv [] ks) := fun W c gd gw hb hP => OpIn.at (o := ⟨7, 0, .slice none 0 0, kv, [], ks⟩) ⟨i64_in 7 (by decide) (by decide), i64_in 0 (by decide) (by decide), rows_nil8 w, hk, show txSize [] ≤ 10000000 by decide⟩ hb hP
  have HKX : Hid (∀ W c gd gw, Below w.heap.size w W → (∀ b, b < w.heap.size → Fr3 c 2 gd gw b) → KeepX W (Fr3 c 2 gd gw) kv ks) := fun W c gd gw hb hP => hk.keepX hb.size fun b hlt => ⟨hb.block b hlt, hP b hlt⟩
  obtain ⟨fp, fn, fc, rfl⟩ := hf.isSl
  obtain ⟨kp, kn, kc, rfl⟩ : ∃ p n c, kv = .slice p n c := by obtain ⟨p, cap, h, _⟩ := hk; exact ⟨p, _, cap, h⟩
  obtain ⟨pp, pc, rfl, hpc, hpl, hpx⟩ := hp
  obtain ⟨pn, hpn⟩ : ∃ pn, pn = ps.length := ⟨_, rfl⟩
  rw [← hpn] at hpl ⊢
  have HPL : Hid (∀ k, k < pn → ∃ x b off, (-9223372036854775808 ≤ x ∧ x ≤ 9223372036854775807) ∧ pp = some ⟨b, off, none⟩ ∧ ∀ W, Below w.heap.size w W → W.cell? ⟨b, off + k, none⟩ = some (.int .i64 x)) := fun k hlt => by
    have hkl : k < ps.length := by rw [← hpn]; exact hlt
    rcases hpx with e | ⟨b, off, h1, h2⟩
    · rw [e] at hkl; exact absurd hkl (Nat.not_lt_zero _)
    · refine ⟨ps.getD k 0, b, off, hpb _ (getD_mem hkl), h1, fun W hW => ?_⟩
      rw [← h2 k hkl]
      exact World.cell?_of_block (hW.block b (block_lt_of_cell (h2 k hkl)))
  have HT : Hid (Fr.TabIn w) := ht
  obtain ⟨PQ, hPQ⟩ : ∃ PQ : Ending → World → Prop, PQ = fun (e : Ending) (w' : World) => e = .returned (.bool true) ∧ Below w.heap.size w w' := ⟨_, rfl⟩
  have HPQ : Hid (PQ = fun (e : Ending) (w' : World) => e = .returned (.bool true) ∧ Below w.heap.size w w') := hPQ
  rw [← hPQ]
  have HSH : Hid (Calls Tryd.prog 9 #[] w fun e w' => e = .returned (.bool true) ∧ Below w.heap.size w w') := shown_any w ht
  have HWF : Hid (∀ W, Calls Tryd.prog 10 #[.int .i64 fz, .int .i64 9] W fun e w' => e = .returned (.int .i64 (whichOf fz 9 : Nat)) ∧ W = w') := fun W => which_any W fz 9 (by decide) hfz.1 hfz.2
  clear hPQ ht hpn hpx hpb hk hf hL0 hpc
  go_enter Tryd.func8, Tryd.ntmps8
  go_upto_region 4 with (go_at_call 9; refine HSH.out.mono ?_; rintro e w1 ⟨rfl, b1⟩; have R1 : Hid (Below w.heap.size w w1) := b1; clear b1 HSH)
  refine wp_region_lit ?_
  refine wpList_callF eN11 [.const (.int .i64 1), .const (.int .i64 48)] _ rfl rfl [.int .i64 1, .int .i64 48] rfl ?_
  refine (law_made w w1 R1.out 1 48 ⟨by decide, by decide⟩ ⟨by decide, by decide⟩).mono ?_
  rintro e w3 ⟨g, c3, rfl, q1, q2, q3⟩
  refine ⟨_, rfl, ?_⟩
  have R3 : Hid ((∀ b, b < w.heap.size → c3 b = (0, 0)) ∧ Live w3 c3 2 g (newPl (List.replicate 1 ((48 : Nat) : Int)) []) ∧ Below w.heap.size w w3) := ⟨q1, q2, q3⟩
  clear q1 q2 q3 R1
  simp only [Act.put, zA, List.set_cons_succ, zC]
  refine wl_as (.tmp 22) rfl rfl (ptr g) rfl ?_
  simp only [Act.put, zA, List.set_cons_succ, zC]
  refine wpList_nil ?_
  go_upto_region 7 with fail
  refine wp_region_lit ?_
  refine wl_mv (.tmp 10) rfl rfl (ptr g) rfl ?_
  simp only [Act.put, zA, List.set_cons_succ, zC]
  refine wpList_callF eN12 [.tmp 25, .const (.int .i64 0), .const (.int .i64 48)] _ rfl rfl [ptr g, .int .i64 0, .int .i64 48] rfl ?_
  refine (law_begun (n := 48) R3.out.2.2 ⟨by decide, by decide⟩ ⟨by decide, by decide⟩ R3.out.2.1 R3.out.1 HT.out).mono ?_
  rintro e w4 ⟨gd, c4, gw4, m4, S4, E4, rfl, q1, _⟩
  refine ⟨_, rfl, ?_⟩
  have R4 : Hid (LawD w w4 c4 gd gw4 g m4 [48] 0 48 S4 E4 [] (.slice none 0 0) 0 6000 0) := q1
  clear q1 R3
  simp only [Act.put, zA, List.set_cons_succ, zC]
  refine wl_as (.tmp 26) rfl rfl (ptr gd) rfl ?_
  simp only [Act.put, zA, List.set_cons_succ, zC]
  refine wpList_nil ?_
  go_upto_region 10 with fail
  refine wp_region_lit ?_
  refine wl_mv (.tmp 11) rfl rfl (ptr gd) rfl ?_
  simp only [Act.put, zA, List.set_cons_succ, zC]
  refine wl_mv (.tmp 0) rfl rfl (.slice fp fn fc) rfl ?_
  simp only [Act.put, zA, List.set_cons_succ, zC]
  refine wl rfl _ _ (run_build33 (.tmp 30) rfl (.slice fp fn fc) ⟨_, _, _, rfl⟩ rfl) ?_
  simp only [Act.put, zA, List.set_cons_succ, zC]
  refine wpList_callF eN26 [.tmp 29, .tmp 31] _ rfl rfl [(ptr gd), (.agg (opCells 0 0 (.slice fp fn fc) (.slice none 0 0)).toArray)] rfl ?_
  refine (R4.out.appends (by omega) (by omega) (HFO.out w4 c4 gd gw4 R4.out.below R4.out.fr3)).mono ?_
  rintro e w5 ⟨rfl, c5, gw5, m5, S5, E5, D5, nv5, d5, q1⟩
  refine ⟨_, rfl, ?_⟩
  have R5 : Hid (LawD w w5 c5 gd gw5 g m5 [48] 0 48 S5 E5 D5 nv5 d5 26000 10) := q1
  clear q1 R4
  simp only [Act.put, zA, List.set_cons_succ, zC]
  refine wl_as (.tmp 32) rfl rfl (.bool true) rfl ?_
  simp only [Act.put, zA, List.set_cons_succ, zC]
  refine wpList_nil ?_
  go_upto_region 13 with fail
  go_wp2_with fail
  go_loopw [13] (fun vi W => ∃ (k : Nat) (c : Nat → Colour) (gw : Nat) (m : Pl) (S E : Nat) (D : List (List (List Nat))) (nv : Value) (dims : Nat), vi = .int .i64 (k : Nat) ∧ k ≤ 12 ∧ k ≤ pn ∧ LawD w W c gd gw g m [48] 0 48 S E D nv dims (26000 + 40000 * k) (10 + 20 * k)) (fun vi _ => 12 - (intOf vi).toNat)
  case atStart => exact ⟨0, c5, gw5, m5, S5, E5, D5, nv5, d5, rfl, Nat.zero_le _, Nat.zero_le _, R5.out⟩
  case round =>
    obtain ⟨k, c, gw, m, S, E, D, nv, dims, rfl, hk12, hkp, hI⟩ := hrel
    obtain ⟨wo, rfl⟩ : ∃ wo, wo = wr := ⟨_, rfl⟩
    have HI : Hid (LawD w wo c gd gw g m [48] 0 48 S E D nv dims (26000 + 40000 * k) (10 + 20 * k)) := hI
    clear hI R5
    by_cases hlt : k < pn ∧ k < 12
    · obtain ⟨hltp, hlt12⟩ := hlt
      have t1 : decide ((k : Int) < (pn : Int)) = true := decide_eq_true (by omega)
      have t2 : decide ((k : Int) < 12) = true := decide_eq_true (by omega)
      obtain ⟨x, b0, off, hxr, hpp, hcl⟩ := HPL.out k hltp
      have HC : Hid (pp = some ⟨b0, off, none⟩ ∧ ∀ W, Below w.heap.size w W → W.cell? ⟨b0, off + k, none⟩ = some (.int .i64 x)) := ⟨hpp, hcl⟩
      have HWX : Hid (∀ W, Calls Tryd.prog 10 #[.int .i64 x, .int .i64 64] W fun e w' => e = .returned (.int .i64 (whichOf x 64 : Nat)) ∧ W = w') := fun W => which_any W x 64 (by decide) hxr.1 hxr.2
      clear hpp hcl hxr
      go_upto_region 16 with (refine wl_sl sl31 (.tmp 36) rfl rfl pp pn pc rfl ?_)
      refine wp_region_lit ?_
      refine lit30 rfl rfl ?_
      obtain ⟨wA, hwA⟩ : ∃ wA, wA = wo.alloc (.cells #[] 51) := ⟨_, rfl⟩
      obtain ⟨gA, hgA⟩ : ∃ gA, gA = wo.heap.size := ⟨_, rfl⟩
      have RA : Hid (LkI wo (.slice (some ⟨gA, 0, none⟩) 0 0) [] [] wA) := by rw [hgA, hwA]; exact LkI.nil wo
      rw [← hwA, ← hgA]
      clear hwA hgA
      simp only [Act.put, zA, List.set_cons_succ, zC]
      refine wl_as (.tmp 45) rfl rfl (.slice (some ⟨gA, 0, none⟩) 0 0) rfl ?_
      simp only [Act.put, zA, List.set_cons_succ, zC]
      refine wpList_nil ?_
      go_upto_region 17 with fail
      go_wp2_with fail
      go_loopw [14, 15] (fun vt vj W => ∃ (j : Nat) (L : List (List Nat)) (us : List Value), vj = .int .i64 (j : Nat) ∧ j ≤ 3 ∧ L.length = 2 * j ∧ LkI wo vt L us W) (fun _ vj _ => 3 - (intOf vj).toNat)
      case atStart => exact ⟨0, [], [], rfl, Nat.zero_le _, rfl, RA.out⟩
      case round =>
        obtain ⟨j, L, us, rfl, hj, hLl, hJ⟩ := hrel
        have HJ : Hid (LkI wo u14 L us wr) := hJ
        clear hJ RA
        by_cases hlj : j < 3
        · have t3 : decide ((j : Int) < 3) = true := decide_eq_true (by omega)
          go_upto_region 20 with fail
          refine wp_region_lit ?_
          refine wl_mv (.tmp 10) rfl rfl (ptr g) rfl ?_
          simp only [Act.put, zA, List.set_cons_succ, zC]
          refine wl_mv (.tmp 1) rfl rfl (.slice pp pn pc) rfl ?_
          simp only [Act.put, zA, List.set_cons_succ, zC]
          refine wl_mv (.tmp 13) rfl rfl (.int .i64 (k : Nat)) rfl ?_
          simp only [Act.put, zA, List.set_cons_succ, zC]
          refine wl_ix (.tmp 52) (.tmp 53) rfl rfl (.slice pp pn pc) (.pointer (some ⟨b0, off + k, none⟩)) (.int .i64 (k : Nat)) rfl rfl (fun w' => by rw [HC.out.1]; exact idx31 b0 off pn pc k hltp w') ?_
          simp only [Act.put, zA, List.set_cons_succ, zC]
          refine wl_ld o3' (.tmp 54) rfl rfl b0 (off + k) rfl (.int .i64 x) (HC.out.2 _ (HI.out.below.trans (HJ.out.below.mono HI.out.below.size))) ?_
          simp only [Act.put, zA, List.set_cons_succ, zC]
          refine wl_mv (.tmp 15) rfl rfl (.int .i64 (j : Nat)) rfl ?_
          simp only [Act.put, zA, List.set_cons_succ, zC]
          refine wl_mulW (.const (.int .i64 7)) (.tmp 56) rfl rfl 7 (j : Int) rfl rfl ?_
          simp only [Act.put, zA, List.set_cons_succ, zC]
          refine wl_addW (.tmp 55) (.tmp 57) rfl rfl x (IntKind.i64.wrap (7 * (j : Int))) rfl rfl ?_
          obtain ⟨z, hz⟩ : ∃ z, z = IntKind.i64.wrap (x + IntKind.i64.wrap (7 * (j : Int))) := ⟨_, rfl⟩
          rw [← hz]
          have HZ : Hid (∀ W, Calls Tryd.prog 10 #[.int .i64 z, .int .i64 48] W fun e w' => e = .returned (.int .i64 (whichOf z 48 : Nat)) ∧ W = w') := fun W => which_any W z 48 (by decide) (by rw [hz]; exact (wrap_in _).1) (by rw [hz]; exact (wrap_in _).2)
          clear hz
          simp only [Act.put, zA, List.set_cons_succ, zC]
          refine wpList_callF eN10 [.tmp 58, .const (.int .i64 48)] _ rfl rfl [.int .i64 z, .int .i64 48] rfl ?_
          refine (HZ.out _).mono ?_
          rintro e wx ⟨rfl, hwx⟩
          refine ⟨_, rfl, ?_⟩
          subst hwx
          simp only [Act.put, zA, List.set_cons_succ, zC]
          refine wpList_callF eN27 [.tmp 51, .const (.int .i64 0), .tmp 59] _ rfl rfl [ptr g, .int .i64 0, .int .i64 (whichOf z 48 : Nat)] rfl ?_
          refine ((HI.out.bel HJ.out.below).reads (by omega) (whichOf z 48) (whichOf_lt _ 48 (by decide))).mono ?_
          rintro e w7 ⟨b, rfl, q1, q2, q3⟩
          refine ⟨_, rfl, ?_⟩
          obtain ⟨s, hs⟩ : ∃ s, s = m.rd 0 (whichOf z 48) := ⟨_, rfl⟩
          rw [← hs] at q2
          have R7 : Hid (wr.heap.size ≤ b ∧ Row w7 b 5 (bcells s) ∧ Below wr.heap.size wr w7 ∧ Sec s) := ⟨q1, q2, q3, by rw [hs]; exact HI.out.sec 0 _⟩
          clear q1 q2 q3 hs HZ
          simp only [Act.put, zA, List.set_cons_succ, zC]
          refine wl_mv (.tmp 60) rfl rfl (.tuple #[(.slice (some ⟨b, 0, none⟩) 64 64), (.int .i64 0)]) rfl ?_
          simp only [Act.put, zA, List.set_cons_succ, zC]
          refine wl_ext (.tmp 50) 0 rfl rfl #[.slice (some ⟨b, 0, none⟩) 64 64, .int .i64 0] rfl (.slice (some ⟨b, 0, none⟩) 64 64) rfl ?_
          simp only [Act.put, zA, List.set_cons_succ, zC]
          refine wl_ext (.tmp 50) 1 rfl rfl #[.slice (some ⟨b, 0, none⟩) 64 64, .int .i64 0] rfl (.int .i64 0) rfl ?_
          simp only [Act.put, zA, List.set_cons_succ, zC]
          refine wl_as (.tmp 61) rfl rfl (.slice (some ⟨b, 0, none⟩) 64 64) rfl ?_
          simp only [Act.put, zA, List.set_cons_succ, zC]
          refine wl_as (.tmp 62) rfl rfl (.int .i64 0) rfl ?_
          simp only [Act.put, zA, List.set_cons_succ, zC]
          refine wpList_nil ?_
          go_upto_region 21 with fail
          refine wp_region_lit ?_
          refine wl_mv (.tmp 17) rfl rfl (.int .i64 0) rfl ?_
          simp only [Act.put, zA, List.set_cons_succ, zC]
          refine wl_neI (.tmp 63) (.const (.int .i64 0)) rfl rfl 0 0 rfl rfl false rfl ?_
          simp only [Act.put, zA, List.set_cons_succ, zC]
          refine wl_mv (.tmp 64) rfl rfl (.bool false) rfl ?_
          simp only [Act.put, zA, List.set_cons_succ, zC]
          refine wl_mv (.tmp 16) rfl rfl (.slice (some ⟨b, 0, none⟩) 64 64) rfl ?_
          simp only [Act.put, zA, List.set_cons_succ, zC]
          refine wl_sl sl51 (.tmp 66) rfl rfl (some ⟨b, 0, none⟩) 64 64 rfl ?_
          simp only [Act.put, zA, List.set_cons_succ, zC]
          refine wl_neI (.tmp 67) (.const (.int .i64 64)) rfl rfl 64 64 rfl rfl false rfl ?_
          simp only [Act.put, zA, List.set_cons_succ, zC]
          refine wl rfl _ _ (run_pickZ (.tmp 65) (.const (.bool true)) (.tmp 68) rfl false (.bool false) rfl rfl) ?_
          simp only [Act.put, zA, List.set_cons_succ, zC]
          refine wpList_nil ?_
          go_upto_region 23 with fail
          refine wp_region_lit ?_
          refine wl_mv (.tmp 14) rfl rfl u14 rfl ?_
          simp only [Act.put, zA, List.set_cons_succ, zC]
          refine wl_mv (.tmp 16) rfl rfl (.slice (some ⟨b, 0, none⟩) 64 64) rfl ?_
          simp only [Act.put, zA, List.set_cons_succ, zC]
          refine wl_mv (.tmp 16) rfl rfl (.slice (some ⟨b, 0, none⟩) 64 64) rfl ?_
          simp only [Act.put, zA, List.set_cons_succ, zC]
          refine wl_mv (.tmp 1) rfl rfl (.slice pp pn pc) rfl ?_
          simp only [Act.put, zA, List.set_cons_succ, zC]
          refine wl_mv (.tmp 13) rfl rfl (.int .i64 (k : Nat)) rfl ?_
          simp only [Act.put, zA, List.set_cons_succ, zC]
          refine wl_ix (.tmp 73) (.tmp 74) rfl rfl (.slice pp pn pc) (.pointer (some ⟨b0, off + k, none⟩)) (.int .i64 (k : Nat)) rfl rfl (fun w' => by rw [HC.out.1]; exact idx31 b0 off pn pc k hltp w') ?_
          simp only [Act.put, zA, List.set_cons_succ, zC]
          refine wl_ld o3' (.tmp 75) rfl rfl b0 (off + k) rfl (.int .i64 x) (HC.out.2 _ ((HI.out.below.trans (HJ.out.below.mono HI.out.below.size)).trans (R7.out.2.2.1.mono (Nat.le_trans HI.out.below.size HJ.out.below.size)))) ?_
          simp only [Act.put, zA, List.set_cons_succ, zC]
          refine wpList_callF eN10 [.tmp 76, .const (.int .i64 64)] _ rfl rfl [.int .i64 x, .int .i64 64] rfl ?_
          refine (HWX.out _).mono ?_
          rintro e wx ⟨rfl, hwx⟩
          refine ⟨_, rfl, ?_⟩
          subst hwx
          obtain ⟨q, hq⟩ : ∃ q, q = whichOf x 64 := ⟨_, rfl⟩
          have hq64 : q ≤ 64 := by rw [hq]; exact Nat.le_of_lt (whichOf_lt _ 64 (by decide))
          rw [← hq]
          clear hq
          simp only [Act.put, zA, List.set_cons_succ, zC]
          refine wl rfl _ _ (run_cutb (.tmp 72) (.tmp 77) rfl b q hq64 rfl rfl) ?_
          simp only [Act.put, zA, List.set_cons_succ, zC]
          refine wl rfl _ _ (run_lit30_b (.tmp 71) (.tmp 78) rfl b q rfl rfl) ?_
          obtain ⟨v9, w9, hr9, h9⟩ := HJ.out.push R7.out.2.2.1 R7.out.1 R7.out.2.1 R7.out.2.2.2 q hq64 (by omega)
          simp only [Act.put, zA, List.set_cons_succ, zC]
          refine wl_app (.tmp 70) (.tmp 79) rfl rfl u14 (.slice (some ⟨w7.heap.size, 0, none⟩) 2 2) v9 rfl rfl hr9 ?_
          have R9 : Hid (LkI wo v9 _ _ w9) := h9
          clear h9 hr9 R7 HJ
          simp only [Act.put, zA, List.set_cons_succ, zC]
          refine wl_as (.tmp 80) rfl rfl v9 rfl ?_
          simp only [Act.put, zA, List.set_cons_succ, zC]
          refine wpList_nil ?_
          go_wp2_with fail
          refine ⟨⟨j + 1, _, _, by go_num, by omega, by simp; omega, R9.out⟩, ?_⟩
          simp [intOf]; omega
        · obtain rfl : j = 3 := by omega
          have t3 : decide (((3 : Nat) : Int) < 3) = false := decide_eq_false (by omega)
          have RX : Hid (OpR wr (Fr3 c 2 gd gw) 0 0 u14 (.slice kp kn kc) L ks ∧ LawD w wr c gd gw g m [48] 0 48 S E D nv dims (26000 + 40000 * k) (10 + 20 * k) ∧ ∃ p n c, u14 = .slice p n c) := by
            have hl := HI.out.bel HJ.out.below
            refine ⟨⟨⟨by decide, by decide⟩, ⟨by decide, by decide⟩, HJ.out.rob (by omega) HI.out.fresh, HKX.out wr c gd gw hl.below hl.fr3, ?_⟩, hl, HJ.out.isSl⟩
            have := small_size L HJ.out.len
            unfold txSize
            omega
          clear HJ HI HC HWX
          go_upto_region 24 with fail
          refine wp_region_lit ?_
          by_cases hmid : (k : Int) = IntKind.i64.wrap ((pn : Int).tdiv 2)
          · refine wl_mv (.tmp 13) rfl rfl (.int .i64 (k : Nat)) rfl ?_
            simp only [Act.put, zA, List.set_cons_succ, zC]
            refine wl_mv (.tmp 1) rfl rfl (.slice pp pn pc) rfl ?_
            simp only [Act.put, zA, List.set_cons_succ, zC]
            refine wl_sl sl31 (.tmp 82) rfl rfl pp pn pc rfl ?_
            simp only [Act.put, zA, List.set_cons_succ, zC]
            refine wl_quo2 (.tmp 83) rfl rfl (pn : Int) rfl ?_
            simp only [Act.put, zA, List.set_cons_succ, zC]
            refine wl_eqI (.tmp 81) (.tmp 84) rfl rfl (k : Int) (IntKind.i64.wrap ((pn : Int).tdiv 2)) rfl rfl true (decide_eq_true hmid) ?_
            simp only [Act.put, zA, List.set_cons_succ, zC]
            refine wpList_nil ?_
            clear hmid
            go_upto_region 25 with fail
            refine wp_region_lit ?_
            refine wl_mv (.tmp 10) rfl rfl (ptr g) rfl ?_
            simp only [Act.put, zA, List.set_cons_succ, zC]
            refine wl_mv (.tmp 2) rfl rfl (.int .i64 fz) rfl ?_
            simp only [Act.put, zA, List.set_cons_succ, zC]
            refine wpList_callF eN10 [.tmp 87, .const (.int .i64 9)] _ rfl rfl [.int .i64 fz, .int .i64 9] rfl ?_
            refine (HWF.out _).mono ?_
            rintro e wx ⟨rfl, hwx⟩
            refine ⟨_, rfl, ?_⟩
            subst hwx
            obtain ⟨q, hq⟩ : ∃ q, q = whichOf fz 9 := ⟨_, rfl⟩
            have hq9 : q < 9 := by rw [hq]; exact whichOf_lt _ 9 (by decide)
            rw [← hq]
            clear hq
            simp only [Act.put, zA, List.set_cons_succ, zC]
            refine wpList_callF eN14 [.tmp 86, .tmp 88] _ rfl rfl [(ptr g), (.int .i64 (q : Nat))] rfl ?_
            refine (RX.out.2.1.fuse2 (q : Nat) (by omega) (by omega)).mono ?_
            rintro e w8 ⟨rfl, c8, q1, q2⟩
            refine ⟨_, rfl, ?_⟩
            obtain ⟨m8, hm8⟩ : ∃ m8, m8 = m.fuseTo (q : Nat) := ⟨_, rfl⟩
            rw [← hm8] at q1
            have R8 : Hid (OpR w8 (Fr3 c8 2 gd gw) 0 0 u14 (.slice kp kn kc) L ks ∧ LawD w w8 c8 gd gw g m8 [48] 0 48 S E D nv dims (26000 + 40000 * k) (10 + 20 * k) ∧ ∃ p n c, u14 = .slice p n c) := ⟨⟨RX.out.1.k, RX.out.1.n, q2 _ RX.out.1.tx, HKX.out w8 c8 gd gw q1.below q1.fr3, RX.out.1.size⟩, q1, RX.out.2.2⟩
            clear q1 q2 RX hm8 hq9
            simp only [Act.put, zA, List.set_cons_succ, zC]
            refine wpList_nil ?_
            go_upto_region 26 with fail
            refine wp_region_lit ?_
            refine wl_mv (.tmp 11) rfl rfl (ptr gd) rfl ?_
            simp only [Act.put, zA, List.set_cons_succ, zC]
            refine wl_mv (.tmp 14) rfl rfl u14 rfl ?_
            simp only [Act.put, zA, List.set_cons_succ, zC]
            refine wl_mv (.tmp 3) rfl rfl (.slice kp kn kc) rfl ?_
            simp only [Act.put, zA, List.set_cons_succ, zC]
            refine wl rfl _ _ (run_build33' (.tmp 91) (.tmp 92) rfl u14 (.slice kp kn kc) R8.out.2.2 ⟨_, _, _, rfl⟩ rfl rfl) ?_
            simp only [Act.put, zA, List.set_cons_succ, zC]
            refine wpList_callF eN26 [.tmp 90, .tmp 93] _ rfl rfl [(ptr gd), (.agg (opCells 0 0 u14 (.slice kp kn kc)).toArray)] rfl ?_
            refine (R8.out.2.1.appends (by omega) (by omega) R8.out.1).mono ?_
            rintro e wa ⟨rfl, ca, gwa, ma, Sa, Ea, Da, nva, da, q1⟩
            refine ⟨_, rfl, ?_⟩
            have Ra : Hid (LawD w wa ca gd gwa g ma [48] 0 48 Sa Ea Da nva da (26000 + 40000 * k + 20000) (10 + 20 * k + 10)) := q1
            clear q1 R8
            simp only [Act.put, zA, List.set_cons_succ, zC]
            refine wl_as (.tmp 94) rfl rfl (.bool true) rfl ?_
            simp only [Act.put, zA, List.set_cons_succ, zC]
            refine wpList_nil ?_
            go_upto_region 29 with fail
            refine wp_region_lit ?_
            by_cases h4 : (k : Int) % (4 : Nat) = 3
            · refine wl_mv (.tmp 13) rfl rfl (.int .i64 (k : Nat)) rfl ?_
              simp only [Act.put, zA, List.set_cons_succ, zC]
              refine wl_remN (.tmp 97) (.const (.int .i64 4)) rfl rfl (k : Int) 4 (by decide) (by omega) rfl rfl ?_
              simp only [Act.put, zA, List.set_cons_succ, zC]
              refine wl_eqI (.tmp 98) (.const (.int .i64 3)) rfl rfl ((k : Int) % (4 : Nat)) 3 rfl rfl true (decide_eq_true h4) ?_
              simp only [Act.put, zA, List.set_cons_succ, zC]
              refine wpList_nil ?_
              go_upto_region 30 with fail
              refine wp_region_lit ?_
              refine wl_mv (.tmp 11) rfl rfl (ptr gd) rfl ?_
              simp only [Act.put, zA, List.set_cons_succ, zC]
              refine wl_mv (.tmp 3) rfl rfl (.slice kp kn kc) rfl ?_
              simp only [Act.put, zA, List.set_cons_succ, zC]
              refine wl rfl _ _ (run_build33'' (.tmp 101) rfl (.slice kp kn kc) ⟨_, _, _, rfl⟩ rfl) ?_
              simp only [Act.put, zA, List.set_cons_succ, zC]
              refine wpList_callF eN13 [.tmp 100, .tmp 102] _ rfl rfl [(ptr gd), (.agg (opCells 7 0 (.slice none 0 0) (.slice kp kn kc)).toArray)] rfl ?_
              refine (Ra.out.does (by omega) (by omega) (HO7.out wa ca gd gwa Ra.out.below Ra.out.fr3)).mono ?_
              rintro e wb ⟨rfl, cb, gwb, mb, Sb, Eb, Db, nvb, db, q1, _⟩
              refine ⟨_, rfl, ?_⟩
              have Rb : Hid (LawD w wb cb gd gwb g mb [48] 0 48 Sb Eb Db nvb db (26000 + 40000 * (k + 1)) (10 + 20 * (k + 1))) := q1.mono (by omega) (by omega)
              clear q1 Ra
              simp only [Act.put, zA, List.set_cons_succ, zC]
              refine wl_as (.tmp 103) rfl rfl (.bool true) rfl ?_
              simp only [Act.put, zA, List.set_cons_succ, zC]
              refine wpList_nil ?_
              go_wp2_with fail
              refine ⟨⟨k + 1, cb, gwb, mb, Sb, Eb, Db, nvb, db, by go_num, by omega, by omega, Rb.out⟩, ?_⟩
              simp [intOf]; omega
            · refine wl_mv (.tmp 13) rfl rfl (.int .i64 (k : Nat)) rfl ?_
              simp only [Act.put, zA, List.set_cons_succ, zC]
              refine wl_remN (.tmp 97) (.const (.int .i64 4)) rfl rfl (k : Int) 4 (by decide) (by omega) rfl rfl ?_
              simp only [Act.put, zA, List.set_cons_succ, zC]
              refine wl_eqI (.tmp 98) (.const (.int .i64 3)) rfl rfl ((k : Int) % (4 : Nat)) 3 rfl rfl false (decide_eq_false h4) ?_
              simp only [Act.put, zA, List.set_cons_succ, zC]
              refine wpList_nil ?_
              have Rb : Hid (LawD w wa ca gd gwa g ma [48] 0 48 Sa Ea Da nva da (26000 + 40000 * (k + 1)) (10 + 20 * (k + 1))) := Ra.out.mono (by omega) (by omega)
              clear Ra
              go_wp2_with fail
              refine ⟨⟨k + 1, ca, gwa, ma, Sa, Ea, Da, nva, da, by go_num, by omega, by omega, Rb.out⟩, ?_⟩
              simp [intOf]; omega
          · refine wl_mv (.tmp 13) rfl rfl (.int .i64 (k : Nat)) rfl ?_
            simp only [Act.put, zA, List.set_cons_succ, zC]
            refine wl_mv (.tmp 1) rfl rfl (.slice pp pn pc) rfl ?_
            simp only [Act.put, zA, List.set_cons_succ, zC]
            refine wl_sl sl31 (.tmp 82) rfl rfl pp pn pc rfl ?_
            simp only [Act.put, zA, List.set_cons_succ, zC]
            refine wl_quo2 (.tmp 83) rfl rfl (pn : Int) rfl ?_
            simp only [Act.put, zA, List.set_cons_succ, zC]
            refine wl_eqI (.tmp 81) (.tmp 84) rfl rfl (k : Int) (IntKind.i64.wrap ((pn : Int).tdiv 2)) rfl rfl false (decide_eq_false hmid) ?_
            simp only [Act.put, zA, List.set_cons_succ, zC]
            refine wpList_nil ?_
            clear hmid
            have R8 := RX
            clear RX
            go_upto_region 26 with fail
            refine wp_region_lit ?_
            refine wl_mv (.tmp 11) rfl rfl (ptr gd) rfl ?_
            simp only [Act.put, zA, List.set_cons_succ, zC]
            refine wl_mv (.tmp 14) rfl rfl u14 rfl ?_
            simp only [Act.put, zA, List.set_cons_succ, zC]
            refine wl_mv (.tmp 3) rfl rfl (.slice kp kn kc) rfl ?_
            simp only [Act.put, zA, List.set_cons_succ, zC]
            refine wl rfl _ _ (run_build33' (.tmp 91) (.tmp 92) rfl u14 (.slice kp kn kc) R8.out.2.2 ⟨_, _, _, rfl⟩ rfl rfl) ?_
            simp only [Act.put, zA, List.set_cons_succ, zC]
            refine wpList_callF eN26 [.tmp 90, .tmp 93] _ rfl rfl [(ptr gd), (.agg (opCells 0 0 u14 (.slice kp kn kc)).toArray)] rfl ?_
            refine (R8.out.2.1.appends (by omega) (by omega) R8.out.1).mono ?_
            rintro e wa ⟨rfl, ca, gwa, ma, Sa, Ea, Da, nva, da, q1⟩
            refine ⟨_, rfl, ?_⟩
            have Ra : Hid (LawD w wa ca gd gwa g ma [48] 0 48 Sa Ea Da nva da (26000 + 40000 * k + 20000) (10 + 20 * k + 10)) := q1
            clear q1 R8
            simp only [Act.put, zA, List.set_cons_succ, zC]
            refine wl_as (.tmp 94) rfl rfl (.bool true) rfl ?_
            simp only [Act.put, zA, List.set_cons_succ, zC]
            refine wpList_nil ?_
            go_upto_region 29 with fail
            refine wp_region_lit ?_
            by_cases h4 : (k : Int) % (4 : Nat) = 3
            · refine wl_mv (.tmp 13) rfl rfl (.int .i64 (k : Nat)) rfl ?_
              simp only [Act.put, zA, List.set_cons_succ, zC]
              refine wl_remN (.tmp 97) (.const (.int .i64 4)) rfl rfl (k : Int) 4 (by decide) (by omega) rfl rfl ?_
              simp only [Act.put, zA, List.set_cons_succ, zC]
              refine wl_eqI (.tmp 98) (.const (.int .i64 3)) rfl rfl ((k : Int) % (4 : Nat)) 3 rfl rfl true (decide_eq_true h4) ?_
              simp only [Act.put, zA, List.set_cons_succ, zC]
              refine wpList_nil ?_
              go_upto_region 30 with fail
              refine wp_region_lit ?_
              refine wl_mv (.tmp 11) rfl rfl (ptr gd) rfl ?_
              simp only [Act.put, zA, List.set_cons_succ, zC]
              refine wl_mv (.tmp 3) rfl rfl (.slice kp kn kc) rfl ?_
              simp only [Act.put, zA, List.set_cons_succ, zC]
              refine wl rfl _ _ (run_build33'' (.tmp 101) rfl (.slice kp kn kc) ⟨_, _, _, rfl⟩ rfl) ?_
              simp only [Act.put, zA, List.set_cons_succ, zC]
              refine wpList_callF eN13 [.tmp 100, .tmp 102] _ rfl rfl [(ptr gd), (.agg (opCells 7 0 (.slice none 0 0) (.slice kp kn kc)).toArray)] rfl ?_
              refine (Ra.out.does (by omega) (by omega) (HO7.out wa ca gd gwa Ra.out.below Ra.out.fr3)).mono ?_
              rintro e wb ⟨rfl, cb, gwb, mb, Sb, Eb, Db, nvb, db, q1, _⟩
              refine ⟨_, rfl, ?_⟩
              have Rb : Hid (LawD w wb cb gd gwb g mb [48] 0 48 Sb Eb Db nvb db (26000 + 40000 * (k + 1)) (10 + 20 * (k + 1))) := q1.mono (by omega) (by omega)
              clear q1 Ra
              simp only [Act.put, zA, List.set_cons_succ, zC]
              refine wl_as (.tmp 103) rfl rfl (.bool true) rfl ?_
              simp only [Act.put, zA, List.set_cons_succ, zC]
              refine wpList_nil ?_
              go_wp2_with fail
              refine ⟨⟨k + 1, cb, gwb, mb, Sb, Eb, Db, nvb, db, by go_num, by omega, by omega, Rb.out⟩, ?_⟩
              simp [intOf]; omega
            · refine wl_mv (.tmp 13) rfl rfl (.int .i64 (k : Nat)) rfl ?_
              simp only [Act.put, zA, List.set_cons_succ, zC]
              refine wl_remN (.tmp 97) (.const (.int .i64 4)) rfl rfl (k : Int) 4 (by decide) (by omega) rfl rfl ?_
              simp only [Act.put, zA, List.set_cons_succ, zC]
              refine wl_eqI (.tmp 98) (.const (.int .i64 3)) rfl rfl ((k : Int) % (4 : Nat)) 3 rfl rfl false (decide_eq_false h4) ?_
              simp only [Act.put, zA, List.set_cons_succ, zC]
              refine wpList_nil ?_
              have Rb : Hid (LawD w wa ca gd gwa g ma [48] 0 48 Sa Ea Da nva da (26000 + 40000 * (k + 1)) (10 + 20 * (k + 1))) := Ra.out.mono (by omega) (by omega)
              clear Ra
              go_wp2_with fail
              refine ⟨⟨k + 1, ca, gwa, ma, Sa, Ea, Da, nva, da, by go_num, by omega, by omega, Rb.out⟩, ?_⟩
              simp [intOf]; omega
    · have RI : Hid (LawD w wo c gd gw g m [48] 0 48 S E D nv dims 506000 250) := HI.out.mono (by omega) (by omega)
      clear HI
      by_cases hltp : k < pn
      · have t1 : decide ((k : Int) < (pn : Int)) = true := decide_eq_true (by omega)
        have t2 : decide ((k : Int) < 12) = false := decide_eq_false (by omega)
        go_upto_region 33 with (refine wl_sl sl31 (.tmp 36) rfl rfl pp pn pc rfl ?_)
        refine wp_region_lit ?_
        refine wl_mv (.tmp 10) rfl rfl (ptr g) rfl ?_
        simp only [Act.put, zA, List.set_cons_succ, zC]
        refine wpList_callF eN14 [.tmp 106, .const (.int .i64 (-1))] _ rfl rfl [ptr g, .int .i64 (-1)] rfl ?_
        refine (RI.out.fuse (-1) (by decide) (by decide)).mono ?_
        rintro e w6 ⟨rfl, c6, q1⟩
        refine ⟨_, rfl, ?_⟩
        obtain ⟨m6, hm6⟩ : ∃ m6, m6 = m.fuseTo (-1) := ⟨_, rfl⟩
        rw [← hm6] at q1
        obtain ⟨us, hB⟩ := q1.rest
        have RB : Hid (LawB w w6 c6 gd g m6 [48] 0 48 D (ptr gw) nv us (costs D) dims 506000 250 ∧ KeepX w6 (Fr2 c6 2 gd) (.slice kp kn kc) ks) := ⟨hB, (HKX.out w6 c6 gd gw q1.below q1.fr3).next (Nat.le_refl _) fun b hb hp => ⟨rfl, hp.1, hp.2.1⟩⟩
        clear hB q1 RI hm6
        simp only [Act.put, zA, List.set_cons_succ, zC]
        refine wpList_nil ?_
        go_upto_region 34 with fail
        refine wp_region_lit ?_
        refine wl_mv (.tmp 10) rfl rfl (ptr g) rfl ?_
        simp only [Act.put, zA, List.set_cons_succ, zC]
        refine wl_mv (.tmp 3) rfl rfl (.slice kp kn kc) rfl ?_
        simp only [Act.put, zA, List.set_cons_succ, zC]
        refine wpList_callF eN15 [.tmp 108, .tmp 109] _ rfl rfl [(ptr g), (.slice kp kn kc)] rfl ?_
        refine (RB.out.1.boot (by omega) _ ks RB.out.2).mono ?_
        rintro e w7 ⟨rfl, c7, q1, _, _⟩
        refine ⟨_, rfl, ?_⟩
        obtain ⟨m7, hm7⟩ : ∃ m7, m7 = m6.boot ks := ⟨_, rfl⟩
        rw [← hm7] at q1
        have R7 : Hid (LawB w w7 c7 gd g m7 [48] 0 48 D (ptr gw) nv us (costs D) dims 506000 250) := q1
        clear q1 RB hm7
        simp only [Act.put, zA, List.set_cons_succ, zC]
        refine wpList_nil ?_
        go_upto_region 35 with fail
        refine wp_region_lit ?_
        refine wl_mv (.tmp 9) rfl rfl (.bool true) rfl ?_
        simp only [Act.put, zA, List.set_cons_succ, zC]
        refine wl_mv (.tmp 111) rfl rfl (.bool true) rfl ?_
        simp only [Act.put, zA, List.set_cons_succ, zC]
        refine wl_mv (.tmp 11) rfl rfl (ptr gd) rfl ?_
        simp only [Act.put, zA, List.set_cons_succ, zC]
        refine wl_mv (.tmp 11) rfl rfl (ptr gd) rfl ?_
        simp only [Act.put, zA, List.set_cons_succ, zC]
        refine wl_nil (.tmp 114) rfl rfl ⟨gd, 0, none⟩ rfl ?_
        simp only [Act.put, zA, List.set_cons_succ, zC]
        refine wl_fld f40_3 (.tmp 115) rfl rfl gd 0 rfl ?_
        simp only [Act.put, zA, List.set_cons_succ, zC]
        refine wl_ld o38 (.tmp 116) rfl rfl gd (0 + 3) rfl nv (R7.out.dk.row.at 3 _ rfl) ?_
        simp only [Act.put, zA, List.set_cons_succ, zC]
        refine wl rfl _ _ (run_lit41_1 (.tmp 117) rfl nv R7.out.sl rfl) ?_
        simp only [Act.put, zA, List.set_cons_succ, zC]
        refine wpList_callW eN16 [.tmp 113, .const (.slice none 0 0), .tmp 118] _ rfl rfl [ptr gd, .slice none 0 0, .slice (some ⟨w7.heap.size, 0, none⟩) 1 1] rfl ?_
        refine (R7.out.opens (by omega) (by omega) _ [] (KeepX.nil _ _)).mono ?_
        rintro e w8 ⟨rfl, c8, gw8, m8, S8, E8, nv8, d8, q1, _⟩
        refine ⟨_, rfl, ?_⟩
        have R8 : Hid (Below w.heap.size w w8) := q1.below
        clear q1 R7
        simp only [Act.put, zA, List.set_cons_succ, zC]
        refine wl rfl _ _ (run_pickZ (.tmp 112) (.tmp 119) (.const (.bool false)) rfl true (.bool true) rfl rfl) ?_
        simp only [Act.put, zA, List.set_cons_succ, zC]
        refine wl_as (.tmp 120) rfl rfl (.bool true) rfl ?_
        simp only [Act.put, zA, List.set_cons_succ, zC]
        refine wpList_nil ?_
        go_wp2_with fail
        rw [HPQ.out]
        exact ⟨rfl, R8.out⟩
      · have t1 : decide ((k : Int) < (pn : Int)) = false := decide_eq_false (by omega)
        go_upto_region 33 with (refine wl_sl sl31 (.tmp 36) rfl rfl pp pn pc rfl ?_)
        refine wp_region_lit ?_
        refine wl_mv (.tmp 10) rfl rfl (ptr g) rfl ?_
        simp only [Act.put, zA, List.set_cons_succ, zC]
        refine wpList_callF eN14 [.tmp 106, .const (.int .i64 (-1))] _ rfl rfl [ptr g, .int .i64 (-1)] rfl ?_
        refine (RI.out.fuse (-1) (by decide) (by decide)).mono ?_
        rintro e w6 ⟨rfl, c6, q1⟩
        refine ⟨_, rfl, ?_⟩
        obtain ⟨m6, hm6⟩ : ∃ m6, m6 = m.fuseTo (-1) := ⟨_, rfl⟩
        rw [← hm6] at q1
        obtain ⟨us, hB⟩ := q1.rest
        have RB : Hid (LawB w w6 c6 gd g m6 [48] 0 48 D (ptr gw) nv us (costs D) dims 506000 250 ∧ KeepX w6 (Fr2 c6 2 gd) (.slice kp kn kc) ks) := ⟨hB, (HKX.out w6 c6 gd gw q1.below q1.fr3).next (Nat.le_refl _) fun b hb hp => ⟨rfl, hp.1, hp.2.1⟩⟩
        clear hB q1 RI hm6
        simp only [Act.put, zA, List.set_cons_succ, zC]
        refine wpList_nil ?_
        go_upto_region 34 with fail
        refine wp_region_lit ?_
        refine wl_mv (.tmp 10) rfl rfl (ptr g) rfl ?_
        simp only [Act.put, zA, List.set_cons_succ, zC]
        refine wl_mv (.tmp 3) rfl rfl (.slice kp kn kc) rfl ?_
        simp only [Act.put, zA, List.set_cons_succ, zC]
        refine wpList_callF eN15 [.tmp 108, .tmp 109] _ rfl rfl [(ptr g), (.slice kp kn kc)] rfl ?_
        refine (RB.out.1.boot (by omega) _ ks RB.out.2).mono ?_
        rintro e w7 ⟨rfl, c7, q1, _, _⟩
        refine ⟨_, rfl, ?_⟩
        obtain ⟨m7, hm7⟩ : ∃ m7, m7 = m6.boot ks := ⟨_, rfl⟩
        rw [← hm7] at q1
        have R7 : Hid (LawB w w7 c7 gd g m7 [48] 0 48 D (ptr gw) nv us (costs D) dims 506000 250) := q1
        clear q1 RB hm7
        simp only [Act.put, zA, List.set_cons_succ, zC]
        refine wpList_nil ?_
        go_upto_region 35 with fail
        refine wp_region_lit ?_
        refine wl_mv (.tmp 9) rfl rfl (.bool true) rfl ?_
        simp only [Act.put, zA, List.set_cons_succ, zC]
        refine wl_mv (.tmp 111) rfl rfl (.bool true) rfl ?_
        simp only [Act.put, zA, List.set_cons_succ, zC]
        refine wl_mv (.tmp 11) rfl rfl (ptr gd) rfl ?_
        simp only [Act.put, zA, List.set_cons_succ, zC]
        refine wl_mv (.tmp 11) rfl rfl (ptr gd) rfl ?_
        simp only [Act.put, zA, List.set_cons_succ, zC]
        refine wl_nil (.tmp 114) rfl rfl ⟨gd, 0, none⟩ rfl ?_
        simp only [Act.put, zA, List.set_cons_succ, zC]
        refine wl_fld f40_3 (.tmp 115) rfl rfl gd 0 rfl ?_
        simp only [Act.put, zA, List.set_cons_succ, zC]
        refine wl_ld o38 (.tmp 116) rfl rfl gd (0 + 3) rfl nv (R7.out.dk.row.at 3 _ rfl) ?_
        simp only [Act.put, zA, List.set_cons_succ, zC]
        refine wl rfl _ _ (run_lit41_1 (.tmp 117) rfl nv R7.out.sl rfl) ?_
        simp only [Act.put, zA, List.set_cons_succ, zC]
        refine wpList_callW eN16 [.tmp 113, .const (.slice none 0 0), .tmp 118] _ rfl rfl [ptr gd, .slice none 0 0, .slice (some ⟨w7.heap.size, 0, none⟩) 1 1] rfl ?_
        refine (R7.out.opens (by omega) (by omega) _ [] (KeepX.nil _ _)).mono ?_
        rintro e w8 ⟨rfl, c8, gw8, m8, S8, E8, nv8, d8, q1, _⟩
        refine ⟨_, rfl, ?_⟩
        have R8 : Hid (Below w.heap.size w w8) := q1.below
        clear q1 R7
        simp only [Act.put, zA, List.set_cons_succ, zC]
        refine wl rfl _ _ (run_pickZ (.tmp 112) (.tmp 119) (.const (.bool false)) rfl true (.bool true) rfl rfl) ?_
        simp only [Act.put, zA, List.set_cons_succ, zC]
        refine wl_as (.tmp 120) rfl rfl (.bool true) rfl ?_
        simp only [Act.put, zA, List.set_cons_succ, zC]
        refine wpList_nil ?_
        go_wp2_with fail
        rw [HPQ.out]
        exact ⟨rfl, R8.out⟩
end Go.Proofs.YtgcecejamcnkiaaDoor
namespace Go.Proofs.YtgcecejamcnkiaaDoor
open Go.ChangeShapes Go.WideShapes Go.ChangeAt Go.RowKit Go.Deep
set_option maxRecDepth 100000 in
/-- A SLICE OF NUMBERS THAT CAME IN -/
theorem open_nums {H : Type} {enc : TypeId × Value → H} {W : World} {v : Value} {d : DataW H} {p : List MemPlace} {base : Nat}
    (hv : Value.okWide Tryd.prog W .any base 31 v) (h : DataW.Trod enc Tryd.prog W 0 (fun _ => true) true 31 v d p) : ∃ l : List Int, (l.length < 4611686018427387904 → IntsIn W v l) ∧ (l = [] ∨ ∃ elems spare, d = .slice elems spare ∧ elems.length = l.length) ∧ ∀ z ∈ l, -9223372036854775808 ≤ z ∧ z ≤ 9223372036854775807 := by
  obtain ⟨a0, len0, cap0, rfl⟩ := okWide_slice Tryd.underlying31 hv
  obtain ⟨fuel, hf⟩ := h
  rcases open_ints Tryd.underlying31 Tryd.underlying3 cells3 hf with ⟨hcs, _⟩ | ⟨x, l, c, zs, hcs, _, hl, hm, hz, hx, hcell, hwz⟩
  · simp [Value.cells] at hcs
    obtain ⟨rfl, rfl, rfl⟩ := hcs
    exact ⟨[], fun _ => ⟨none, 0, rfl, by decide, by decide, Or.inl rfl⟩, Or.inl rfl, fun z hz => by cases hz⟩
  · simp [Value.cells] at hcs
    obtain ⟨rfl, rfl, rfl⟩ := hcs
    have hz' : zs.length = cap0 := by simpa using hz
    have hlen : (zs.take len0).length = len0 := by simp; omega
    have hbd : ∀ z ∈ zs.take len0, -9223372036854775808 ≤ z ∧ z ≤ 9223372036854775807 := fun z hz => by
      have := hwz z (List.mem_of_mem_take hz)
      simpa [Lit.wf, IntKind.min, IntKind.max, IntKind.signed, IntKind.bits] using this
    by_cases h0 : len0 = 0
    · subst h0
      exact ⟨[], fun _ => ⟨some x, cap0, rfl, by simp, by decide, Or.inl rfl⟩, Or.inl rfl, fun z hz => by cases hz⟩
    · obtain ⟨b, off, rfl, hc⟩ := ints_at hcell (by omega)
      refine ⟨zs.take len0, fun h62 => ⟨some ⟨b, off, none⟩, cap0, by rw [hlen], by omega, h62, Or.inr ⟨b, off, rfl, fun j hj => ?_⟩⟩, Or.inr ⟨_, _, congrArg Prod.fst hx, by simp [lits]⟩, hbd⟩
      rw [hlen] at hj
      have h1 := hc j (by omega)
      rw [h1]
      have hj' : j < zs.length := by omega
      simp [hj, hj']
theorem open_len {H : Type} {d : DataW H} {l : List Int} (hd : l = [] ∨ ∃ elems spare, d = .slice elems spare ∧ elems.length = l.length) (hb : Rows.uptoBulk d ≤ 1048576) : l.length < 4611686018427387904 := by
  rcases hd with rfl | ⟨elems, spare, e, he⟩
  · simp
  · rw [e] at hb
    simp only [Rows.uptoBulk] at hb
    have := bulk_length elems
    omega
end Go.Proofs.YtgcecejamcnkiaaDoor

/- The walk of (*State).Write. -/
import Derived.Test.YtjdmpanemdhbbaaDoorState
namespace Go.Proofs.YtjdmpanemdhbbaaDoor
open Go.RowKit Go.Sort

theorem info5 : (Tryd.prog.info? 5).map (·.size) = some 1 := by kernel_rfl
theorem slice38_from (g o r : Nat) (hr : r < 64) (W : World) : (Instr.sliceAt 67 (.pointer (some ⟨g, o, none⟩)) (some (.int .u64 (r : Nat))) none none).run Tryd.prog W = .ok (.slice (some ⟨g, o + r, none⟩) (64 - r) (64 - r)) W := by
  obtain ⟨i, hi, hsz⟩ := Option.map_eq_some_iff.1 info5
  have h1 : (r : Int) ≤ 64 := by omega
  have h2 : ¬ 64 = r := by omega
  have h3 : r ≤ 64 := by omega
  simp [Instr.sliceAt, run_underlying Tryd.underlying67, Instr.sureAddr, Instr.sliceBounds, Instr.sliceBound, asIntOf, sizeOf, typeInfo, hi, hsz, h2, h3, add_none]
theorem slice52_to (g h : Nat) (hh : h ≤ 72) (W : World) : (Instr.sliceAt 85 (.pointer (some ⟨g, 0, none⟩)) none (some (.int .u64 (h : Nat))) none).run Tryd.prog W = .ok (.slice (some ⟨g, 0, none⟩) h 72) W := by
  obtain ⟨i, hi, _⟩ := Option.map_eq_some_iff.1 info5
  simp [Instr.sliceAt, run_underlying Tryd.underlying85, Instr.sureAddr, Instr.sliceBounds, Instr.sliceBound, asIntOf, sizeOf, typeInfo, hi, hh, add_none]

section
variable {w : World} {ops : Array Oper} {rest : List Oper} {o : Oper} {a : Act} {Q : Exit → Act → World → Prop}
/-- copy of bytes into a block that is known whole -/
theorem wpList_copy_row (d s : Operand) (hgd : o.guard = none) (ho : o.op = .call { callee := .builtin .copy, args := #[d, s], argTypes := #[57, 57] })
    (g off dLen dCap b so sLen sCap T k : Nat) (hd : a.eval d = .slice (some ⟨g, off, none⟩) dLen dCap) (hs : a.eval s = .slice (some ⟨b, so, none⟩) sLen sCap)
    (cur : List Value) (hr : Row w g T cur) (c : List Nat) (hk : c.length = k) (hn : k = Nat.min sLen dLen) (hsrc : ∀ j, j < c.length → w.cell? ⟨b, so + j, none⟩ = some (.int .u8 (c.getD j 0 : Nat))) (hfit : off + k ≤ cur.length)
    (h : ∀ w', Row w' g T (splice cur off (bcells c)) → Only g w w' → wpList Tryd.prog ops Q rest (a.put o.dst (.int .i64 (k : Nat))) w') : wpList Tryd.prog ops Q (o :: rest) a w := by
  have hbl : (bcells c).length = k := by rw [bcells_length]; exact hk
  refine wpList_copy_own hgd d s 57 57 ho 5 Tryd.underlying57 info5 g off dLen dCap ⟨b, so, none⟩ sLen sCap hd hs cur.toArray T hr (bcells c) (by rw [hbl]; exact hn) ?_ (by rw [hbl]; simpa using hfit) (bcells_one c) ?_
  · intro j v hv
    have hj : j < c.length := by
      have := (List.getElem?_eq_some_iff.1 hv).1
      rwa [bcells_length] at this
    rw [add_none, hsrc j hj, ← hv, bcells_at c j hj]
  · have hh := h (w.setRow g (splice cur off (bcells c)).toArray) (hr.setRow _) ((Only.refl g w).setRow _)
    rw [← hbl] at hh
    exact hh
theorem wpList_store0 {t n : Nat} (ht : AggT t n) (x y : Operand) (hgd : o.guard = none) (hdst : o.dst = none) (ho : o.op = .store t x y) (g off T : Nat) (hx : a.eval x = .pointer (some ⟨g, off, none⟩)) (cs cur : List Value) (hy : a.eval y = .agg cs.toArray) (hn : cs.length = n)
    (hr : Row w g T cur) (hfit : off + cs.length ≤ cur.length) (h1 : ∀ v ∈ cs, v.oneCell' = true) (h : wpList Tryd.prog ops Q rest a (w.setRow g (splice cur off cs).toArray)) : wpList Tryd.prog ops Q (o :: rest) a w :=
  wpList_store ht x y hgd ho g off T hx cs cur hy hn hr hfit h1 (by rw [hdst]; exact h)
/-- the rest of a slice of bytes -/
theorem wpList_cut (x lo : Operand) (hgd : o.guard = none) (ho : o.op = .slice 57 x (some lo) none none) (b off len cap k : Nat) (hx : a.eval x = .slice (some ⟨b, off, none⟩) len cap) (hlo : a.eval lo = .int .i64 (k : Nat)) (hk : k ≤ len)
    (h : ∀ p', (cap ≠ k → p' = some ⟨b, off + k, none⟩) → wpList Tryd.prog ops Q rest (a.put o.dst (.slice p' (len - k) (cap - k))) w) : wpList Tryd.prog ops Q (o :: rest) a w := by
  obtain ⟨i, hi, hsz⟩ := Option.map_eq_some_iff.1 info5
  refine wpList_value hgd (.slice (if cap = k then some ⟨b, off, none⟩ else some ⟨b, off + k, none⟩) (len - k) (cap - k)) w ?_ (h _ (fun hne => by rw [if_neg hne]))
  simp [execOp, ho, hx, hlo, Instr.sliceAt, Instr.slice, run_underlying Tryd.underlying57, Instr.sliceBounds, Instr.sliceBound, asIntOf, sizeOf, typeInfo, hi, hsz, hk, add_none]
end

theorem StIn.part' {W : World} {g T r k : Nat} {M c buf : List Nat} (hT : T = M.length) (hr : r = T % 64) (hk : c.length = k) (hrow : Row W g 70 (stCells (Sha.full M) (splice buf r c) (T + k))) (hb : buf.length = 64) (hl : ∀ x ∈ buf, x < 256) (hc : ∀ x ∈ c, x < 256)
    (ht : buf.take r = M.drop (64 * (T / 64))) (hlt : r + k < 64) : StIn W g (M ++ c) := by
  subst hT hr hk
  exact StIn.part hrow hb hl hc ht hlt
theorem StIn.fill' {W : World} {g T r k : Nat} {M c buf : List Nat} (hT : T = M.length) (hr : r = T % 64) (hk : c.length = k) (hrow : Row W g 70 (stCells (Sha.comp (Sha.full M) (splice buf r c)) (splice buf r c) (T + k))) (hb : buf.length = 64) (hl : ∀ x ∈ buf, x < 256) (hc : ∀ x ∈ c, x < 256)
    (ht : buf.take r = M.drop (64 * (T / 64))) (heq : r + k = 64) : StIn W g (M ++ c) := by
  subst hT hr hk
  exact StIn.fill hrow hb hl hc ht heq

def sliceLen : Value → Nat | .slice _ l _ => l | _ => 0

/-- where the State stands in the loop -/
def WrIn (w W : World) (g : Nat) (m cs : List Nat) (p : Option Addr) (n : Nat) : Prop :=
  StIn W g (m ++ cs.take n) ∧ Only g w W ∧ (n < cs.length → ∃ b off, p = some ⟨b, off + n, none⟩ ∧ b ≠ g ∧ BytesIn w b off cs)

set_option maxHeartbeats 1000000 in
set_option maxRecDepth 100000 in
theorem write_any (g : Nat) (v : Value) (m cs : List Nat) (w : World) (hs : StIn w g m) (hv : SliceOff w g v cs) (ht : TabIn w) (hg : 1 < g) (hlen : m.length + cs.length < 2305843009213693952) :
    Calls Tryd.prog 42 #[.pointer (some ⟨g, 0, none⟩), v] w fun e w' => e = .returned noResult ∧ StIn w' g (m ++ cs) ∧ Only g w w' := by
  obtain ⟨p, cap, rfl, hcap, hv⟩ := hv
  have hw0 : WrIn w w g m cs p 0 := by
    refine ⟨by simpa using hs, Only.refl _ _, fun hn => ?_⟩
    rcases hv with rfl | ⟨b, off, rfl, hb, hc⟩
    · simp at hn
    · exact ⟨b, off, rfl, hb, hc⟩
  clear hs hv
  go_enter Tryd.func42, Tryd.ntmps42
  go_wp2
  go_loopw [1] (fun s W => ∃ (n cap' : Nat) (p' : Option Addr), n ≤ cs.length ∧ s = .slice p' (cs.length - n) cap' ∧ cs.length - n ≤ cap' ∧ WrIn w W g m cs p' n) (fun s _ => sliceLen s)
  case atStart => exact ⟨0, cap, p, Nat.zero_le _, rfl, hcap, hw0⟩
  case round =>
    clear hw0
    obtain ⟨n, cap', p', hn, rfl, hcap', hw⟩ := hrel
    by_cases hlt : n < cs.length
    · obtain ⟨⟨buf, hr, hb64, hbl, hbt⟩, ho, hp⟩ := hw
      obtain ⟨b, off, rfl, hbg, hby⟩ := hp hlt
      clear hp
      have hcs : ∀ x ∈ cs, x < 256 := by
        intro x hx
        obtain ⟨j, hj, rfl⟩ := List.getElem_of_mem hx
        simpa [hj] using hby.2 j
      obtain ⟨T, hT⟩ : ∃ T, T = (m ++ cs.take n).length := ⟨_, rfl⟩
      have hTn : T = m.length + n := by rw [hT]; simp; omega
      obtain ⟨r, hrr⟩ : ∃ r, r = T % 64 := ⟨_, rfl⟩
      have hr64 : r < 64 := by omega
      have hri : (T : Int) % 64 = (r : Int) := by omega
      rw [← hT] at hr hbt
      have c72 := hr.at 72 _ (stCells_taken _ _ _ hb64)
      have f72 := hr.frozen 72
      have hpos : (0 : Int) < ((cs.length - n : Nat) : Int) := Int.ofNat_lt.2 (Nat.sub_pos_of_lt hlt)
      have HR : Hid (Row wr g 70 (stCells (Sha.full (m ++ cs.take n)) buf T)) := hr
      have HT : Hid (T = (m ++ cs.take n).length) := hT
      have HN : Hid (T = m.length + n) := hTn
      have HX : Hid (r = T % 64) := hrr
      generalize hL : cs.length - n = L at *
      have hsl := slice38_from g 8 r hr64
      clear hr hT hTn hrr
      go_wp2
      refine wp_region_head_drew 10 (by kernel_rfl) (by kernel_rfl) ?_
      simp only [List.take_succ_cons, List.take_zero, List.drop_succ_cons, List.drop_zero]
      repeat (go_big_quiet_step (fail))
      refine wpQuiet_nil ?_
      intro _ hw'
      obtain ⟨nq, hw''⟩ := hw'
      subst hw''
      obtain ⟨c, hc⟩ : ∃ c, c = (cs.drop n).take (Nat.min L (64 - r)) := ⟨_, rfl⟩
      obtain ⟨k, hk⟩ : ∃ k, k = Nat.min L (64 - r) := ⟨_, rfl⟩
      have hcl : c.length = k := by rw [hc, ← hk, List.length_take, List.length_drop, hL, Nat.min_eq_left (by rw [hk]; exact Nat.min_le_left _ _)]
      have hkL : k ≤ L := by rw [hk]; exact Nat.min_le_left _ _
      have hk64 : r + k ≤ 64 := by have h : k ≤ 64 - r := by { rw [hk]; exact Nat.min_le_right L (64 - r) }; omega
      have hkor : k = L ∨ r + k = 64 := by
        rcases Nat.le_total L (64 - r) with h | h
        · exact Or.inl (by rw [hk]; exact Nat.min_eq_left h)
        · exact Or.inr (by rw [hk, show Nat.min L (64 - r) = 64 - r from Nat.min_eq_right h]; omega)
      have hkp : 0 < k := by omega
      have hcg : ∀ j, j < c.length → c.getD j 0 = cs.getD (n + j) 0 := by
        intro j hj
        rw [hcl] at hj
        rw [hc, ← hk]
        simp [hj]
      refine wpList_copy_row (.tmp 16) (.tmp 17) rfl rfl g (8 + r) (64 - r) (64 - r) b (off + n) L cap' 70 k rfl rfl _ (HR.out.drewN nq) c hcl hk ?_ (by rw [stCells_length, hb64]; omega) ?_
      · intro j hj
        rw [hcg j hj, Nat.add_assoc]
        exact (ho.bytes hbg hby).1 (n + j) (by omega)
      intro w1 hr1 ho1
      rw [stCells_bytes _ _ _ _ _ (by omega)] at hr1
      have HO : Hid (Only g w w1) := ho.trans ((Only.refl g wr).drewN nq |>.trans ho1)
      have HC : Hid (c = (cs.drop n).take k) := by rw [hk]; exact hc
      clear hc hk HR c72 f72 ho ho1 hsl
      generalize hbuf : splice buf r c = buf1 at *
      have hb1 : buf1.length = 64 := by rw [← hbuf, length_splice _ _ _ (by omega), hb64]
      have c72 := hr1.at 72 _ (stCells_taken _ _ _ hb1)
      have f72 := hr1.frozen 72
      have HR : Hid (Row w1 g 70 (stCells (Sha.full (m ++ cs.take n)) buf1 T)) := hr1
      clear hr1
      go_upto_region 2 with fail
      refine wp_region_lit ?_
      refine wpList_move (.tmp 1) rfl rfl _ rfl ?_
      refine wpList_move (.tmp 4) rfl rfl _ rfl ?_
      refine wpList_cut (.tmp 19) (.tmp 20) rfl rfl b (off + n) L cap' k rfl rfl hkL ?_
      intro p1 hp1
      refine wpList_assign (.tmp 21) rfl rfl _ rfl ?_
      refine wpList_nil ?_
      have hT61 : T < 2305843009213693952 := by have := HN.out; omega
      have HP : Hid (cap' ≠ k → p1 = some ⟨b, off + n + k, none⟩) := hp1
      clear hp1
      have HM : Hid (m ++ cs.take (n + k) = (m ++ cs.take n) ++ c) := by
        show _ = _
        rw [List.take_add, HC.out, List.append_assoc]
      have hc256 : ∀ x ∈ c, x < 256 := fun x hx => by
        rw [HC.out] at hx
        exact hcs x (List.mem_of_mem_drop (List.mem_of_mem_take hx))
      have HR2 : Hid (Row (w1.setCell ⟨g, 72, none⟩ (.int .u64 ((T : Int) + (k : Int)))) g 70 (stCells (Sha.full (m ++ cs.take n)) buf1 (T + k))) := by
        have := HR.out.setCell 72 (.int .u64 ((T + k : Nat) : Int))
        rw [stCells_set _ _ _ _ hb1] at this
        exact this
      have HO2 : Hid (Only g w (w1.setCell ⟨g, 72, none⟩ (.int .u64 ((T : Int) + (k : Int))))) := HO.out.setCell 72 _
      have HW : ∀ W, StIn W g (m ++ cs.take (n + k)) → Only g w W → WrIn w W g m cs p1 (n + k) := fun W h1 h2 => ⟨h1, h2, fun hlt => ⟨b, off, by rw [HP.out (by omega), Nat.add_assoc], hbg, hby⟩⟩
      have HWW : Hid (∀ W, StIn W g (m ++ cs.take (n + k)) → Only g w W → WrIn w W g m cs p1 (n + k)) := HW
      clear HW
      by_cases hfull : r + k = 64
      · have hmod : ((T : Int) + (k : Int)) % 64 = 0 := by omega
        go_wp2
        have hr2 := HR2.out
        have ho2 := HO2.out
        clear HR2 HO2 HO HR c72 f72
        generalize w1.setCell ⟨g, 72, none⟩ (.int .u64 ((T : Int) + (k : Int))) = w2 at *
        have k0 := cell_regrown (hr2.at 0 _ (stCells_word _ _ _ 0 (by decide)))
        have k1 := cell_regrown (hr2.at 1 _ (stCells_word _ _ _ 1 (by decide)))
        have k2 := cell_regrown (hr2.at 2 _ (stCells_word _ _ _ 2 (by decide)))
        have k3 := cell_regrown (hr2.at 3 _ (stCells_word _ _ _ 3 (by decide)))
        have k4 := cell_regrown (hr2.at 4 _ (stCells_word _ _ _ 4 (by decide)))
        have k5 := cell_regrown (hr2.at 5 _ (stCells_word _ _ _ 5 (by decide)))
        have k6 := cell_regrown (hr2.at 6 _ (stCells_word _ _ _ 6 (by decide)))
        have k7 := cell_regrown (hr2.at 7 _ (stCells_word _ _ _ 7 (by decide)))
        generalize hM : Sha.full (m ++ cs.take n) = M at *
        have hby2 : BytesIn w2 g 8 buf1 := ⟨fun j hj => hr2.at _ _ (stCells_byte _ _ _ j hj), fun j => by
          by_cases hj : j < buf1.length
          · have := splice_lt buf c r hbl hc256 buf1[j] (by rw [hbuf]; exact List.getElem_mem hj)
            simpa [hj] using this
          · simp [hj]⟩
        have ht2 : TabIn w2 := ho2.tab hg ht
        have cS : ∀ d os, Calls Tryd.prog 48 #[.pointer (some ⟨g, 8, none⟩)] (grow (redrawn w2 d) os) fun e w'' => e = .returned (.agg (wcells (Sha.sched buf1 64)).toArray) ∧ ∃ p : Regrown, w'' = grow (redrawn w2 p.d) p.os := fun d os => Calls.regrown_of (sched_any g 8 buf1 _ hb1 (hby2.later (below_regrown w2 d os)))
        have cM : ∀ d os, Calls Tryd.prog 47 #[.agg (wcells M.list).toArray, .agg (wcells (Sha.sched buf1 64)).toArray] (grow (redrawn w2 d) os) fun e w'' => e = .returned (.agg (wcells (Sha.comp M buf1).list).toArray) ∧ ∃ p : Regrown, w'' = grow (redrawn w2 p.d) p.os := fun d os => Calls.regrown_of (mixed_any M buf1 _ (ht2.later (below_regrown w2 d os)))
        have CS : Hid (∀ d os, Calls Tryd.prog 48 #[.pointer (some ⟨g, 8, none⟩)] (grow (redrawn w2 d) os) fun e w'' => e = .returned (.agg (wcells (Sha.sched buf1 64)).toArray) ∧ ∃ p : Regrown, w'' = grow (redrawn w2 p.d) p.os) := cS
        have CM : Hid (∀ d os, Calls Tryd.prog 47 #[.agg (wcells M.list).toArray, .agg (wcells (Sha.sched buf1 64)).toArray] (grow (redrawn w2 d) os) fun e w'' => e = .returned (.agg (wcells (Sha.comp M buf1).list).toArray) ∧ ∃ p : Regrown, w'' = grow (redrawn w2 p.d) p.os) := cM
        have HR2 : Hid (Row w2 g 70 (stCells M buf1 (T + k))) := hr2
        clear cS cM ht2 hby2 ht hr2
        refine wp_region_head_below 12 (by kernel_rfl) (by kernel_rfl) ?_
        simp only [List.take_succ_cons, List.take_zero, List.drop_succ_cons, List.drop_zero]
        repeat (go_big_quiet_step (first | exact CS.out _ _ | exact CM.out _ _))
        refine wpQuiet_nil ?_
        intro _ hw'
        obtain ⟨⟨dq, osq⟩, hw''⟩ := hw'
        subst hw''
        have hr3 := HR2.out.later (below_regrown w2 dq osq) HR2.out.lt
        have ho3 : Only g w (grow (redrawn w2 dq) osq) := ho2.trans (Only.of_below (below_regrown w2 dq osq))
        clear k0 k1 k2 k3 k4 k5 k6 k7 CS CM HR2 ho2
        generalize grow (redrawn w2 dq) osq = w3 at *
        refine wpList_store0 agg37 (.tmp 48) (.tmp 46) rfl rfl rfl g 0 70 rfl (wcells (Sha.comp M buf1).list) _ rfl (len8 _) hr3 (by rw [len8, stCells_length]; omega) (wcells_one _) ?_
        refine wpList_nil ?_
        rw [stCells_words]
        have hr4 := hr3.setRow (stCells (Sha.comp M buf1) buf1 (T + k))
        have ho4 := ho3.setRow (stCells (Sha.comp M buf1) buf1 (T + k)).toArray
        clear hr3 ho3
        generalize w3.setRow g (stCells (Sha.comp M buf1) buf1 (T + k)).toArray = w4 at *
        have hst : StIn w4 g (m ++ cs.take (n + k)) := by
          rw [HM.out]
          rw [← hbuf, ← hM] at hr4
          exact StIn.fill' HT.out HX.out hcl hr4 hb64 hbl hc256 (by rw [HX.out]; exact hbt) hfull
        go_wp2
        refine ⟨⟨n + k, cap' - k, p1, by omega, ?_, by omega, HWW.out _ hst ho4⟩, by simp [sliceLen]; omega⟩
        rw [show cs.length - (n + k) = L - k by omega]
      · have hmod : ((T : Int) + (k : Int)) % 64 = ((r + k : Nat) : Int) := by omega
        have hne : ¬ ((r + k : Nat) : Int) = 0 := by omega
        go_wp2
        have hst : StIn (w1.setCell ⟨g, 72, none⟩ (.int .u64 ((T : Int) + (k : Int)))) g (m ++ cs.take (n + k)) := by
          rw [HM.out]
          have hr2 := HR2.out
          rw [← hbuf] at hr2
          exact StIn.part' HT.out HX.out hcl hr2 hb64 hbl hc256 (by rw [HX.out]; exact hbt) (by omega)
        refine ⟨⟨n + k, cap' - k, p1, by omega, ?_, by omega, HWW.out _ hst HO2.out⟩, by simp [sliceLen]; omega⟩
        rw [show cs.length - (n + k) = L - k by omega]
    · have e : n = cs.length := by omega
      obtain ⟨hst, ho, _⟩ := hw
      rw [e, List.take_of_length_le (Nat.le_refl _)] at hst
      have hL : cs.length - n = 0 := by omega
      rw [hL]
      go_wp2
      go_end0
      exact ⟨rfl, hst, ho⟩
end Go.Proofs.YtjdmpanemdhbbaaDoor

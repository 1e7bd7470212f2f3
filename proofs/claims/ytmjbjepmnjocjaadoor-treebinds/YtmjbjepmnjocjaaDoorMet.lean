/- The walk of the statements' met. -/
import Derived.Test.YtmjbjepmnjocjaaDoorSame
namespace Go.Proofs.YtmjbjepmnjocjaaDoor
open Go.RowKit

/-- bytes behind bytes of the call's own -/
theorem run_bappend {w : World} (base : Nat) (ty : TypeId) (v vx : Value) (cs ys : List Nat) (hown : BOwn w base v cs) (hin : SliceIn w vx ys) (hsz : cs.length + ys.length ≤ 140737488355328) (hbase : base ≤ w.heap.size) :
    ∃ v' w', (Builtin.append_ #[22, 22] ty #[v, vx]).run Tryd.prog w = .ok v' w' ∧ BOwn w' base v' (cs ++ ys) ∧ w.grownBy w' v.ownBlock := by
  obtain ⟨i, hi, hz0, hz1, hz2⟩ := info_parts info5'
  obtain ⟨p, cap, rfl, hl, hin⟩ := hin
  have hgo : ∀ ad : Addr, (∀ j u, (bcells ys)[j]? = some u → w.cell? (ad.add j) = some u) → p = some ad → ∃ v' w', (Builtin.append_ #[22, 22] ty #[v, .slice p ys.length cap]).run Tryd.prog w = .ok v' w' ∧ BOwn w' base v' (cs ++ ys) ∧ w.grownBy w' v.ownBlock := by
    rintro ad hnews rfl
    obtain ⟨v', w', hr, ho', hg, _⟩ := run_append_own (P := Tryd.prog) (w := w) base 22 ty 5 i (.int .u8 0) 1 1 Tryd.underlying22 hi hz0 hz1 hz2 rfl (by decide) v cs.length (bcells cs) hown
      ad ys.length cap (bcells ys) (by simp [bcells_length]) hnews (bcells_one ys) (by unfold maxLen; omega) (by omega) hbase
    refine ⟨v', w', hr, ?_, hg⟩
    unfold BOwn
    rw [bcells_append, List.length_append]
    exact ho'
  rcases hin with rfl | ⟨b, off, rfl, hc, _⟩
  · cases p with
    | none =>
      have hrun : (Builtin.append_ #[22, 22] ty #[v, .slice none ([] : List Nat).length cap]).run Tryd.prog w = .ok v w := by
        rcases hown.2 with ⟨rfl, h0⟩ | ⟨g, cap', cur, rfl, _, hg, hcap, hmax, hsz, htake⟩
        · simp [Builtin.append_, run_underlying Tryd.underlying22, sizeOf, typeInfo, hi, Builtin.lenOf, Builtin.firstCells]
        · simp [Builtin.append_, run_underlying Tryd.underlying22, sizeOf, typeInfo, hi, Builtin.lenOf, Builtin.firstCells, hcap, storeCells]
      exact ⟨v, w, hrun, by rw [List.append_nil]; exact hown, World.grownBy.refl w _⟩
    | some ad => exact hgo ad (by intro j u hu; simp [bcells] at hu) rfl
  · refine hgo ⟨b, off, none⟩ (fun j u hu => ?_) rfl
    have hj : j < ys.length := by
      have := (List.getElem?_eq_some_iff.1 hu).1
      rwa [bcells_length] at this
    rw [add_none, hc j hj, ← hu, bcells_at ys j hj]
theorem BOwn.belowB {w w' : World} {base : Nat} {v : Value} {cs : List Nat} (h : BOwn w base v cs) (hg : w.grownBy w' v.ownBlock) (hb : base ≤ w.heap.size) : Below base w w' :=
  (Below.refl base w).grown hg hb fun k hk => (World.ownsRow.lt h k hk).1
section
variable {w : World} {o : Oper} {a : Act}
theorem rx_bappend (sv x : Operand) (ho : o.op = .call { callee := .builtin .append, args := #[sv, x], argTypes := #[22, 22] }) (v vx v' : Value) (w' : World) (hs : a.eval sv = v) (hx : a.eval x = vx) (hr : (Builtin.append_ #[22, 22] o.type #[v, vx]).run Tryd.prog w = .ok v' w') : (execOp a.eval o).run Tryd.prog w = .ok (.value v') w' := by
  simp only [execOp, ho, resolve, invoke, builtin, Sem.run_bind, Sem.run_pure, Result.andThen_ok, List.map_toArray, List.map_cons, List.map_nil, hs, hx, hr]
theorem rx_blit1 (y : Nat) (ho : o.op = .buildSlice 22 1 #[(0, .const (.int .u8 (y : Nat)))]) : (execOp a.eval o).run Tryd.prog w = .ok (.value (.slice (some ⟨w.heap.size, 0, none⟩) 1 1)) (w.alloc (.cells (bcells [y]).toArray 5)) := by
  simp only [execOp, ho, List.map_toArray, List.map_cons, List.map_nil, Act.eval, run_blit1, Sem.run_bind, Sem.run_pure, Result.andThen_ok]
end
/-- the four roots -/
structure MetIn (w W : World) (g6 g7 g8 g9 : Nat) (la ra lb rb : List Nat) : Prop where
  g6 : HIs W g6 la
  g7 : HIs W g7 ra
  g8 : HIs W g8 lb
  g9 : HIs W g9 rb
  bl : Below w.heap.size w W
theorem MetIn.next {w W W' : World} {g6 g7 g8 g9 : Nat} {la ra lb rb : List Nat} (h : MetIn w W g6 g7 g8 g9 la ra lb rb) (hb : Below W.heap.size W W') : MetIn w W' g6 g7 g8 g9 la ra lb rb :=
  ⟨h.g6.next hb, h.g7.next hb, h.g8.next hb, h.g9.next hb, below_append h.bl hb⟩
set_option maxHeartbeats 4000000 in
set_option maxRecDepth 100000 in
theorem met_any : ∀ (n : Nat) (va vb : Value) (xs ys : List (List Nat)) (w : World), xs.length = n → ys.length = n → n ≤ 1099511627776 → HIn w va xs → HIn w vb ys → TabIn w → StartIn w → xs ≠ ys → Tree.root xs = Tree.root ys →
    Calls Tryd.prog 25 #[va, vb] w fun e w' => e = .returned (.bool true) ∧ Below w.heap.size w w' := by
  intro n
  induction n using Nat.strongRecOn with
  | _ n ih =>
  intro va vb xs ys w hx hy hmax ha hb ht hst hne hroot
  have h2 : 2 ≤ n := by
    rcases Nat.lt_or_ge n 2 with h | h
    · exact absurd (Tree.root_len1 xs ys (by omega) (by omega) hroot) hne
    · exact h
  have h2' : ¬ (n : Int) < 2 := by omega
  have HX : Hid (xs.length = n) := hx
  have HT : Hid (∀ k, Tree.half n = k → Tree.node (Tree.root (xs.take k)) (Tree.root (xs.drop k)) = Tree.node (Tree.root (ys.take k)) (Tree.root (ys.drop k))) := by
    rintro k rfl
    have h1 := Tree.root_two xs (by omega)
    have h2 := Tree.root_two ys (by omega)
    rw [hx] at h1
    rw [hy] at h2
    rw [← h1, ← h2]
    exact hroot
  have HNE : Hid (xs ≠ ys) := hne
  have HLk : Hid (∀ k, k < n → (xs.take k).length = k ∧ (xs.drop k).length = n - k ∧ (ys.take k).length = k ∧ (ys.drop k).length = n - k) := fun k hk => by
    refine ⟨?_, ?_, ?_, ?_⟩
    · rw [List.length_take]; omega
    · rw [List.length_drop]; omega
    · rw [List.length_take]; omega
    · rw [List.length_drop]; omega
  have HSub : Hid (∀ k, k < n → (∃ v1, (∀ w', (Instr.slice 24 va none (some (.int .i64 (k : Nat))) none).run Tryd.prog w' = .ok v1 w') ∧ HIn w v1 (xs.take k)) ∧ (∃ v1, (∀ w', (Instr.slice 24 va (some (.int .i64 (k : Nat))) none none).run Tryd.prog w' = .ok v1 w') ∧ HIn w v1 (xs.drop k)) ∧ (∃ v1, (∀ w', (Instr.slice 24 vb none (some (.int .i64 (k : Nat))) none).run Tryd.prog w' = .ok v1 w') ∧ HIn w v1 (ys.take k)) ∧ (∃ v1, (∀ w', (Instr.slice 24 vb (some (.int .i64 (k : Nat))) none none).run Tryd.prog w' = .ok v1 w') ∧ HIn w v1 (ys.drop k))) :=
    fun k hk => ⟨run_hto ha k (by omega), run_hfrom ha k (by omega), run_hto hb k (by omega), run_hfrom hb k (by omega)⟩
  have IH : Hid (∀ m, m < n → ∀ (va vb : Value) (xs ys : List (List Nat)) (w : World), xs.length = m → ys.length = m → m ≤ 1099511627776 → HIn w va xs → HIn w vb ys → TabIn w → StartIn w → xs ≠ ys → Tree.root xs = Tree.root ys → Calls Tryd.prog 25 #[va, vb] w fun e w' => e = .returned (.bool true) ∧ Below w.heap.size w w') := ih
  clear hx hy hne hroot ih hb
  go_enter Tryd.func25, Tryd.ntmps25
  go_wp2_with (first
    | (refine wl_lenN (.tmp 13) rfl rfl va xs rfl ha n HX.out ?_))
  go_loop [5] (fun k => ∃ p : Nat, k = .int .i64 (p : Nat) ∧ IsPow p ∧ p < n) (fun k => n - (intOf k).toNat)
  case atStart => exact ⟨1, rfl, IsPow.one, by omega⟩
  case round =>
    obtain ⟨k, rfl, hp, hlt⟩ := hrel
    have HP : Hid (IsPow k) := hp
    have hpos := hp.pos
    clear hp
    by_cases hgo : 2 * k < n
    · have hgo' : 2 * (k : Int) < (n : Int) := by omega
      go_wp2_with (first
        | (refine wl_lenN (.tmp 18) rfl rfl va xs rfl ha n HX.out ?_))
      exact ⟨⟨2 * k, by go_num, HP.out.twice, by omega⟩, by simp [intOf]; omega⟩
    · have hgo' : ¬ 2 * (k : Int) < (n : Int) := by omega
      have HK : Hid (Tree.half n = k) := HP.out.half hlt (by omega)
      obtain ⟨⟨v1, r1, i1⟩, ⟨v2, r2, i2⟩, ⟨v3, r3, i3⟩, ⟨v4, r4, i4⟩⟩ := HSub.out k hlt
      obtain ⟨l1, l2, l3, l4⟩ := HLk.out k hlt
      have E1 : Hid (∀ w', (Instr.slice 24 va none (some (.int .i64 (k : Nat))) none).run Tryd.prog w' = .ok v1 w') := r1
      have E2 : Hid (∀ w', (Instr.slice 24 va (some (.int .i64 (k : Nat))) none none).run Tryd.prog w' = .ok v2 w') := r2
      have E3 : Hid (∀ w', (Instr.slice 24 vb none (some (.int .i64 (k : Nat))) none).run Tryd.prog w' = .ok v3 w') := r3
      have E4 : Hid (∀ w', (Instr.slice 24 vb (some (.int .i64 (k : Nat))) none none).run Tryd.prog w' = .ok v4 w') := r4
      have I1 : Hid (HIn w v1 (xs.take k) ∧ (xs.take k).length = k) := ⟨i1, l1⟩
      have I2 : Hid (HIn w v2 (xs.drop k) ∧ (xs.drop k).length = n - k) := ⟨i2, l2⟩
      have I3 : Hid (HIn w v3 (ys.take k) ∧ (ys.take k).length = k) := ⟨i3, l3⟩
      have I4 : Hid (HIn w v4 (ys.drop k) ∧ (ys.drop k).length = n - k) := ⟨i4, l4⟩
      have HND : Hid (Tree.node (Tree.root (xs.take k)) (Tree.root (xs.drop k)) = Tree.node (Tree.root (ys.take k)) (Tree.root (ys.drop k))) := HT.out k HK.out
      have HDJ : Hid (xs.take k = ys.take k → xs.drop k ≠ ys.drop k) := fun e e' => HNE.out (by rw [← List.take_append_drop k xs, ← List.take_append_drop k ys, e, e'])
      clear r1 r2 r3 r4 i1 i2 i3 i4 l1 l2 l3 l4 HP HSub HLk HT HNE
      go_wp2_with (first
        | (refine wl_lenN (.tmp 18) rfl rfl va xs rfl ha n HX.out ?_)
        | (refine wl rfl v1 _ (rx_sub (.tmp 23) none (some (.tmp 24)) rfl va v1 rfl E1.out) ?_))
      refine (root_any _ v1 (xs.take k) w I1.out.2 (by omega) I1.out.1 ht hst).mono ?_
      rintro e w1 ⟨rfl, b1⟩
      have B1 : Hid (Below w.heap.size w w1 ∧ IsH (Tree.root (xs.take k))) := ⟨b1, I1.out.1.all.root⟩
      clear b1
      obtain ⟨la, hla⟩ : ∃ la, la = Tree.root (xs.take k) := ⟨_, rfl⟩
      rw [← hla] at B1 HND ⊢
      have HLA : Hid (la = Tree.root (xs.take k)) := hla
      clear hla
      go_wp2_with (first
        | (refine wl_new rfl rfl rfl rfl rfl (.tmp 26) rfl la B1.out.2 (fun _ => rfl) (fun _ => rfl) ?_; intro w2 r2 s2 b2; have R2 : Hid (HIs w2 w1.heap.size la ∧ Below w.heap.size w w2) := ⟨r2, below_append B1.out.1 b2⟩; clear r2 s2 b2)
        | (refine wl rfl v2 _ (rx_sub (.tmp 27) (some (.tmp 28)) none rfl va v2 rfl E2.out) ?_))
      generalize w1.heap.size = g6 at R2 ⊢
      refine (root_any _ v2 (xs.drop k) w2 I2.out.2 (by omega) (I2.out.1.later R2.out.2) (ht.later R2.out.2) (hst.later R2.out.2)).mono ?_
      rintro e w3 ⟨rfl, b3⟩
      have R3 : Hid (HIs w3 g6 la ∧ Below w.heap.size w w3 ∧ IsH (Tree.root (xs.drop k))) := ⟨R2.out.1.next b3, below_append R2.out.2 b3, I2.out.1.all.root⟩
      clear b3 R2 B1
      obtain ⟨ra, hra⟩ : ∃ ra, ra = Tree.root (xs.drop k) := ⟨_, rfl⟩
      rw [← hra] at R3 HND ⊢
      have HRA : Hid (ra = Tree.root (xs.drop k)) := hra
      clear hra
      go_wp2_with (first
        | (refine wl_new rfl rfl rfl rfl rfl (.tmp 30) rfl ra R3.out.2.2 (fun _ => rfl) (fun _ => rfl) ?_; intro w4 r4 s4 b4; have R4 : Hid (HIs w4 g6 la ∧ HIs w4 w3.heap.size ra ∧ Below w.heap.size w w4) := ⟨R3.out.1.next b4, r4, below_append R3.out.2.1 b4⟩; clear r4 s4 b4)
        | (refine wl rfl v3 _ (rx_sub (.tmp 31) none (some (.tmp 32)) rfl vb v3 rfl E3.out) ?_))
      generalize w3.heap.size = g7 at R4 ⊢
      refine (root_any _ v3 (ys.take k) w4 I3.out.2 (by omega) (I3.out.1.later R4.out.2.2) (ht.later R4.out.2.2) (hst.later R4.out.2.2)).mono ?_
      rintro e w5 ⟨rfl, b5⟩
      have R5 : Hid (HIs w5 g6 la ∧ HIs w5 g7 ra ∧ Below w.heap.size w w5 ∧ IsH (Tree.root (ys.take k))) := ⟨R4.out.1.next b5, R4.out.2.1.next b5, below_append R4.out.2.2 b5, I3.out.1.all.root⟩
      clear b5 R4 R3
      obtain ⟨lb, hlb⟩ : ∃ lb, lb = Tree.root (ys.take k) := ⟨_, rfl⟩
      rw [← hlb] at R5 HND ⊢
      have HLB : Hid (lb = Tree.root (ys.take k)) := hlb
      clear hlb
      go_wp2_with (first
        | (refine wl_new rfl rfl rfl rfl rfl (.tmp 34) rfl lb R5.out.2.2.2 (fun _ => rfl) (fun _ => rfl) ?_; intro w6 r6 s6 b6; have R6 : Hid (HIs w6 g6 la ∧ HIs w6 g7 ra ∧ HIs w6 w5.heap.size lb ∧ Below w.heap.size w w6) := ⟨R5.out.1.next b6, R5.out.2.1.next b6, r6, below_append R5.out.2.2.1 b6⟩; clear r6 s6 b6)
        | (refine wl rfl v4 _ (rx_sub (.tmp 35) (some (.tmp 36)) none rfl vb v4 rfl E4.out) ?_))
      generalize w5.heap.size = g8 at R6 ⊢
      refine (root_any _ v4 (ys.drop k) w6 I4.out.2 (by omega) (I4.out.1.later R6.out.2.2.2) (ht.later R6.out.2.2.2) (hst.later R6.out.2.2.2)).mono ?_
      rintro e w7 ⟨rfl, b7⟩
      have R7 : Hid (HIs w7 g6 la ∧ HIs w7 g7 ra ∧ HIs w7 g8 lb ∧ Below w.heap.size w w7 ∧ IsH (Tree.root (ys.drop k))) := ⟨R6.out.1.next b7, R6.out.2.1.next b7, R6.out.2.2.1.next b7, below_append R6.out.2.2.2 b7, I4.out.1.all.root⟩
      clear b7 R6 R5
      obtain ⟨rb, hrb⟩ : ∃ rb, rb = Tree.root (ys.drop k) := ⟨_, rfl⟩
      rw [← hrb] at R7 HND ⊢
      have HRB : Hid (rb = Tree.root (ys.drop k)) := hrb
      clear hrb
      go_upto_region 10 with (first
        | (refine wl_new rfl rfl rfl rfl rfl (.tmp 38) rfl rb R7.out.2.2.2.2 (fun _ => rfl) (fun _ => rfl) ?_; intro w8 r8 s8 b8; have Rw8 : Hid (MetIn w w8 g6 g7 g8 w7.heap.size la ra lb rb) := ⟨R7.out.1.next b8, R7.out.2.1.next b8, R7.out.2.2.1.next b8, r8, below_append R7.out.2.2.2.1 b8⟩; clear r8 s8 b8))
      generalize w7.heap.size = g9 at Rw8 ⊢
      clear R7
      have HPP : Hid (∀ (q : Prop), (la = lb → ra = rb → q) → (¬ (la = lb ∧ ra = rb) → q) → q) := fun q h1 h2 => by
        by_cases h : la = lb ∧ ra = rb
        · exact h1 h.1 h.2
        · exact h2 h
      by_cases heq : la = lb ∧ ra = rb
      · have D1 : Hid (decide (la = lb) = true ∧ decide (ra = rb) = true) := ⟨decide_eq_true heq.1, decide_eq_true heq.2⟩
        have HEQ : Hid (la = lb ∧ ra = rb) := heq
        clear heq HPP
        go_wp2_with (first
          | (refine wl_load (.tmp 6) rfl rfl _ rfl la Rw8.out.g6.at ?_)
          | (refine wl_load (.tmp 8) rfl rfl _ rfl lb Rw8.out.g8.at ?_)
          | (refine wl_ne (.tmp 39) (.tmp 40) rfl rfl la lb Rw8.out.g6.1 Rw8.out.g8.1 rfl rfl ?_; rw [D1.out.1])
          | (refine wl_load (.tmp 7) rfl rfl _ rfl ra Rw8.out.g7.at ?_)
          | (refine wl_load (.tmp 9) rfl rfl _ rfl rb Rw8.out.g9.at ?_)
          | (refine wl_ne (.tmp 43) (.tmp 44) rfl rfl ra rb Rw8.out.g7.1 Rw8.out.g9.1 rfl rfl ?_; rw [D1.out.2]))
        have Rm : Hid (Below w.heap.size w w8) := Rw8.out.bl
        clear Rw8
        refine wp_region_held (S := Below w.heap.size w) (by kernel_rfl) ?_
        show wpAnyH _ _ _ _ _ 8 (Array.replicate 8 false) _ _
        have hS : Below w.heap.size w { w8 with drawn := w8.drawn + 1 } := below_append Rm.out (below_drawn w8 _)
        refine takeH (i := 0) (some 62) rfl rfl (by kernel_rfl) (by kernel_rfl) (by kernel_rfl) (fun _ _ _ h => h) (yMove rfl (.tmp 0) rfl (va) rfl) hS ?_
        simp only [Act.put, List.setIfInBounds_toArray, List.set_cons_succ, List.set_cons_zero]
        refine takeH (i := 1) (some 63) rfl rfl (by kernel_rfl) (by kernel_rfl) (by kernel_rfl) (fun _ _ _ h => h) (yMove rfl (.tmp 5) rfl (.int .i64 (k : Nat)) rfl) hS ?_
        simp only [Act.put, List.setIfInBounds_toArray, List.set_cons_succ, List.set_cons_zero]
        refine takeH (i := 2) (some 64) rfl rfl (by kernel_rfl) (by kernel_rfl) (by kernel_rfl) (fun _ _ _ h => h) (ySub rfl (.tmp 62) none (some (.tmp 63)) rfl va v1 rfl E1.out) hS ?_
        simp only [Act.put, List.setIfInBounds_toArray, List.set_cons_succ, List.set_cons_zero]
        refine takeH (i := 3) (some 65) rfl rfl (by kernel_rfl) (by kernel_rfl) (by kernel_rfl) (fun _ _ _ h => h) (yMove rfl (.tmp 1) rfl (vb) rfl) hS ?_
        simp only [Act.put, List.setIfInBounds_toArray, List.set_cons_succ, List.set_cons_zero]
        refine takeH (i := 4) (some 66) rfl rfl (by kernel_rfl) (by kernel_rfl) (by kernel_rfl) (fun _ _ _ h => h) (yMove rfl (.tmp 5) rfl (.int .i64 (k : Nat)) rfl) hS ?_
        simp only [Act.put, List.setIfInBounds_toArray, List.set_cons_succ, List.set_cons_zero]
        refine takeH (i := 5) (some 67) rfl rfl (by kernel_rfl) (by kernel_rfl) (by kernel_rfl) (fun _ _ _ h => h) (ySub rfl (.tmp 65) none (some (.tmp 66)) rfl vb v3 rfl E3.out) hS ?_
        simp only [Act.put, List.setIfInBounds_toArray, List.set_cons_succ, List.set_cons_zero]
        refine oneH (i := 6) (by kernel_rfl) ?_
        refine opCallA (some 68) rfl rfl rfl 20 _ (run_call en20 [.tmp 64, .tmp 67] _ rfl [v1, v3] rfl) ?_
        refine (same_any v1 v3 (xs.take k) (ys.take k) _ (I1.out.1.later hS) (I3.out.1.later hS)).mono ?_
        rintro e w9 ⟨rfl, b9⟩
        have Rn : Hid (Below w.heap.size w w9) := below_append hS b9
        refine ⟨_, rfl, Rn.out, ?_⟩
        clear hS b9 Rm
        obtain ⟨bb, hbb⟩ : ∃ bb, bb = decide (xs.take k = ys.take k) := ⟨_, rfl⟩
        rw [← hbb]
        have HBB : Hid (bb = decide (xs.take k = ys.take k)) := hbb
        clear hbb
        simp only [Act.put, List.setIfInBounds_toArray, List.set_cons_succ, List.set_cons_zero]
        refine takeH (i := 7) (some 12) rfl rfl (by kernel_rfl) (by kernel_rfl) (by kernel_rfl) (fun _ _ _ h => h) (yAssign rfl (.tmp 68) rfl (.bool bb) rfl) Rn.out ?_
        simp only [Act.put, List.setIfInBounds_toArray, List.set_cons_succ, List.set_cons_zero]
        refine wpAnyH_done (by kernel_rfl) ?_ _
        cases bb with
        | false =>
          have HN1 : Hid (xs.take k ≠ ys.take k) := of_decide_eq_false HBB.out.symm
          have HR1 : Hid (Tree.root (xs.take k) = Tree.root (ys.take k)) := by show _ = _; rw [← HLA.out, ← HLB.out]; exact HEQ.out.1
          clear HBB
          go_wp2_with fail
          refine wp_region_held (S := Below w.heap.size w) (by kernel_rfl) ?_
          show wpAnyH _ _ _ _ _ 8 (Array.replicate 8 false) _ _
          have hS : Below w.heap.size w { w9 with drawn := w9.drawn + 1 } := below_append Rn.out (below_drawn w9 _)
          refine takeH (i := 0) (some 71) rfl rfl (by kernel_rfl) (by kernel_rfl) (by kernel_rfl) (fun _ _ _ h => h) (yMove rfl (.tmp 0) rfl (va) rfl) hS ?_
          simp only [Act.put, List.setIfInBounds_toArray, List.set_cons_succ, List.set_cons_zero]
          refine takeH (i := 1) (some 72) rfl rfl (by kernel_rfl) (by kernel_rfl) (by kernel_rfl) (fun _ _ _ h => h) (yMove rfl (.tmp 5) rfl (.int .i64 (k : Nat)) rfl) hS ?_
          simp only [Act.put, List.setIfInBounds_toArray, List.set_cons_succ, List.set_cons_zero]
          refine takeH (i := 2) (some 73) rfl rfl (by kernel_rfl) (by kernel_rfl) (by kernel_rfl) (fun _ _ _ h => h) (ySub rfl (.tmp 71) none (some (.tmp 72)) rfl va v1 rfl E1.out) hS ?_
          simp only [Act.put, List.setIfInBounds_toArray, List.set_cons_succ, List.set_cons_zero]
          refine takeH (i := 3) (some 74) rfl rfl (by kernel_rfl) (by kernel_rfl) (by kernel_rfl) (fun _ _ _ h => h) (yMove rfl (.tmp 1) rfl (vb) rfl) hS ?_
          simp only [Act.put, List.setIfInBounds_toArray, List.set_cons_succ, List.set_cons_zero]
          refine takeH (i := 4) (some 75) rfl rfl (by kernel_rfl) (by kernel_rfl) (by kernel_rfl) (fun _ _ _ h => h) (yMove rfl (.tmp 5) rfl (.int .i64 (k : Nat)) rfl) hS ?_
          simp only [Act.put, List.setIfInBounds_toArray, List.set_cons_succ, List.set_cons_zero]
          refine takeH (i := 5) (some 76) rfl rfl (by kernel_rfl) (by kernel_rfl) (by kernel_rfl) (fun _ _ _ h => h) (ySub rfl (.tmp 74) none (some (.tmp 75)) rfl vb v3 rfl E3.out) hS ?_
          simp only [Act.put, List.setIfInBounds_toArray, List.set_cons_succ, List.set_cons_zero]
          refine oneH (i := 6) (by kernel_rfl) ?_
          refine opCallA (some 77) rfl rfl rfl 25 _ (run_call en25 [.tmp 73, .tmp 76] _ rfl [v1, v3] rfl) ?_
          refine (IH.out k (by omega) v1 v3 (xs.take k) (ys.take k) _ I1.out.2 I3.out.2 (by omega) (I1.out.1.later hS) (I3.out.1.later hS) (ht.later hS) (hst.later hS) HN1.out HR1.out).mono ?_
          rintro e w10 ⟨rfl, b10⟩
          have Rp : Hid (Below w.heap.size w w10) := below_append hS b10
          refine ⟨_, rfl, Rp.out, ?_⟩
          clear hS b10 Rn
          simp only [Act.put, List.setIfInBounds_toArray, List.set_cons_succ, List.set_cons_zero]
          refine takeH (i := 7) (some 4) rfl rfl (by kernel_rfl) (by kernel_rfl) (by kernel_rfl) (fun _ _ _ h => h) (yAssign rfl (.tmp 77) rfl (.bool true) rfl) Rp.out ?_
          simp only [Act.put, List.setIfInBounds_toArray, List.set_cons_succ, List.set_cons_zero]
          refine wpAnyH_done (by kernel_rfl) ?_ _
          go_wp2_with fail
          go_ret
          exact ⟨rfl, Rp.out⟩
        | true =>
          have HN1 : Hid (xs.drop k ≠ ys.drop k) := HDJ.out (of_decide_eq_true HBB.out.symm)
          have HR1 : Hid (Tree.root (xs.drop k) = Tree.root (ys.drop k)) := by show _ = _; rw [← HRA.out, ← HRB.out]; exact HEQ.out.2
          clear HBB
          go_wp2_with fail
          refine wp_region_held (S := Below w.heap.size w) (by kernel_rfl) ?_
          show wpAnyH _ _ _ _ _ 8 (Array.replicate 8 false) _ _
          have hS : Below w.heap.size w { w9 with drawn := w9.drawn + 1 } := below_append Rn.out (below_drawn w9 _)
          refine takeH (i := 0) (some 78) rfl rfl (by kernel_rfl) (by kernel_rfl) (by kernel_rfl) (fun _ _ _ h => h) (yMove rfl (.tmp 0) rfl (va) rfl) hS ?_
          simp only [Act.put, List.setIfInBounds_toArray, List.set_cons_succ, List.set_cons_zero]
          refine takeH (i := 1) (some 79) rfl rfl (by kernel_rfl) (by kernel_rfl) (by kernel_rfl) (fun _ _ _ h => h) (yMove rfl (.tmp 5) rfl (.int .i64 (k : Nat)) rfl) hS ?_
          simp only [Act.put, List.setIfInBounds_toArray, List.set_cons_succ, List.set_cons_zero]
          refine takeH (i := 2) (some 80) rfl rfl (by kernel_rfl) (by kernel_rfl) (by kernel_rfl) (fun _ _ _ h => h) (ySub rfl (.tmp 78) (some (.tmp 79)) none rfl va v2 rfl E2.out) hS ?_
          simp only [Act.put, List.setIfInBounds_toArray, List.set_cons_succ, List.set_cons_zero]
          refine takeH (i := 3) (some 81) rfl rfl (by kernel_rfl) (by kernel_rfl) (by kernel_rfl) (fun _ _ _ h => h) (yMove rfl (.tmp 1) rfl (vb) rfl) hS ?_
          simp only [Act.put, List.setIfInBounds_toArray, List.set_cons_succ, List.set_cons_zero]
          refine takeH (i := 4) (some 82) rfl rfl (by kernel_rfl) (by kernel_rfl) (by kernel_rfl) (fun _ _ _ h => h) (yMove rfl (.tmp 5) rfl (.int .i64 (k : Nat)) rfl) hS ?_
          simp only [Act.put, List.setIfInBounds_toArray, List.set_cons_succ, List.set_cons_zero]
          refine takeH (i := 5) (some 83) rfl rfl (by kernel_rfl) (by kernel_rfl) (by kernel_rfl) (fun _ _ _ h => h) (ySub rfl (.tmp 81) (some (.tmp 82)) none rfl vb v4 rfl E4.out) hS ?_
          simp only [Act.put, List.setIfInBounds_toArray, List.set_cons_succ, List.set_cons_zero]
          refine oneH (i := 6) (by kernel_rfl) ?_
          refine opCallA (some 84) rfl rfl rfl 25 _ (run_call en25 [.tmp 80, .tmp 83] _ rfl [v2, v4] rfl) ?_
          refine (IH.out (n - k) (by omega) v2 v4 (xs.drop k) (ys.drop k) _ I2.out.2 I4.out.2 (by omega) (I2.out.1.later hS) (I4.out.1.later hS) (ht.later hS) (hst.later hS) HN1.out HR1.out).mono ?_
          rintro e w10 ⟨rfl, b10⟩
          have Rp : Hid (Below w.heap.size w w10) := below_append hS b10
          refine ⟨_, rfl, Rp.out, ?_⟩
          clear hS b10 Rn
          simp only [Act.put, List.setIfInBounds_toArray, List.set_cons_succ, List.set_cons_zero]
          refine takeH (i := 7) (some 4) rfl rfl (by kernel_rfl) (by kernel_rfl) (by kernel_rfl) (fun _ _ _ h => h) (yAssign rfl (.tmp 84) rfl (.bool true) rfl) Rp.out ?_
          simp only [Act.put, List.setIfInBounds_toArray, List.set_cons_succ, List.set_cons_zero]
          refine wpAnyH_done (by kernel_rfl) ?_ _
          go_wp2_with fail
          go_ret
          exact ⟨rfl, Rp.out⟩
      · have HNEQ : Hid (¬ (la = lb ∧ ra = rb)) := heq
        have HTG : Hid (decide (la = lb) = false ∨ (decide (la = lb) = true ∧ decide (ra = rb) = false)) := by
          by_cases h : la = lb
          · exact Or.inr ⟨decide_eq_true h, decide_eq_false fun e => heq ⟨h, e⟩⟩
          · exact Or.inl (decide_eq_false h)
        clear heq HPP
        rcases HTG.out with hd | hd
        · have D1 : Hid (decide (la = lb) = false) := hd
          clear hd HTG
          go_wp2_with (first
            | (refine wl_load (.tmp 6) rfl rfl _ rfl la Rw8.out.g6.at ?_)
            | (refine wl_load (.tmp 8) rfl rfl _ rfl lb Rw8.out.g8.at ?_)
            | (refine wl_ne (.tmp 39) (.tmp 40) rfl rfl la lb Rw8.out.g6.1 Rw8.out.g8.1 rfl rfl ?_; rw [D1.out]))
          refine wp_region_held (S := fun _ => True) (by kernel_rfl) ?_
          show wpAnyH _ _ _ _ _ 6 (Array.replicate 6 false) _ _
          refine takeH (i := 1) (some 48) rfl rfl (by kernel_rfl) (by kernel_rfl) (by kernel_rfl) (fun _ _ _ h => h) (yRun rfl _ (fun _ _ => rx_bytes (.tmp 6) rfl g6 rfl)) trivial ?_
          simp only [Act.put, List.setIfInBounds_toArray, List.set_cons_succ, List.set_cons_zero]
          refine takeH (i := 3) (some 50) rfl rfl (by kernel_rfl) (by kernel_rfl) (by kernel_rfl) (fun _ _ _ h => h) (yRun rfl _ (fun _ _ => rx_bytes (.tmp 7) rfl g7 rfl)) trivial ?_
          simp only [Act.put, List.setIfInBounds_toArray, List.set_cons_succ, List.set_cons_zero]
          have D1 : MetIn w { w8 with drawn := w8.drawn + 1 } g6 g7 g8 g9 la ra lb rb := Rw8.out.next (below_drawn w8 _)
          generalize hwd : { w8 with drawn := w8.drawn + 1 } = wd at D1 ⊢
          have bdd : Below w8.heap.size w8 wd := hwd ▸ below_drawn w8 _
          clear hwd
          refine oneH (i := 0) (by kernel_rfl) ?_
          refine opVal (some 47) rfl rfl rfl (.slice (some ⟨wd.heap.size, 0, none⟩) 1 1) (wd.alloc (.cells (bcells [1]).toArray 5)) (rx_blit1 1 rfl) ?_
          refine ⟨trivial, ?_⟩
          have o1 := blit_own wd wd.heap.size (Nat.le_refl _) [1] (by simp)
          have b1 := below_alloc wd (.cells (bcells [1]).toArray 5)
          generalize wd.alloc (.cells (bcells [1]).toArray 5) = x1 at o1 b1 ⊢
          simp only [Act.put, List.setIfInBounds_toArray, List.set_cons_succ, List.set_cons_zero]
          refine oneH (i := 2) (by kernel_rfl) ?_
          obtain ⟨v2, x2, hr2, o2, g2'⟩ := run_bappend wd.heap.size 22 _ _ [1] la o1 (his_bytes (D1.next b1).g6) (by have := (D1.next b1).g6.1.1; simp only [List.length_cons, List.length_nil]; omega) b1.size
          refine opVal (some 49) rfl rfl rfl v2 x2 (rx_bappend (.tmp 47) (.tmp 48) rfl _ _ v2 x2 rfl rfl hr2) ?_
          refine ⟨trivial, ?_⟩
          have b2 : Below wd.heap.size wd x2 := b1.trans (o1.belowB g2' b1.size)
          clear g2' hr2 o1 b1
          simp only [Act.put, List.setIfInBounds_toArray, List.set_cons_succ, List.set_cons_zero]
          refine oneH (i := 4) (by kernel_rfl) ?_
          obtain ⟨vx, wx, hr3, o3, g3'⟩ := run_bappend wd.heap.size 22 v2 _ ([1] ++ la) ra o2 (his_bytes (D1.next b2).g7) (by have := (D1.next b2).g7.1.1; have := (D1.next b2).g6.1.1; simp only [List.length_append, List.length_cons, List.length_nil]; omega) b2.size
          refine opVal (some 51) rfl rfl rfl vx wx (rx_bappend (.tmp 49) (.tmp 50) rfl _ _ vx wx rfl rfl hr3) ?_
          refine ⟨trivial, ?_⟩
          have b3 : Below wd.heap.size wd wx := b2.trans (o2.belowB g3' b2.size)
          have hs3 : SliceIn wx vx (1 :: (la ++ ra)) := o3.slice (lt256 _ (fun c hc => by
            rcases List.mem_append.1 hc with hc | hc
            · rcases List.mem_append.1 hc with hc | hc
              · rw [List.mem_singleton.1 hc]; decide
              · exact D1.g6.1.2 c hc
            · exact D1.g7.1.2 c hc))
          have Rwx : Hid (MetIn w wx g6 g7 g8 g9 la ra lb rb) := D1.next b3
          have Xwx : Hid (SliceIn wx vx (1 :: (la ++ ra)) ∧ Below w8.heap.size w8 wx) := ⟨hs3, below_append bdd b3⟩
          clear g3' hr3 o2 b2 o3 b3 hs3 D1 bdd
          simp only [Act.put, List.setIfInBounds_toArray, List.set_cons_succ, List.set_cons_zero]
          refine takeH (i := 5) (some 10) rfl rfl (by kernel_rfl) (by kernel_rfl) (by kernel_rfl) (fun _ _ _ h => h) (yAssign rfl (.tmp 51) rfl (vx) rfl) trivial ?_
          simp only [Act.put, List.setIfInBounds_toArray, List.set_cons_succ, List.set_cons_zero]
          refine wpAnyH_done (by kernel_rfl) ?_ _
          clear Rw8
          go_wp2_with fail
          refine wp_region_held (S := fun _ => True) (by kernel_rfl) ?_
          show wpAnyH _ _ _ _ _ 6 (Array.replicate 6 false) _ _
          refine takeH (i := 1) (some 53) rfl rfl (by kernel_rfl) (by kernel_rfl) (by kernel_rfl) (fun _ _ _ h => h) (yRun rfl _ (fun _ _ => rx_bytes (.tmp 8) rfl g8 rfl)) trivial ?_
          simp only [Act.put, List.setIfInBounds_toArray, List.set_cons_succ, List.set_cons_zero]
          refine takeH (i := 3) (some 55) rfl rfl (by kernel_rfl) (by kernel_rfl) (by kernel_rfl) (fun _ _ _ h => h) (yRun rfl _ (fun _ _ => rx_bytes (.tmp 9) rfl g9 rfl)) trivial ?_
          simp only [Act.put, List.setIfInBounds_toArray, List.set_cons_succ, List.set_cons_zero]
          have D1 : MetIn w { wx with drawn := wx.drawn + 1 } g6 g7 g8 g9 la ra lb rb := Rwx.out.next (below_drawn wx _)
          generalize hwd : { wx with drawn := wx.drawn + 1 } = wd at D1 ⊢
          have bdd : Below wx.heap.size wx wd := hwd ▸ below_drawn wx _
          clear hwd
          refine oneH (i := 0) (by kernel_rfl) ?_
          refine opVal (some 52) rfl rfl rfl (.slice (some ⟨wd.heap.size, 0, none⟩) 1 1) (wd.alloc (.cells (bcells [1]).toArray 5)) (rx_blit1 1 rfl) ?_
          refine ⟨trivial, ?_⟩
          have o1 := blit_own wd wd.heap.size (Nat.le_refl _) [1] (by simp)
          have b1 := below_alloc wd (.cells (bcells [1]).toArray 5)
          generalize wd.alloc (.cells (bcells [1]).toArray 5) = x1 at o1 b1 ⊢
          simp only [Act.put, List.setIfInBounds_toArray, List.set_cons_succ, List.set_cons_zero]
          refine oneH (i := 2) (by kernel_rfl) ?_
          obtain ⟨v2, x2, hr2, o2, g2'⟩ := run_bappend wd.heap.size 22 _ _ [1] lb o1 (his_bytes (D1.next b1).g8) (by have := (D1.next b1).g8.1.1; simp only [List.length_cons, List.length_nil]; omega) b1.size
          refine opVal (some 54) rfl rfl rfl v2 x2 (rx_bappend (.tmp 52) (.tmp 53) rfl _ _ v2 x2 rfl rfl hr2) ?_
          refine ⟨trivial, ?_⟩
          have b2 : Below wd.heap.size wd x2 := b1.trans (o1.belowB g2' b1.size)
          clear g2' hr2 o1 b1
          simp only [Act.put, List.setIfInBounds_toArray, List.set_cons_succ, List.set_cons_zero]
          refine oneH (i := 4) (by kernel_rfl) ?_
          obtain ⟨vy, wy, hr3, o3, g3'⟩ := run_bappend wd.heap.size 22 v2 _ ([1] ++ lb) rb o2 (his_bytes (D1.next b2).g9) (by have := (D1.next b2).g9.1.1; have := (D1.next b2).g8.1.1; simp only [List.length_append, List.length_cons, List.length_nil]; omega) b2.size
          refine opVal (some 56) rfl rfl rfl vy wy (rx_bappend (.tmp 54) (.tmp 55) rfl _ _ vy wy rfl rfl hr3) ?_
          refine ⟨trivial, ?_⟩
          have b3 : Below wd.heap.size wd wy := b2.trans (o2.belowB g3' b2.size)
          have hs3 : SliceIn wy vy (1 :: (lb ++ rb)) := o3.slice (lt256 _ (fun c hc => by
            rcases List.mem_append.1 hc with hc | hc
            · rcases List.mem_append.1 hc with hc | hc
              · rw [List.mem_singleton.1 hc]; decide
              · exact D1.g8.1.2 c hc
            · exact D1.g9.1.2 c hc))
          have Rwy : Hid (MetIn w wy g6 g7 g8 g9 la ra lb rb) := D1.next b3
          have Xwy : Hid (SliceIn wy vy (1 :: (lb ++ rb)) ∧ Below wx.heap.size wx wy) := ⟨hs3, below_append bdd b3⟩
          clear g3' hr3 o2 b2 o3 b3 hs3 D1 bdd
          simp only [Act.put, List.setIfInBounds_toArray, List.set_cons_succ, List.set_cons_zero]
          refine takeH (i := 5) (some 11) rfl rfl (by kernel_rfl) (by kernel_rfl) (by kernel_rfl) (fun _ _ _ h => h) (yAssign rfl (.tmp 56) rfl (vy) rfl) trivial ?_
          simp only [Act.put, List.setIfInBounds_toArray, List.set_cons_succ, List.set_cons_zero]
          refine wpAnyH_done (by kernel_rfl) ?_ _
          clear Rwx
          have XX : Hid (SliceIn wy vx (1 :: (la ++ ra))) := Xwx.out.1.later Xwy.out.2
          have HL : Hid (la.length = 32 ∧ ra.length = 32 ∧ lb.length = 32 ∧ rb.length = 32) := ⟨Rwy.out.g6.1.1, Rwy.out.g7.1.1, Rwy.out.g8.1.1, Rwy.out.g9.1.1⟩
          go_wp2_with fail
          refine (refSum_any vx (1 :: (la ++ ra)) wy XX.out (by have := HL.out; simp only [List.length_cons, List.length_append]; omega)).mono ?_
          rintro e wz ⟨rfl, bz⟩
          rw [show (Value.agg (bcells (Sha.sha (1 :: (la ++ ra)))).toArray) = hv (Tree.node la ra) from rfl]
          have Rz : Hid (SliceIn wz vy (1 :: (lb ++ rb)) ∧ Below w.heap.size w wz) := ⟨Xwy.out.1.later bz, below_append Rwy.out.bl bz⟩
          clear bz XX Xwx Xwy Rwy
          go_wp2_with fail
          refine (refSum_any vy (1 :: (lb ++ rb)) wz Rz.out.1 (by have := HL.out; simp only [List.length_cons, List.length_append]; omega)).mono ?_
          rintro e wt ⟨rfl, bt⟩
          rw [show (Value.agg (bcells (Sha.sha (1 :: (lb ++ rb)))).toArray) = hv (Tree.node lb rb) from rfl, ← HND.out]
          have Rt : Hid (Below w.heap.size w wt) := below_append Rz.out.2 bt
          clear bt Rz
          go_wp2_with (first | (refine wl_same (.tmp 58) (.tmp 60) rfl rfl (Tree.node la ra) (node_isH _ _) rfl rfl ?_))
          go_ret
          exact ⟨rfl, Rt.out⟩
        · have D1 : Hid (decide (la = lb) = true ∧ decide (ra = rb) = false) := hd
          clear hd HTG
          go_wp2_with (first
            | (refine wl_load (.tmp 6) rfl rfl _ rfl la Rw8.out.g6.at ?_)
            | (refine wl_load (.tmp 8) rfl rfl _ rfl lb Rw8.out.g8.at ?_)
            | (refine wl_ne (.tmp 39) (.tmp 40) rfl rfl la lb Rw8.out.g6.1 Rw8.out.g8.1 rfl rfl ?_; rw [D1.out.1])
            | (refine wl_load (.tmp 7) rfl rfl _ rfl ra Rw8.out.g7.at ?_)
            | (refine wl_load (.tmp 9) rfl rfl _ rfl rb Rw8.out.g9.at ?_)
            | (refine wl_ne (.tmp 43) (.tmp 44) rfl rfl ra rb Rw8.out.g7.1 Rw8.out.g9.1 rfl rfl ?_; rw [D1.out.2]))
          refine wp_region_held (S := fun _ => True) (by kernel_rfl) ?_
          show wpAnyH _ _ _ _ _ 6 (Array.replicate 6 false) _ _
          refine takeH (i := 1) (some 48) rfl rfl (by kernel_rfl) (by kernel_rfl) (by kernel_rfl) (fun _ _ _ h => h) (yRun rfl _ (fun _ _ => rx_bytes (.tmp 6) rfl g6 rfl)) trivial ?_
          simp only [Act.put, List.setIfInBounds_toArray, List.set_cons_succ, List.set_cons_zero]
          refine takeH (i := 3) (some 50) rfl rfl (by kernel_rfl) (by kernel_rfl) (by kernel_rfl) (fun _ _ _ h => h) (yRun rfl _ (fun _ _ => rx_bytes (.tmp 7) rfl g7 rfl)) trivial ?_
          simp only [Act.put, List.setIfInBounds_toArray, List.set_cons_succ, List.set_cons_zero]
          have D1 : MetIn w { w8 with drawn := w8.drawn + 1 } g6 g7 g8 g9 la ra lb rb := Rw8.out.next (below_drawn w8 _)
          generalize hwd : { w8 with drawn := w8.drawn + 1 } = wd at D1 ⊢
          have bdd : Below w8.heap.size w8 wd := hwd ▸ below_drawn w8 _
          clear hwd
          refine oneH (i := 0) (by kernel_rfl) ?_
          refine opVal (some 47) rfl rfl rfl (.slice (some ⟨wd.heap.size, 0, none⟩) 1 1) (wd.alloc (.cells (bcells [1]).toArray 5)) (rx_blit1 1 rfl) ?_
          refine ⟨trivial, ?_⟩
          have o1 := blit_own wd wd.heap.size (Nat.le_refl _) [1] (by simp)
          have b1 := below_alloc wd (.cells (bcells [1]).toArray 5)
          generalize wd.alloc (.cells (bcells [1]).toArray 5) = x1 at o1 b1 ⊢
          simp only [Act.put, List.setIfInBounds_toArray, List.set_cons_succ, List.set_cons_zero]
          refine oneH (i := 2) (by kernel_rfl) ?_
          obtain ⟨v2, x2, hr2, o2, g2'⟩ := run_bappend wd.heap.size 22 _ _ [1] la o1 (his_bytes (D1.next b1).g6) (by have := (D1.next b1).g6.1.1; simp only [List.length_cons, List.length_nil]; omega) b1.size
          refine opVal (some 49) rfl rfl rfl v2 x2 (rx_bappend (.tmp 47) (.tmp 48) rfl _ _ v2 x2 rfl rfl hr2) ?_
          refine ⟨trivial, ?_⟩
          have b2 : Below wd.heap.size wd x2 := b1.trans (o1.belowB g2' b1.size)
          clear g2' hr2 o1 b1
          simp only [Act.put, List.setIfInBounds_toArray, List.set_cons_succ, List.set_cons_zero]
          refine oneH (i := 4) (by kernel_rfl) ?_
          obtain ⟨vx, wx, hr3, o3, g3'⟩ := run_bappend wd.heap.size 22 v2 _ ([1] ++ la) ra o2 (his_bytes (D1.next b2).g7) (by have := (D1.next b2).g7.1.1; have := (D1.next b2).g6.1.1; simp only [List.length_append, List.length_cons, List.length_nil]; omega) b2.size
          refine opVal (some 51) rfl rfl rfl vx wx (rx_bappend (.tmp 49) (.tmp 50) rfl _ _ vx wx rfl rfl hr3) ?_
          refine ⟨trivial, ?_⟩
          have b3 : Below wd.heap.size wd wx := b2.trans (o2.belowB g3' b2.size)
          have hs3 : SliceIn wx vx (1 :: (la ++ ra)) := o3.slice (lt256 _ (fun c hc => by
            rcases List.mem_append.1 hc with hc | hc
            · rcases List.mem_append.1 hc with hc | hc
              · rw [List.mem_singleton.1 hc]; decide
              · exact D1.g6.1.2 c hc
            · exact D1.g7.1.2 c hc))
          have Rwx : Hid (MetIn w wx g6 g7 g8 g9 la ra lb rb) := D1.next b3
          have Xwx : Hid (SliceIn wx vx (1 :: (la ++ ra)) ∧ Below w8.heap.size w8 wx) := ⟨hs3, below_append bdd b3⟩
          clear g3' hr3 o2 b2 o3 b3 hs3 D1 bdd
          simp only [Act.put, List.setIfInBounds_toArray, List.set_cons_succ, List.set_cons_zero]
          refine takeH (i := 5) (some 10) rfl rfl (by kernel_rfl) (by kernel_rfl) (by kernel_rfl) (fun _ _ _ h => h) (yAssign rfl (.tmp 51) rfl (vx) rfl) trivial ?_
          simp only [Act.put, List.setIfInBounds_toArray, List.set_cons_succ, List.set_cons_zero]
          refine wpAnyH_done (by kernel_rfl) ?_ _
          clear Rw8
          go_wp2_with fail
          refine wp_region_held (S := fun _ => True) (by kernel_rfl) ?_
          show wpAnyH _ _ _ _ _ 6 (Array.replicate 6 false) _ _
          refine takeH (i := 1) (some 53) rfl rfl (by kernel_rfl) (by kernel_rfl) (by kernel_rfl) (fun _ _ _ h => h) (yRun rfl _ (fun _ _ => rx_bytes (.tmp 8) rfl g8 rfl)) trivial ?_
          simp only [Act.put, List.setIfInBounds_toArray, List.set_cons_succ, List.set_cons_zero]
          refine takeH (i := 3) (some 55) rfl rfl (by kernel_rfl) (by kernel_rfl) (by kernel_rfl) (fun _ _ _ h => h) (yRun rfl _ (fun _ _ => rx_bytes (.tmp 9) rfl g9 rfl)) trivial ?_
          simp only [Act.put, List.setIfInBounds_toArray, List.set_cons_succ, List.set_cons_zero]
          have D1 : MetIn w { wx with drawn := wx.drawn + 1 } g6 g7 g8 g9 la ra lb rb := Rwx.out.next (below_drawn wx _)
          generalize hwd : { wx with drawn := wx.drawn + 1 } = wd at D1 ⊢
          have bdd : Below wx.heap.size wx wd := hwd ▸ below_drawn wx _
          clear hwd
          refine oneH (i := 0) (by kernel_rfl) ?_
          refine opVal (some 52) rfl rfl rfl (.slice (some ⟨wd.heap.size, 0, none⟩) 1 1) (wd.alloc (.cells (bcells [1]).toArray 5)) (rx_blit1 1 rfl) ?_
          refine ⟨trivial, ?_⟩
          have o1 := blit_own wd wd.heap.size (Nat.le_refl _) [1] (by simp)
          have b1 := below_alloc wd (.cells (bcells [1]).toArray 5)
          generalize wd.alloc (.cells (bcells [1]).toArray 5) = x1 at o1 b1 ⊢
          simp only [Act.put, List.setIfInBounds_toArray, List.set_cons_succ, List.set_cons_zero]
          refine oneH (i := 2) (by kernel_rfl) ?_
          obtain ⟨v2, x2, hr2, o2, g2'⟩ := run_bappend wd.heap.size 22 _ _ [1] lb o1 (his_bytes (D1.next b1).g8) (by have := (D1.next b1).g8.1.1; simp only [List.length_cons, List.length_nil]; omega) b1.size
          refine opVal (some 54) rfl rfl rfl v2 x2 (rx_bappend (.tmp 52) (.tmp 53) rfl _ _ v2 x2 rfl rfl hr2) ?_
          refine ⟨trivial, ?_⟩
          have b2 : Below wd.heap.size wd x2 := b1.trans (o1.belowB g2' b1.size)
          clear g2' hr2 o1 b1
          simp only [Act.put, List.setIfInBounds_toArray, List.set_cons_succ, List.set_cons_zero]
          refine oneH (i := 4) (by kernel_rfl) ?_
          obtain ⟨vy, wy, hr3, o3, g3'⟩ := run_bappend wd.heap.size 22 v2 _ ([1] ++ lb) rb o2 (his_bytes (D1.next b2).g9) (by have := (D1.next b2).g9.1.1; have := (D1.next b2).g8.1.1; simp only [List.length_append, List.length_cons, List.length_nil]; omega) b2.size
          refine opVal (some 56) rfl rfl rfl vy wy (rx_bappend (.tmp 54) (.tmp 55) rfl _ _ vy wy rfl rfl hr3) ?_
          refine ⟨trivial, ?_⟩
          have b3 : Below wd.heap.size wd wy := b2.trans (o2.belowB g3' b2.size)
          have hs3 : SliceIn wy vy (1 :: (lb ++ rb)) := o3.slice (lt256 _ (fun c hc => by
            rcases List.mem_append.1 hc with hc | hc
            · rcases List.mem_append.1 hc with hc | hc
              · rw [List.mem_singleton.1 hc]; decide
              · exact D1.g8.1.2 c hc
            · exact D1.g9.1.2 c hc))
          have Rwy : Hid (MetIn w wy g6 g7 g8 g9 la ra lb rb) := D1.next b3
          have Xwy : Hid (SliceIn wy vy (1 :: (lb ++ rb)) ∧ Below wx.heap.size wx wy) := ⟨hs3, below_append bdd b3⟩
          clear g3' hr3 o2 b2 o3 b3 hs3 D1 bdd
          simp only [Act.put, List.setIfInBounds_toArray, List.set_cons_succ, List.set_cons_zero]
          refine takeH (i := 5) (some 11) rfl rfl (by kernel_rfl) (by kernel_rfl) (by kernel_rfl) (fun _ _ _ h => h) (yAssign rfl (.tmp 56) rfl (vy) rfl) trivial ?_
          simp only [Act.put, List.setIfInBounds_toArray, List.set_cons_succ, List.set_cons_zero]
          refine wpAnyH_done (by kernel_rfl) ?_ _
          clear Rwx
          have XX : Hid (SliceIn wy vx (1 :: (la ++ ra))) := Xwx.out.1.later Xwy.out.2
          have HL : Hid (la.length = 32 ∧ ra.length = 32 ∧ lb.length = 32 ∧ rb.length = 32) := ⟨Rwy.out.g6.1.1, Rwy.out.g7.1.1, Rwy.out.g8.1.1, Rwy.out.g9.1.1⟩
          go_wp2_with fail
          refine (refSum_any vx (1 :: (la ++ ra)) wy XX.out (by have := HL.out; simp only [List.length_cons, List.length_append]; omega)).mono ?_
          rintro e wz ⟨rfl, bz⟩
          rw [show (Value.agg (bcells (Sha.sha (1 :: (la ++ ra)))).toArray) = hv (Tree.node la ra) from rfl]
          have Rz : Hid (SliceIn wz vy (1 :: (lb ++ rb)) ∧ Below w.heap.size w wz) := ⟨Xwy.out.1.later bz, below_append Rwy.out.bl bz⟩
          clear bz XX Xwx Xwy Rwy
          go_wp2_with fail
          refine (refSum_any vy (1 :: (lb ++ rb)) wz Rz.out.1 (by have := HL.out; simp only [List.length_cons, List.length_append]; omega)).mono ?_
          rintro e wt ⟨rfl, bt⟩
          rw [show (Value.agg (bcells (Sha.sha (1 :: (lb ++ rb)))).toArray) = hv (Tree.node lb rb) from rfl, ← HND.out]
          have Rt : Hid (Below w.heap.size w wt) := below_append Rz.out.2 bt
          clear bt Rz
          go_wp2_with (first | (refine wl_same (.tmp 58) (.tmp 60) rfl rfl (Tree.node la ra) (node_isH _ _) rfl rfl ?_))
          go_ret
          exact ⟨rfl, Rt.out⟩
end Go.Proofs.YtmjbjepmnjocjaaDoor

/- The walk of sha.mixed: one piece's rounds. -/
import Derived.Test.YtjdmpanemdhbbaaDoorSched
import Derived.Handy
namespace Go.Proofs.YtjdmpanemdhbbaaDoor
open Go.RowKit

section
variable {w : World} {ops : Array Oper} {rest : List Oper} {o : Oper} {a : Act} {Q : Exit → Act → World → Prop}
/-- a value is laid into a block of its own -/
theorem wpList_box {t : Nat} (x : Operand) (hgd : o.guard = none) (ho : o.op = .box t x) (cs : List Value) (hx : a.eval x = .agg cs.toArray)
    (h : ∀ w', Row w' w.heap.size t cs → w'.heap.size = w.heap.size + 1 → Below w.heap.size w w' → wpList Tryd.prog ops Q rest (a.put o.dst (.pointer (some ⟨w.heap.size, 0, none⟩))) w') : wpList Tryd.prog ops Q (o :: rest) a w :=
  wpList_value hgd _ _ (by simp [execOp, ho, hx, Instr.box, newVar, newRow, Value.cells]) (h (w.alloc (.cells cs.toArray t)) (Row.new w t cs) (by simp) ((Below.refl _ _).alloc (Nat.le_refl _) _))
theorem wpList_alloc' {t : Nat} (zs : List Value) (hz : (Tryd.prog.info? t).map (·.zero) = some (some (.agg zs.toArray))) (hgd : o.guard = none) (ho : o.op = .alloc t)
    (h : ∀ w', Row w' w.heap.size t zs → w'.heap.size = w.heap.size + 1 → Below w.heap.size w w' → wpList Tryd.prog ops Q rest (a.put o.dst (.pointer (some ⟨w.heap.size, 0, none⟩))) w') : wpList Tryd.prog ops Q (o :: rest) a w :=
  wpList_alloc zs hz hgd ho (h (w.alloc (.cells zs.toArray t)) (Row.new w t zs) (by simp) ((Below.refl _ _).alloc (Nat.le_refl _) _))
/-- an element of eight words that are a value -/
theorem wpList_index8 (x ix : Operand) (hgd : o.guard = none) (ho : o.op = .index 66 x ix) (cs : List Value) (hx : a.eval x = .agg cs.toArray) (k : Nat) (hk : k < 8) (hix : a.eval ix = .int .i64 k) (v : Value) (hv : cs[k]? = some v)
    (h : wpList Tryd.prog ops Q rest (a.put o.dst v) w) : wpList Tryd.prog ops Q (o :: rest) a w := by
  refine wpList_value hgd v w ?_ h
  have hi : (Tryd.prog.info? 65).map (·.size) = some 1 := by kernel_rfl
  obtain ⟨i, hi, hsz⟩ := Option.map_eq_some_iff.1 hi
  simp [execOp, ho, hx, hix, Instr.index, asIntOf, run_underlying Tryd.underlying66, run_underlying Tryd.underlying65, sizeOf, typeInfo, hi, hsz, part, isAgg, hv]
  intro h8
  omega
end

/-- .. and the sum's -/
theorem take_set {α : Type} (L A : List α) (h : L.length = A.length) (k : Nat) (hk : k < L.length) : (L.take k ++ A.drop k).set k L[k] = L.take (k + 1) ++ A.drop (k + 1) := by
  rw [List.set_append_right _ _ (by simp; omega), List.take_succ_eq_append_getElem hk, List.append_assoc]
  congr 1
  rw [List.length_take, Nat.min_eq_left (by omega), Nat.sub_self, List.drop_eq_getElem_cons (by omega)]
  rfl
theorem take_at {α : Type} (L A : List α) (h : L.length = A.length) (k : Nat) (hk : k < L.length) : (L.take k ++ A.drop k)[k]? = A[k]? := by
  rw [List.getElem?_append_right (by simp; omega), List.length_take, Nat.min_eq_left (by omega), Nat.sub_self, List.getElem?_drop, Nat.add_zero]

/-- the constants lie in their place -/
def TabIn (w : World) : Prop := ∀ t : Nat, t < 64 → w.cell? ⟨1, t, none⟩ = some (.int .u32 (Sha.U (Sha.kAt t)))
theorem TabIn.later {w wx : World} (hb : Below w.heap.size w wx) (h : TabIn w) : TabIn wx := fun t ht => cell_later hb (h t ht)

/-- what the rounds leave alone -/
def MixIn (w W : World) (g0 g1 g2 : Nat) (v : Sha.W8) (p : List Nat) : Prop :=
  Row W g0 66 (wcells v.list) ∧ Row W g1 79 (wcells (Sha.sched p 64)) ∧ Row W g2 66 (zerosU32 8) ∧ Below w.heap.size w W
theorem wcells_at (ws : List (BitVec 32)) (i : Nat) (h : i < ws.length) : (wcells ws)[i]? = some (.int .u32 (Sha.U (ws.getD i 0))) := by simp [wcells, h]

theorem MixIn.drewN {w W : World} {g0 g1 g2 : Nat} {v : Sha.W8} {p : List Nat} (h : MixIn w W g0 g1 g2 v p) (n : Nat) : MixIn w (W.drewN n) g0 g1 g2 v p :=
  ⟨h.1.drewN n, h.2.1.drewN n, h.2.2.1.drewN n, Below.drewN h.2.2.2 n⟩
theorem U_notIf (a : BitVec 32) : bits .xor .u32 (if IntKind.u32.signed = true then -1 else IntKind.u32.max) (Sha.U a) = Sha.U (~~~ a) := by
  rw [show (if IntKind.u32.signed = true then (-1 : Int) else IntKind.u32.max) = IntKind.u32.max from rfl, Sha.U_not]
theorem U_add3 (a b c d : BitVec 32) : (Sha.U a + Sha.U b + Sha.U c + Sha.U d) % (4294967296 : Int) = Sha.U (a + b + c + d) := by
  rw [← Sha.U_add (a + b + c) d, ← Sha.U_add (a + b) c, ← Sha.U_add a b]
  omega
theorem t1_U (x : Sha.W8) (k w : BitVec 32) : (Sha.U (x.h + (Sha.rot x.e 6 ^^^ Sha.rot x.e 11 ^^^ Sha.rot x.e 25)) + bits BinOp.xor IntKind.u32 (Sha.U (x.e &&& x.f)) (bits BinOp.and IntKind.u32 (bits BinOp.xor IntKind.u32 (if IntKind.u32.signed = true then -1 else IntKind.u32.max) (Sha.U x.e)) (Sha.U x.g)) + Sha.U k + Sha.U w) % (4294967296 : Int) = Sha.U (Sha.t1 x k w) := by
  rw [U_notIf, Sha.U_and, Sha.U_xor, U_add3]
  rfl

theorem len8 (v : Sha.W8) : (wcells v.list).length = 8 := by rw [wcells_length, Sha.W8.list_length]
theorem len88 (v x : Sha.W8) : (wcells v.list).length = (wcells x.list).length := by rw [len8, len8]
attribute [local go_sem] Sha.U_xor Sha.U_add Sha.U_and in
set_option maxHeartbeats 1000000 in
set_option maxRecDepth 100000 in
theorem mixed_any (v : Sha.W8) (p : List Nat) (w : World) (ht : TabIn w) :
    Calls Tryd.prog 47 #[.agg (wcells v.list).toArray, .agg (wcells (Sha.sched p 64)).toArray] w fun e w' => e = .returned (.agg (wcells (Sha.comp v p).list).toArray) ∧ Below w.heap.size w w' := by
  go_enter Tryd.func47, Tryd.ntmps47
  go_upto_region 0 with fail
  refine wp_region_lit ?_
  refine wpList_box (.tmp 0) rfl rfl (wcells v.list) rfl ?_
  intro w1 r1 s1 b1
  refine wpList_box (.tmp 1) rfl rfl (wcells (Sha.sched p 64)) rfl ?_
  intro w2 r2 s2 b2
  refine wpList_alloc' (zerosU32 8) zero37 rfl rfl ?_
  intro w3 r3 s3 b3
  refine wpList_nil ?_
  have hm0 : MixIn w w3 w.heap.size w1.heap.size w2.heap.size v p := ⟨(r1.later b2 (by omega)).later b3 (by omega), r2.later b3 (by omega), r3, b1.trans ((b2.mono (by omega)).trans (b3.mono (by omega)))⟩
  generalize hg0 : w.heap.size = g0 at *
  generalize hg1 : w1.heap.size = g1 at *
  generalize hg2 : w2.heap.size = g2 at *
  have ha := hm0.1.at 0 (.int .u32 (Sha.U v.a)) rfl
  have hb := hm0.1.at 1 (.int .u32 (Sha.U v.b)) rfl
  have hc := hm0.1.at 2 (.int .u32 (Sha.U v.c)) rfl
  have hd := hm0.1.at 3 (.int .u32 (Sha.U v.d)) rfl
  have he := hm0.1.at 4 (.int .u32 (Sha.U v.e)) rfl
  have hf := hm0.1.at 5 (.int .u32 (Sha.U v.f)) rfl
  have hg := hm0.1.at 6 (.int .u32 (Sha.U v.g)) rfl
  have hh := hm0.1.at 7 (.int .u32 (Sha.U v.h)) rfl
  have hlt0 : g0 < g1 := by omega
  have hlt1 : g1 < g2 := by omega
  have HM : Hid (MixIn w w3 g0 g1 g2 v p) := hm0
  clear hm0 r1 r2 r3 b1 b2 b3 s1 s2 s3
  go_wp2
  go_quiet (fail)
  go_wp2
  go_quiet (fail)
  go_wp2
  clear ha hb hc hd he hf hg hh
  go_loopw [5, 6, 7, 8, 9, 10, 11, 12, 34] (fun xa xb xc xd xe xf xg xh i W => ∃ k : Nat, k ≤ 64 ∧ i = .int .i64 k ∧ xa = .int .u32 (Sha.U (Sha.rnds p v k).a) ∧ xb = .int .u32 (Sha.U (Sha.rnds p v k).b) ∧ xc = .int .u32 (Sha.U (Sha.rnds p v k).c) ∧ xd = .int .u32 (Sha.U (Sha.rnds p v k).d) ∧ xe = .int .u32 (Sha.U (Sha.rnds p v k).e) ∧ xf = .int .u32 (Sha.U (Sha.rnds p v k).f) ∧ xg = .int .u32 (Sha.U (Sha.rnds p v k).g) ∧ xh = .int .u32 (Sha.U (Sha.rnds p v k).h) ∧ MixIn w W g0 g1 g2 v p) (fun _ _ _ _ _ _ _ _ i _ => 64 - (intOf i).toNat)
  case atStart => exact ⟨0, Nat.zero_le _, rfl, rfl, rfl, rfl, rfl, rfl, rfl, rfl, rfl, (HM.out.drewN _).drewN _⟩
  case round =>
    clear HM
    obtain ⟨k, hk, rfl, rfl, rfl, rfl, rfl, rfl, rfl, rfl, rfl, hm⟩ := hrel
    by_cases hlt : k < 64
    · have HM : Hid (MixIn w wr g0 g1 g2 v p) := hm
      have HR : Hid (Sha.rnds p v (k + 1) = Sha.rnd (Sha.rnds p v k) (Sha.kAt k) ((Sha.sched p 64).getD k 0)) := rfl
      have ck : wr.cell? ⟨1, k, none⟩ = _ := (ht.later (hg0 ▸ hm.2.2.2)) k hlt
      have cw : wr.cell? ⟨g1, k, none⟩ = _ := hm.2.1.at k _ (wcells_at _ k (by rw [Sha.sched_length]; exact hlt))
      clear hm ht
      generalize (Sha.sched p 64).getD k 0 = wk at *
      generalize Sha.kAt k = kk at *
      generalize Sha.rnds p v k = x at *
      go_wp2
      go_quiet (first | (go_at_call_of 53 (Value.int IntKind.i64 6); exact Calls.quiet_of_same (srot_6 _ _)) | (go_at_call_of 53 (Value.int IntKind.i64 11); exact Calls.quiet_of_same (srot_11 _ _)) | (go_at_call_of 53 (Value.int IntKind.i64 25); exact Calls.quiet_of_same (srot_25 _ _)))
      go_wp2_with (first | (go_at_call_of 53 (Value.int IntKind.i64 2); refine (srot_2 _ _).mono ?_; rintro e w' ⟨rfl, rfl⟩) | (go_at_call_of 53 (Value.int IntKind.i64 13); refine (srot_13 _ _).mono ?_; rintro e w' ⟨rfl, rfl⟩) | (go_at_call_of 53 (Value.int IntKind.i64 22); refine (srot_22 _ _).mono ?_; rintro e w' ⟨rfl, rfl⟩))
      rw [t1_U, Sha.U_add, Sha.U_add]
      refine ⟨⟨k + 1, by omega, by go_num, ?_⟩, by simp [intOf]; omega⟩
      rw [HR.out]
      exact ⟨rfl, rfl, rfl, rfl, rfl, rfl, rfl, rfl, HM.out.drewN _⟩
    · have ek : (k : Int) = 64 := by omega
      obtain rfl : k = 64 := by omega
      rw [ek]
      clear ek hlt hk ht
      generalize hx : Sha.rnds p v 64 = x at *
      have HX : Hid (Sha.rnds p v 64 = x) := hx
      have HM : Hid (MixIn w wr g0 g1 g2 v p) := hm
      have hr0 : Row wr g0 66 ((wcells (Sha.add8 v x).list).take 0 ++ (wcells v.list).drop 0) := hm.1
      have hr2 := hm.2.2.1
      have hbl : Below g0 w wr := hg0 ▸ hm.2.2.2
      clear hm hx
      go_wp2
      go_loopw [106] (fun i W => ∃ k : Nat, k ≤ 8 ∧ i = .int .i64 k ∧ Row W g0 66 ((wcells (Sha.add8 v x).list).take k ++ (wcells v.list).drop k) ∧ Row W g2 66 (zerosU32 8) ∧ Below g0 w W) (fun i _ => 8 - (intOf i).toNat)
      case atStart => exact ⟨0, Nat.zero_le _, rfl, hr0, hr2, hbl⟩
      case round =>
        clear hr0 hr2 hbl HM
        obtain ⟨k, hk, rfl, r0, r2, bl⟩ := hrel
        by_cases hlt : k < 8
        · have l0 : k < (wcells (Sha.add8 v x).list).length := by rw [len8]; exact hlt
          have c0 : wr.cell? ⟨g0, k, none⟩ = _ := r0.at k _ ((take_at (wcells (Sha.add8 v x).list) (wcells v.list) (len88 _ _) k l0).trans (wcells_at v.list k hlt))
          have f0 := r0.frozen k
          have R0 : Hid (Row wr g0 66 ((wcells (Sha.add8 v x).list).take k ++ (wcells v.list).drop k)) := r0
          have R2 : Hid (Row wr g2 66 (zerosU32 8)) := r2
          have HE : Hid ((wcells (Sha.add8 v x).list)[k] = .int .u32 (Sha.U (v.list.getD k 0 + x.list.getD k 0))) := by
            have := wcells_at (Sha.add8 v x).list k hlt
            rw [List.getElem?_eq_getElem l0] at this
            rw [Option.some.inj this]
            have h8 : ∀ k : Fin 8, (Sha.add8 v x).list.getD k.val 0 = v.list.getD k.val 0 + x.list.getD k.val 0 := by
              intro k
              match k with
              | 0 => rfl
              | 1 => rfl
              | 2 => rfl
              | 3 => rfl
              | 4 => rfl
              | 5 => rfl
              | 6 => rfl
              | 7 => rfl
            rw [h8 ⟨k, hlt⟩]
            exact rfl
          clear r0 r2
          go_upto_region 12 with fail
          refine wp_region_lit ?_
          refine wpList_move (.tmp 106) rfl rfl _ rfl ?_
          refine wpList_index8 (.tmp 105) (.tmp 106) rfl rfl (wcells x.list) rfl k hlt rfl _ (wcells_at x.list k hlt) ?_
          generalize x.list.getD k 0 = bx at *
          generalize v.list.getD k 0 = bv at *
          go_wp2
          refine ⟨⟨k + 1, by omega, by go_num, ?_, R2.out.setCell_other (by omega) _ _, bl.setCell (Nat.le_refl _) _⟩, by simp [intOf]; omega⟩
          have := R0.out.setCell k (.int .u32 (Sha.U (bv + bx)))
          rw [← HE.out, take_set (wcells (Sha.add8 v x).list) (wcells v.list) (len88 _ _) k l0] at this
          rw [← HE.out]
          exact this
        · obtain rfl : k = 8 := by omega
          have R0 : Row wr g0 66 (wcells (Sha.add8 v x).list) := by
            rw [List.take_of_length_le (Nat.le_of_eq (len8 (Sha.add8 v x))), List.drop_of_length_le (Nat.le_of_eq (len8 v)), List.append_nil] at r0
            exact r0
          clear r0
          go_upto_region 15 with fail
          refine wp_region_lit ?_
          refine wpList_load agg37 (.tmp 2) rfl rfl _ _ rfl (wcells (Sha.add8 v x).list) (len8 _) (fun j u hu => by rw [Nat.zero_add]; exact R0.at j u hu) ?_
          refine wpList_store agg37 (.tmp 4) (.tmp 117) rfl rfl g2 0 66 rfl (wcells (Sha.add8 v x).list) _ rfl (len8 _) r2 (by rw [len8]; exact Nat.le_refl _) (wcells_one _) ?_
          refine wpList_nil ?_
          have hr := r2.setRow (splice (zerosU32 8) 0 (wcells (Sha.add8 v x).list))
          rw [show splice (zerosU32 8) 0 (wcells (Sha.add8 v x).list) = wcells (Sha.add8 v x).list by simp [splice, zerosU32, wcells_length, Sha.W8.list_length]] at hr ⊢
          have hbl := below_setRow bl (show g0 ≤ g2 by omega) (wcells (Sha.add8 v x).list).toArray
          clear r2 bl R0
          go_wp2
          refine bodyPost_ret (results_cell agg37 Tryd.results47 _ _ g2 66 rfl _ (len8 _) hr) rfl ⟨?_, by rw [hg0]; exact hbl⟩
          rw [Sha.comp, HX.out]
end Go.Proofs.YtjdmpanemdhbbaaDoor

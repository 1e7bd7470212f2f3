/- A hash behind a row of hashes, and the leaves of rows, whatever can come in. -/
import Derived.Test.YtjdmpanemdhbbaaDoorRows6
namespace Go.Proofs.YtjdmpanemdhbbaaDoor
open Go.RowKit

theorem next_one (old : Nat) : Builtin.nextslicecap (old + 1) old ≤ old + old / 4 + 512 := by
  unfold Builtin.nextslicecap
  split
  · omega
  · split
    · omega
    · rw [growBy_four]
      repeat' split
      all_goals omega
/-- one hash behind a row of the call's own: up to all that can come in -/
theorem run_hpush {w : World} (base : Nat) (ty : TypeId) (v vx : Value) (hs : List (List Nat)) (h : List Nat) (hown : HOwn w base v hs) (hin : HIn w vx [h]) (hsz : hs.length * 24 ≤ 140737488355328) (hbase : base ≤ w.heap.size) :
    ∃ v' w', (Builtin.append_ #[24, 24] ty #[v, vx]).run Tryd.prog w = .ok v' w' ∧ HOwn w' base v' (hs ++ [h]) ∧ w.grownBy w' v.ownBlock := by
  by_cases hsm : (hs.length + [h].length) * 32 ≤ 140737488355328
  · exact run_happend base ty v vx hs [h] hown hin hsm hbase
  have hbig : 1000 ≤ hs.length := by simp at hsm; omega
  have hall : AllH (hs ++ [h]) := hown.1.append hin.1
  have hh : IsH h := hin.1 h (by simp)
  obtain ⟨i, hi, hz0, hz1, hz2⟩ := info_parts info27
  obtain ⟨_, p, cp, rfl, hl, hin'⟩ := hin
  rcases hin' with hc | ⟨b, off, rfl, hc, _⟩
  · cases hc
  have hnews : ∀ j u, (bcells h)[j]? = some u → w.cell? ((⟨b, off, none⟩ : Addr).add j) = some u := fun j u hu => by
    have hj : j < h.length := by
      have := (List.getElem?_eq_some_iff.1 hu).1
      rwa [bcells_length] at this
    have e : [h].flatten = h := by simp
    rw [e] at hc
    rw [add_none, hc j hj, ← hu, bcells_at h j hj]
  have hnl : (bcells h).length = 1 * i.size := by rw [bcells_length, hh.1, hz1]
  have hfl : (bcells hs.flatten).length = hs.length * 32 := by rw [bcells_length, flat_length hs hown.1]
  have hcells : bcells (hs ++ [h]).flatten = bcells hs.flatten ++ bcells h := by rw [List.flatten_append, bcells_append]; simp
  have hnl' : (bcells h).length = 32 := by rw [bcells_length]; exact hh.1
  rcases hown.2.2 with ⟨rfl, h0⟩ | ⟨g, cap', cur, rfl, hbg, hgb, hcap, hmax, hcs, htake⟩
  · omega
  by_cases hroom : hs.length + 1 ≤ cap'
  · have hfit : hs.length * i.size + (bcells h).length ≤ cur.size := by rw [hnl', hcs, hz1]; omega
    have hr := run_append_room (P := Tryd.prog) w 24 ty 23 i Tryd.underlying24 hi g hs.length cap' cur hgb ⟨b, off, none⟩ 1 cp (bcells h) hnl hnews (bcells_one _) hroom hfit
    refine ⟨_, _, hr, ⟨hall, by rw [hcells, List.length_append, hfl, hnl', List.length_append]; simp; omega, Or.inr ⟨g, cap', _, by rw [List.length_append]; rfl, hbg, setRow_heap w g cur _ 23 _ hgb, by rw [List.length_append]; exact hroom, hmax, ?_, ?_⟩⟩, ⟨rfl, rfl, rfl, by simp, fun k _ hk => setRow_other w g k _ (fun e => hk (by simp [Value.ownBlock, e]))⟩⟩
    · rw [hz1] at hfit ⊢
      simp only [List.size_toArray, List.length_append, List.length_take, List.length_drop, Array.length_toList]
      omega
    · rw [hz1, htake, hcells]
      have e : (hs ++ [h]).length * 32 = (bcells hs.flatten ++ bcells h).length := by rw [List.length_append, List.length_append, hfl, hnl']; simp; omega
      rw [e]
      exact List.take_left
  · have hcapn : cap' = hs.length := by omega
    have hfits : Builtin.nextslicecap (hs.length + 1) cap' * i.bytes ≤ 281474976710656 := by
      rw [hcapn, hz2]
      have := next_one hs.length
      omega
    have hr := run_append_grow (P := Tryd.prog) w 24 ty 23 i (.agg (zerosU8 32).toArray) Tryd.underlying24 hi hz0 ⟨g, 0, none⟩ hs.length cap' (bcells hs.flatten) (by rw [hfl, hz1]) (hown.2.cells (g := g) rfl) ⟨b, off, none⟩ 1 cp (bcells h) hnl hnews (by omega) (by omega) hfits
    refine ⟨_, _, hr, ⟨hall, by rw [hcells, List.length_append, hfl, hnl', List.length_append]; simp; omega, Or.inr ⟨w.heap.size, _, _, by rw [List.length_append]; rfl, hbase, heap_alloc_new w.drew _, by rw [List.length_append]; exact grownCap_ge w _ _ 23, grownCap_le_maxLen w _ _ 23 (by unfold maxLen; omega), ?_, ?_⟩⟩, ⟨rfl, rfl, rfl, by simp, fun k hk _ => (below_alloc w.drew _).block k hk⟩⟩
    · have hge := grownCap_ge w (hs.length + 1) cap' 23
      simp only [Array.size_append, List.size_toArray, size_zeroCells, hfl, hnl']
      have e : (Value.agg (zerosU8 32).toArray).cells.size = 32 := by simp [Value.cells, zerosU8]
      rw [e]
      omega
    · simp only [Array.toList_append, List.append_assoc]
      rw [← List.append_assoc, hcells]
      have e : (hs ++ [h]).length * 32 = (bcells hs.flatten ++ bcells h).length := by rw [List.length_append, List.length_append, hfl, hnl']; simp; omega
      rw [e]
      exact List.take_left
section
variable {w : World} {ops : Array Oper} {rest : List Oper} {o : Oper} {a : Act} {Q : Exit → Act → World → Prop}
theorem wl_push (sv x : Operand) (hgd : Region.wanted o (yielded ops a.tmps) = true) (ho : o.op = .call { callee := .builtin .append, args := #[sv, x], argTypes := #[24, 24] }) (base : Nat) (v vx : Value) (hs : List (List Nat)) (h1 : List Nat) (he : a.eval sv = v) (hown : HOwn w base v hs) (hx : a.eval x = vx) (hin : HIn w vx [h1])
    (hsz : hs.length * 24 ≤ 140737488355328) (hbase : base ≤ w.heap.size)
    (h : ∀ v' w', HOwn w' base v' (hs ++ [h1]) → Below base w w' → wpList Tryd.prog ops Q rest (a.put o.dst v') w') : wpList Tryd.prog ops Q (o :: rest) a w := by
  obtain ⟨v', w', hr, ho', hg⟩ := run_hpush base o.type v vx hs h1 hown hin hsz hbase
  exact wl hgd _ _ (rx_append sv x ho v vx v' w' he hx hr) (h v' w' ho' (hown.below hg hbase))
end
set_option maxHeartbeats 2000000 in
set_option maxRecDepth 100000 in
theorem leavesF_any (v : Value) (L : List (List Nat)) (w : World) (h : ListIn w v L) (hsz : L.length * 24 ≤ 140737488355328) (hL : ∀ c ∈ L, c.length + 1024 ≤ 140737488355328) :
    Calls Tryd.prog 15 #[v] w fun e w' => ∃ v', e = .returned v' ∧ HOwn w' w.heap.size v' (L.map Tree.leaf) ∧ Below w.heap.size w w' := by
  obtain ⟨N, hN⟩ : ∃ N, L.length = N := ⟨_, rfl⟩
  have HN : Hid (L.length = N) := hN
  have hNm : N * 24 ≤ 140737488355328 := by omega
  have HL : Hid (∀ k, k < N → (L.getD k []).length + 1024 ≤ 140737488355328) := fun k hk => by
    have : k < L.length := by omega
    rw [List.getD_eq_getElem?_getD, List.getElem?_eq_getElem this]
    exact hL _ (List.getElem_mem this)
  clear hN hsz hL
  go_enter Tryd.func15, Tryd.ntmps15
  go_wp2_with (refine wl_lit0 rfl rfl w.heap.size (Nat.le_refl _) ?_; intro v1 w1 o1 b1; have R1 : Hid (LvsIn w w1 v1 L 0) := ⟨o1, b1⟩; clear o1 b1)
  go_loopw [3, 4] (fun x i W => ∃ k : Nat, k ≤ N ∧ i = .int .i64 (k : Nat) ∧ LvsIn w W x L k) (fun _ i _ => N - (intOf i).toNat)
  case atStart => exact ⟨0, Nat.zero_le _, rfl, R1.out⟩
  case round =>
    clear R1
    obtain ⟨k, hk, rfl, hlv⟩ := hrel
    have HV : Hid (LvsIn w wr u3 L k) := hlv
    clear hlv
    by_cases hlt : k < N
    · have hlt' : (k : Int) < (N : Int) := by omega
      have HC : Hid ((L.getD k []).length + 1024 ≤ 140737488355328) := HL.out k hlt
      have HE : Hid (lvs L (k + 1) = lvs L k ++ [Tree.leaf (L.getD k [])]) := lvs_succ L k (by have := HN.out; omega)
      have HK : Hid (k < L.length) := by have := HN.out; show _ < _; omega
      have HVL : Hid ((lvs L k).length = k) := lvs_length L k (by have := HN.out; omega)
      generalize hc : L.getD k [] = c at HC HE
      have HCE : Hid (L.getD k [] = c) := hc
      clear hc
      go_wp2_with (first
        | (refine wl_rlen (.tmp 7) rfl rfl v L rfl h N HN.out ?_)
        | (refine wl_rindex (.tmp 13) (.tmp 14) rfl rfl v L rfl (h.later HV.out.2) k rfl HK.out ?_; intro b j vi hc hs; rw [HCE.out] at hs; have S1 : Hid (wr.cell? ⟨b, j, none⟩ = some vi ∧ SliceIn wr vi c) := ⟨hc, hs⟩; clear hc hs)
        | (refine wl_load1' one57 (.tmp 15) rfl rfl b j rfl vi S1.out.1 ?_)
        | (go_at_call 29; refine (refLeaf_any vi c wr S1.out.2 HC.out).mono ?_; rintro e w3 ⟨rfl, b3⟩; have R3 : Hid (Below wr.heap.size wr w3) := b3; clear b3)
        | (refine wl_lit1 (.tmp 17) rfl rfl (Tree.leaf c) (leaf_isH _) rfl ?_; intro v4 w4 s4 b4; have R4 : Hid (HIn w4 v4 [Tree.leaf c] ∧ Below wr.heap.size wr w4) := ⟨s4, below_append R3.out b4⟩; clear s4 b4)
        | (refine wl_push (.tmp 12) (.tmp 18) rfl rfl w.heap.size u3 v4 (lvs L k) (Tree.leaf c) rfl (HV.out.1.later R4.out.2 (Nat.le_refl _)) rfl R4.out.1 (by rw [HVL.out]; omega) (Nat.le_trans HV.out.2.size R4.out.2.size) ?_; intro v5 w5 o5 b5; have R5 : Hid (LvsIn w w5 v5 L (k + 1)) := ⟨by rw [HE.out]; exact o5, (below_append HV.out.2 R4.out.2).trans b5⟩; clear o5 b5))
      exact ⟨⟨k + 1, by omega, by go_num, R5.out⟩, by simp [intOf]; omega⟩
    · have hlt' : ¬ (k : Int) < (N : Int) := by omega
      have HE : Hid (k = L.length) := by have := HN.out; show _ = _; omega
      go_wp2_with (first
        | (refine wl_rlen (.tmp 7) rfl rfl v L rfl h N HN.out ?_))
      go_ret
      exact ⟨u3, rfl, by rw [← lvs_all, ← HE.out]; exact HV.out.1, HV.out.2⟩
end Go.Proofs.YtjdmpanemdhbbaaDoor

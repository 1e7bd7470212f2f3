/- The walk of the document's own Sum. -/
import Derived.Test.YtjdmpanemdhbbaaDoorRefLaws
namespace Go.Proofs.YtjdmpanemdhbbaaDoor
open Go.RowKit

theorem sliceIn_one (w : World) (X : Int) (c : Nat) (hX : X = (c : Nat)) (hc : c < 256) : SliceIn (w.alloc (.cells #[.int .u8 X] 5)) (.slice (some ⟨w.heap.size, 0, none⟩) 1 1) [c] := by
  subst hX
  have hr := Row.new w 5 [.int .u8 (c : Nat)]
  refine ⟨_, 1, rfl, ⟨Nat.le_refl _, by simp⟩, Or.inr ⟨w.heap.size, 0, rfl, fun j hj => ?_, fun j => ?_⟩⟩
  · have hj0 : j = 0 := by simp at hj; omega
    subst hj0
    exact hr.at 0 _ rfl
  · cases j with
    | zero => simpa using hc
    | succ j => simp
section
variable {w : World} {ops : Array Oper} {rest : List Oper} {o : Oper} {a : Act} {Q : Exit → Act → World → Prop}
theorem run_start : (Instr.buildSlice 73 8 #[(0, .int .u32 1779033703), (1, .int .u32 3144134277), (2, .int .u32 1013904242), (3, .int .u32 2773480762), (4, .int .u32 1359893119), (5, .int .u32 2600822924), (6, .int .u32 528734635), (7, .int .u32 1541459225)]).run Tryd.prog w = .ok (.slice (some ⟨w.heap.size, 0, none⟩) 8 8) (w.alloc (.cells (wcells Sha.start.list).toArray 65)) := by
  kernel_rfl
theorem wpList_start (hgd : o.guard = none) (ho : o.op = .buildSlice 73 8 #[(0, .const (.int .u32 1779033703)), (1, .const (.int .u32 3144134277)), (2, .const (.int .u32 1013904242)), (3, .const (.int .u32 2773480762)), (4, .const (.int .u32 1359893119)), (5, .const (.int .u32 2600822924)), (6, .const (.int .u32 528734635)), (7, .const (.int .u32 1541459225))])
    (h : ∀ w', VIn w' (.slice (some ⟨w.heap.size, 0, none⟩) 8 8) Sha.start → Below w.heap.size w w' → wpList Tryd.prog ops Q rest (a.put o.dst (.slice (some ⟨w.heap.size, 0, none⟩) 8 8)) w') : wpList Tryd.prog ops Q (o :: rest) a w :=
  wpList_value hgd _ _ (by simp [execOp, ho, Act.eval, run_start]) (h (w.alloc (.cells (wcells Sha.start.list).toArray 65)) (VIn.new w Sha.start) ((Below.refl _ _).alloc (Nat.le_refl _) _))
end
theorem VIn.later {W W' : World} {sv : Value} {v : Sha.W8} (h : VIn W sv v) (hb : Below W.heap.size W W') : VIn W' sv v := by
  obtain ⟨g, cap, h1, h2, h3⟩ := h
  exact ⟨g, cap, h1, Nat.lt_of_lt_of_le h2 hb.size, fun j hj => cell_later hb (h3 j hj)⟩

set_option maxHeartbeats 600000 in
set_option maxRecDepth 100000 in
theorem refSum_any (v : Value) (cs : List Nat) (w : World) (hv : SliceIn w v cs) (hlen : cs.length + 128 ≤ 140737488355328) :
    Calls Tryd.prog 34 #[v] w fun e w' => e = .returned (.agg (bcells (Sha.sha cs)).toArray) ∧ Below w.heap.size w w' := by
  have hby := hv.bytes
  go_enter Tryd.func34, Tryd.ntmps34
  go_upto_region 0 with fail
  refine wp_region_lit ?_
  refine wpList_alloc' (zerosU8 32) zero25 rfl rfl ?_
  intro w1 r1 s1 b1
  refine wpList_nil ?_
  go_upto_region 1 with fail
  refine wp_region_lit ?_
  refine wpList_litb0 rfl rfl ?_
  intro w2 o2 s2 b2
  refine wpList_move (.tmp 0) rfl rfl _ rfl ?_
  refine wpList_append_bytes (.tmp 10) (.tmp 11) rfl rfl w1.heap.size _ v [] cs rfl o2 rfl ((hv.later b1).later b2) (by simp; omega) (by omega) ?_
  intro v3 w3 o3 b3
  rw [List.nil_append] at o3
  go_upto_region 2 with fail
  refine wp_region_lit ?_
  refine wpList_move (.tmp 3) rfl rfl _ rfl ?_
  refine wpList_litb1 (.const (.int .u8 128)) rfl rfl 128 (by decide) rfl ?_
  intro w4 l4 s4 b4
  refine wpList_append_bytes (.tmp 13) (.tmp 14) rfl rfl w1.heap.size _ _ cs [128] rfl (o3.later b4 (Nat.le_refl _)) rfl l4 (by simp; omega) (by have := b2.size; have := b3.size; omega) ?_
  intro v5 w5 o5 b5
  have hbase : w1.heap.size ≤ w5.heap.size := by have := b2.size; have := b3.size; have := b5.size; omega
  have b15 : Below w1.heap.size w1 w5 := b2.trans (b3.trans ((b4.mono (by have := b2.size; have := b3.size; omega)).trans b5))
  have r5 : Row w5 w.heap.size 23 (zerosU8 32) := r1.later b15 (by omega)
  have hb5 : Below w.heap.size w w5 := b1.trans (b15.mono (by omega))
  obtain ⟨g2, hg2⟩ : ∃ g2, g2 = w.heap.size := ⟨_, rfl⟩
  obtain ⟨base, hbs⟩ : ∃ base, base = w1.heap.size := ⟨_, rfl⟩
  obtain ⟨z, hz⟩ : ∃ z, z = Sha.zeros cs.length := ⟨_, rfl⟩
  rw [← textTo_zero, ← hbs] at o5
  rw [← hg2] at r5 ⊢
  have hgb : g2 < base := by omega
  have HT : Hid (BOwn w5 base v5 (textTo cs 0) ∧ Row w5 g2 23 (zerosU8 32) ∧ Below w.heap.size w w5 ∧ base ≤ w5.heap.size) := ⟨o5, r5, hb5, by omega⟩
  have HG2 : Hid (g2 = w.heap.size) := hg2
  have HZ : Hid (z = Sha.zeros cs.length) := hz
  have hz2 : z < 64 ∧ (cs.length + 1 + z) % 64 = 56 := by rw [hz]; unfold Sha.zeros; omega
  obtain ⟨p, cap, rfl, hcap, _⟩ := hv
  clear o2 s2 b2 o3 b3 l4 s4 b4 o5 b5 hbase b15 r5 hb5 hg2 hbs hz r1 s1 b1
  go_wp2
  go_loopw [3] (fun st W => ∃ k : Nat, k ≤ z ∧ BOwn W base st (textTo cs k) ∧ Row W g2 23 (zerosU8 32) ∧ Below w.heap.size w W ∧ base ≤ W.heap.size) (fun st _ => cs.length + 1 + z - sliceLen st)
  case atStart => exact ⟨0, Nat.zero_le _, HT.out⟩
  case round =>
    clear HT
    obtain ⟨k, hk, ho, hr2, hbl, hbs⟩ := hrel
    obtain ⟨g, capt, rfl, _, _⟩ := ho.shape (by rw [textTo_length]; omega)
    have HO : Hid (BOwn wr base (.slice (some ⟨g, 0, none⟩) (textTo cs k).length capt) (textTo cs k)) := ho
    have HR2 : Hid (Row wr g2 23 (zerosU8 32)) := hr2
    have HBL : Hid (Below w.heap.size w wr ∧ base ≤ wr.heap.size) := ⟨hbl, hbs⟩
    rw [textTo_length] at HO ⊢
    clear ho hr2 hbl hbs
    by_cases hlt : k < z
    · have hne : ¬ ((cs.length + 1 + k : Nat) : Int) % 64 = 56 := by omega
      go_upto_region 4 with fail
      refine wp_region_lit ?_
      refine wpList_move (.tmp 3) rfl rfl _ rfl ?_
      refine wpList_litb1 (.const (.int .u8 0)) rfl rfl 0 (by decide) rfl ?_
      intro w6 l6 s6 b6
      refine wpList_append_bytes (.tmp 20) (.tmp 21) rfl rfl base _ _ (textTo cs k) [0] rfl (HO.out.later b6 (Nat.le_refl _)) rfl l6 (by rw [textTo_length]; simp; omega) (Nat.le_trans HBL.out.2 b6.size) ?_
      intro v' w' o' b'
      rw [← textTo_next] at o'
      obtain ⟨g', cap', rfl, _, _⟩ := o'.shape (by rw [textTo_length]; omega)
      have hm : sliceLen (.slice (some ⟨g', 0, none⟩) (textTo cs (k + 1)).length cap') = cs.length + 1 + (k + 1) := textTo_length cs (k + 1)
      have HM : Hid (sliceLen (.slice (some ⟨g', 0, none⟩) (textTo cs (k + 1)).length cap') = cs.length + 1 + (k + 1)) := hm
      have HO' : Hid (BOwn w' base (.slice (some ⟨g', 0, none⟩) (textTo cs (k + 1)).length cap') (textTo cs (k + 1))) := o'
      have HBL' : Hid (Below w.heap.size w w' ∧ base ≤ w'.heap.size ∧ Row w' g2 23 (zerosU8 32)) := ⟨HBL.out.1.trans ((b6.mono (HBL.out.1.size)).trans (b'.mono (by have := HG2.out; omega))), Nat.le_trans HBL.out.2 (Nat.le_trans b6.size b'.size), (HR2.out.later b6 HR2.out.lt).later b' hgb⟩
      clear hm o' b' l6 s6 b6
      go_wp2
      exact ⟨⟨k + 1, hlt, HO'.out, HBL'.out.2.2, HBL'.out.1, HBL'.out.2.1⟩, by rw [HM.out]; simp [sliceLen]; omega⟩
    · obtain rfl : k = z := by omega
      have heq : (((cs.length : Int) + 1 + (k : Int)) % 64 != 56) = false := by simp; omega
      have HO2 : Hid (BOwn wr base (.slice (some ⟨g, 0, none⟩) (cs.length + 1 + k) capt) (cs ++ endTo cs.length 0)) := by
        rw [← textTo_all, ← HZ.out]
        exact HO.out
      clear HO
      obtain ⟨L, hL⟩ : ∃ L, L = cs.length := ⟨_, rfl⟩
      have HL : Hid (L = cs.length) := hL
      rw [← hL] at heq hlen hcap hz2 ⊢
      clear hL
      have h8 : 8 * L < 18446744073709551616 := by omega
      go_wp2
      go_loopw [3, 5] (fun st i W => ∃ (ii : Int) (k : Nat), k ≤ 8 ∧ i = .int .i64 ii ∧ Hid (ii = 7 - (k : Int)) ∧ BOwn W base st (cs ++ endTo cs.length k) ∧ Row W g2 23 (zerosU8 32) ∧ Below w.heap.size w W ∧ base ≤ W.heap.size) (fun _ i _ => (intOf i + 1).toNat)
      case atStart => exact ⟨7, 0, by omega, rfl, rfl, by rw [HL.out]; exact HO2.out, HR2.out, HBL.out⟩
      case round =>
        clear HO2 HR2 HBL
        obtain ⟨ii, k, hk, rfl, HI, ho, hr2, hbl, hbs⟩ := hrel
        have HO : Hid (BOwn wr base u3 (cs ++ endTo cs.length k)) := ho
        have HR2 : Hid (Row wr g2 23 (zerosU8 32)) := hr2
        have HBL : Hid (Below w.heap.size w wr ∧ base ≤ wr.heap.size) := ⟨hbl, hbs⟩
        clear ho hr2 hbl hbs
        by_cases hlt : k < 8
        · have hi0 : 0 ≤ ii := by have := HI.out; omega
          have hi7 : ii ≤ 7 := by have := HI.out; omega
          have HC : Hid (8 * (L : Int) / 2 ^ (8 * ii).toNat % 256 = ((8 * cs.length / 2 ^ (8 * (7 - k)) % 256 : Nat) : Int)) := by
            show _ = _
            rw [show (8 * ii).toNat = 8 * (7 - k) by have := HI.out; omega, Int.natCast_emod, Int.natCast_ediv, Int.natCast_mul, Int.natCast_pow, HL.out]
            rfl
          have hel := endTo_length cs.length k hk
          have HBND : Hid ((cs ++ endTo cs.length k).length + 1 ≤ 140737488355328) := by
            show _ ≤ _
            have := HL.out
            have : Sha.zeros cs.length < 64 := by unfold Sha.zeros; omega
            rw [List.length_append, hel]
            omega
          clear hel
          go_wp2_with (at_builtin; refine wpList_append_bytes (.tmp 31) (.tmp 37) rfl rfl base u3 _ (cs ++ endTo cs.length k) [8 * cs.length / 2 ^ (8 * (7 - k)) % 256] rfl (HO.out.later ((Below.refl _ _).alloc (Nat.le_refl _) _) (Nat.le_refl _)) rfl (sliceIn_one wr _ _ HC.out (Nat.mod_lt _ (by decide))) HBND.out (Nat.le_trans HBL.out.2 (by simp)) ?_; intro v' w' o' b'; rw [List.append_assoc, ← endTo_next _ _ hlt] at o'; have HO' : Hid (BOwn w' base v' (cs ++ endTo cs.length (k + 1))) := o'; have HBL' : Hid (Below w.heap.size w w' ∧ base ≤ w'.heap.size ∧ Row w' g2 23 (zerosU8 32)) := ⟨(HBL.out.1.alloc HBL.out.1.size _).trans (b'.mono (by have := HG2.out; omega)), Nat.le_trans HBL.out.2 (Nat.le_trans (by simp) b'.size), (HR2.out.alloc _).later b' hgb⟩; clear o' b')
          exact ⟨⟨ii - 1, k + 1, by omega, rfl, (by have := HI.out; show _ = _; omega), HO'.out, HBL'.out.2.2, HBL'.out.1, HBL'.out.2.1⟩, by simp [intOf]; omega⟩
        · obtain rfl : k = 8 := by omega
          have hi0 : ii < 0 := by have := HI.out; omega
          have ho := HO.out
          rw [endTo_all] at ho
          obtain ⟨T, hT⟩ : ∃ T, T = cs ++ Sha.pad cs.length := ⟨_, rfl⟩
          have hTl : T.length % 64 = 0 := by rw [hT, List.length_append]; exact Sha.pad_fits _
          have hTb : ∀ j : Nat, T.getD j 0 < 256 := by rw [hT, ← endTo_all]; exact text_lt cs hby 8
          have hTpos : 0 < T.length := by rw [hT, List.length_append, Sha.pad_length]; omega
          have hTmax : T.length ≤ 140737488355328 := by
            have := HL.out
            have : Sha.zeros cs.length < 64 := by unfold Sha.zeros; omega
            rw [hT, List.length_append, Sha.pad_length]
            omega
          rw [← hT] at ho
          have HTT : Hid (T = cs ++ Sha.pad cs.length) := hT
          obtain ⟨gt, capt2, rfl, hcapt, hgt1, hgt2, hct⟩ := ho.shape hTpos
          have hbt : BytesIn wr gt 0 T := ⟨fun j hj => by rw [Nat.zero_add]; exact hct j hj, hTb⟩
          clear ho HO hT hct HI hby
          go_upto_region 10 with fail
          refine wp_region_lit ?_
          refine wpList_start rfl rfl ?_
          intro w6 vi6 b6
          have HV6 : Hid (VIn w6 (.slice (some ⟨wr.heap.size, 0, none⟩) 8 8) (Sha.runB T 0 Sha.start)) := vi6
          have HB6 : Hid (Below w.heap.size w w6 ∧ Row w6 g2 23 (zerosU8 32) ∧ BytesIn w6 gt 0 T) := ⟨HBL.out.1.trans (b6.mono HBL.out.1.size), HR2.out.later b6 HR2.out.lt, hbt.later b6⟩
          clear vi6 b6 HBL HR2 hbt hgt2 hgt1
          go_wp2
          go_loopw [6, 7] (fun sh i W => ∃ k K : Nat, Hid (K = 64 * k) ∧ K ≤ T.length ∧ i = .int .i64 K ∧ VIn W sh (Sha.runB T k Sha.start) ∧ Below w6.heap.size w6 W) (fun _ i _ => T.length - (intOf i).toNat)
          case atStart => exact ⟨0, 0, rfl, Nat.zero_le _, rfl, HV6.out, Below.refl _ _⟩
          case round =>
            clear HV6
            obtain ⟨k, K, HK, hKl, rfl, hv, hb7⟩ := hrel
            have HB7 : Hid (Below _ _ wr) := hb7
            by_cases hlt : K < T.length
            · obtain ⟨gh, caph, rfl, hgh, hch⟩ := hv
              have hK64 : K + 64 ≤ T.length := by have := HK.out; omega
              have hKi : (K : Int) < (T.length : Int) := by omega
              have hpl : ((T.drop K).take 64).length = 64 := by rw [List.length_take, List.length_drop]; omega
              have hbp : BytesIn wr gt K ((T.drop K).take 64) := by
                have hbw := HB6.out.2.2.later hb7
                refine ⟨fun j hj => ?_, fun j => ?_⟩
                · rw [hpl] at hj
                  have := hbw.1 (K + j) (by omega)
                  rw [Nat.zero_add] at this
                  rw [this]
                  simp [hj]
                · by_cases hj : j < 64
                  · have := hbw.2 (K + j)
                    simpa [hj] using this
                  · rw [List.getD_eq_getElem?_getD, List.getElem?_eq_none (by rw [hpl]; omega)]
                    decide
              have hcall := piece_any gh caph gt K (capt2 - K) (Sha.runB T k Sha.start) _ wr hch hpl hbp
              have HCALL : Hid (Calls Tryd.prog 44 #[.slice (some ⟨gh, 0, none⟩) 8 caph, .slice (some ⟨gt, K, none⟩) 64 (capt2 - K)] wr fun e w' => ∃ v', e = .returned v' ∧ WOwn w' wr.heap.size v' (Sha.comp (Sha.runB T k Sha.start) ((T.drop K).take 64)).list ∧ Below wr.heap.size wr w') := hcall
              have HN : Hid (Sha.runB T (k + 1) Sha.start = Sha.comp (Sha.runB T k Sha.start) ((T.drop K).take 64)) := by
                show _ = _
                rw [Sha.runB, HK.out]
              clear hcall hch hbp hpl hb7
              go_wp2_with (first | (go_at_call 44; refine HCALL.out.mono ?_; rintro e w' ⟨v', rfl, o', b'⟩) | (refine wpList_piece (.tmp 47) (.tmp 48) (.tmp 50) rfl rfl gt T.length capt2 K rfl rfl (K + 64) rfl rfl (Nat.le_trans hK64 hcapt) ?_))
              have hv2 : VIn w' v' (Sha.runB T (k + 1) Sha.start) := by
                rw [HN.out]
                exact o'.vIn
              exact ⟨⟨k + 1, K + 64, (by have := HK.out; show _ = _; omega), hK64, by go_num, hv2, HB7.out.trans (b'.mono HB7.out.size)⟩, by simp [intOf]; omega⟩
            · obtain rfl : K = T.length := by omega
              obtain ⟨V, hV⟩ : ∃ V, V = Sha.full T := ⟨_, rfl⟩
              have hkT : k = T.length / 64 := by have := HK.out; omega
              rw [hkT] at hv
              have hv2 : VIn wr u6 V := by
                rw [hV]
                exact hv
              obtain ⟨gh, caph, rfl, hgh, hch⟩ := hv2
              have hB8 := HB6.out.1.trans (hb7.mono HB6.out.1.size)
              have hR8 := HB6.out.2.1.later hb7 HB6.out.2.1.lt
              have HV : Hid (V = Sha.full T) := hV
              clear hv hV hkT HK HB6 HB7 hb7 hTb hTl hTpos
              go_upto_region 15 with fail
              refine wp_region_lit ?_
              refine wpList_build25 rfl rfl ?_
              refine wpList_alloc' (zerosU8 32) zero25 rfl rfl ?_
              intro w8 r8 s8 b8
              refine wpList_store0 agg25 (.tmp 8) (.tmp 53) rfl rfl rfl wr.heap.size 0 23 rfl (zerosU8 32) (zerosU8 32) rfl (by simp [zerosU8]) r8 (by simp) (by intro v hv; rw [(List.mem_replicate.1 hv).2]; rfl) ?_
              refine wpList_nil ?_
              rw [splice_all _ _ rfl]
              obtain ⟨g8, hg8⟩ : ∃ g8, g8 = wr.heap.size := ⟨_, rfl⟩
              have r9 := r8.setRow (zerosU8 32)
              have b9 := below_setRow (b8) (Nat.le_refl _) (zerosU8 32).toArray
              rw [← hg8] at r9 b9 ⊢
              generalize w8.setRow g8 (zerosU8 32).toArray = w9 at *
              rw [hg8] at b9
              have H9 : Hid (Row w9 g8 23 (fillB ((Sha.outBytes V).take 0) (32 - 0)) ∧ Row w9 g2 23 (zerosU8 32) ∧ Below w.heap.size w w9 ∧ (∀ j, j < 8 → w9.cell? ⟨gh, j, none⟩ = some (.int .u32 (Sha.U (V.list.getD j 0))))) := ⟨r9, hR8.later b9 hR8.lt, hB8.trans (b9.mono hB8.size), fun j hj => cell_later b9 (hch j hj)⟩
              have hne : g8 ≠ g2 := by have := hR8.lt; omega
              have hne2 : gh ≠ g8 := by omega
              have HLE : Hid (w.heap.size ≤ g8) := by show _ ≤ _; rw [hg8]; exact hB8.size
              clear r8 s8 b8 r9 b9 hg8 hR8 hB8 hch hgh
              go_wp2
              go_loopw [9] (fun i W => ∃ k : Nat, k ≤ 32 ∧ i = .int .i64 k ∧ Row W g8 23 (fillB ((Sha.outBytes V).take k) (32 - k)) ∧ Row W g2 23 (zerosU8 32) ∧ Below w.heap.size w W ∧ (∀ j, j < 8 → W.cell? ⟨gh, j, none⟩ = some (.int .u32 (Sha.U (V.list.getD j 0))))) (fun i _ => 32 - (intOf i).toNat)
              case atStart => exact ⟨0, Nat.zero_le _, rfl, H9.out⟩
              case round =>
                clear H9
                obtain ⟨k, hk, rfl, r8, r2, bl, hch⟩ := hrel
                have hol : (Sha.outBytes V).length = 32 := by rw [← outTo_all, outTo_length _ _ (Nat.le_refl _)]
                have htl : ((Sha.outBytes V).take k).length = k := by rw [List.length_take]; omega
                by_cases hlt : k < 32
                · obtain ⟨q, hq⟩ : ∃ q, q = k / 4 := ⟨_, rfl⟩
                  obtain ⟨r, hr⟩ : ∃ r, r = k % 4 := ⟨_, rfl⟩
                  have hq4 : (k : Int) / 4 = (q : Int) := by omega
                  have hr4 : (k : Int) % 4 = (r : Int) := by omega
                  obtain ⟨sh, hs⟩ : ∃ sh, sh = 24 - 8 * r := ⟨_, rfl⟩
                  have hs4 : (24 : Int) - 8 * (r : Int) = (sh : Int) := by omega
                  have hq8 : q < 8 := by omega
                  have hsle : sh ≤ 24 := by omega
                  have cq := hch q hq8
                  have HX : Hid ((Sha.outBytes V).take (k + 1) = (Sha.outBytes V).take k ++ [(V.list.getD q 0).toNat / 2 ^ sh % 256]) := by
                    show _ = _
                    have e : (Sha.outBytes V).getD k 0 = (V.list.getD q 0).toNat / 2 ^ sh % 256 := by rw [hq, hs, hr]; exact out_at V k hlt
                    rw [← e]
                    have hkl : k < (Sha.outBytes V).length := by omega
                    rw [List.take_succ_eq_append_getElem hkl]
                    simp [hkl]
                  have R8 : Hid (Row wr g8 23 (fillB ((Sha.outBytes V).take k) (32 - k))) := r8
                  have R2 : Hid (Row wr g2 23 (zerosU8 32)) := r2
                  have BL : Hid (Below w.heap.size w wr) := bl
                  have HCH : Hid (∀ j, j < 8 → wr.cell? ⟨gh, j, none⟩ = some (.int .u32 (Sha.U (V.list.getD j 0)))) := hch
                  have f8 := r8.frozen k
                  have HTL : Hid (((Sha.outBytes V).take k).length = k) := htl
                  obtain ⟨z8, e8⟩ : ∃ z, wr.cell? ⟨g8, k, none⟩ = some z := ⟨_, r8.at _ _ (List.getElem?_eq_getElem (by rw [fillB_length, htl]; omega))⟩
                  clear r8 r2 bl hch hq hr hs htl hol
                  generalize V.list.getD q 0 = x at *
                  go_wp2
                  refine ⟨⟨k + 1, by omega, by go_num, ?_, R2.out.setCell_other (fun h => hne h.symm) _ _, BL.out.setCell HLE.out _, fun j hj => ?_⟩, by simp [intOf]; omega⟩
                  · have h1 := R8.out.setCell k (.int .u8 (Sha.U x / 2 ^ sh % 256))
                    have e : Sha.U x / 2 ^ sh % 256 = ((x.toNat / 2 ^ sh % 256 : Nat) : Int) := by
                      unfold Sha.U
                      rw [Int.natCast_emod, Int.natCast_ediv, Int.natCast_pow]
                      rfl
                    have h2 := fillB_set ((Sha.outBytes V).take k) (32 - (k + 1)) (x.toNat / 2 ^ sh % 256)
                    rw [HTL.out, ← e, show 32 - (k + 1) + 1 = 32 - k by omega, ← HX.out] at h2
                    rw [h2] at h1
                    exact h1
                  · rw [World.cell?_setCell_other _ _ _ _ (fun h => hne2 (congrArg Addr.block h).symm)]
                    exact HCH.out j hj
                · obtain rfl : k = 32 := by omega
                  have r4 : Row wr g8 23 (bcells (Sha.sha cs)) := by
                    rw [List.take_of_length_le (by omega), HV.out, HTT.out] at r8
                    have h' : Row wr g8 23 (bcells (Sha.outBytes (Sha.full (cs ++ Sha.pad cs.length)))) := by simpa [fillB, zerosU8] using r8
                    exact h'
                  have hl32 : (bcells (Sha.sha cs)).length = 32 := by rw [bcells_length, sha_length]
                  clear r8 hch hol htl
                  go_upto_region 20 with fail
                  refine wp_region_lit ?_
                  refine wpList_load agg25 (.tmp 8) rfl rfl _ _ rfl (bcells (Sha.sha cs)) hl32 (fun j u hu => by rw [Nat.zero_add]; exact r4.at j u hu) ?_
                  refine wpList_store0 agg25 (.tmp 2) (.tmp 71) rfl rfl rfl g2 0 23 rfl (bcells (Sha.sha cs)) (zerosU8 32) rfl hl32 r2 (by rw [hl32]; simp [zerosU8]) (bcells_one _) ?_
                  refine wpList_nil ?_
                  rw [splice_all _ _ (by rw [hl32]; simp [zerosU8])]
                  have hr := r2.setRow (bcells (Sha.sha cs))
                  have hbl := below_setRow bl (show w.heap.size ≤ g2 by have := HG2.out; omega) (bcells (Sha.sha cs)).toArray
                  clear r2 bl r4
                  go_wp2
                  exact bodyPost_ret (results_cell agg25 Tryd.results34 _ _ g2 23 rfl _ hl32 hr) rfl ⟨rfl, hbl⟩
end Go.Proofs.YtjdmpanemdhbbaaDoor

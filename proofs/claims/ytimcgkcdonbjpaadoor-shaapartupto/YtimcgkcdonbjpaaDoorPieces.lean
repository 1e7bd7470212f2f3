/- The law ShaPieces, walked out of its callees' contracts. -/
import Derived.Test.YtimcgkcdonbjpaaDoorShown
namespace Go.Proofs.YtimcgkcdonbjpaaDoor
open Go.RowKit

/-- a slice of slices of bytes -/
def ListIn (w : World) (v : Value) (L : List (List Nat)) : Prop :=
  ∃ p cap, v = .slice p L.length cap ∧ L.length ≤ 9223372036854775807 ∧ (L = [] ∨ ∃ b off, p = some ⟨b, off, none⟩ ∧ ∀ i, i < L.length → ∃ vi, w.cell? ⟨b, off + i, none⟩ = some vi ∧ SliceIn w vi (L.getD i []))

theorem BOwn.only {w w' : World} {base g : Nat} {v : Value} {cs : List Nat} (h : BOwn w base v cs) (ho : Only g w w') (hb : g < base) : BOwn w' base v cs :=
  World.ownsRow.kept h (row := some g) ⟨ho.os, ho.tape, ho.output, ho.size, fun k hk hne => ho.block k hk (fun e => hne (by rw [e]))⟩ (Or.inr (fun e => by have := (h.lt g e).1; omega))
theorem BOwn.below {w w' : World} {base B : Nat} {v : Value} {cs : List Nat} (h : BOwn w base v cs) (hb : Below B w w') (hlt : ∀ k, v.ownBlock = some k → k < B) : BOwn w' base v cs := by
  refine ⟨h.1, ?_⟩
  rcases h.2 with h | ⟨g, cap, cur, h1, h2, h3, h4⟩
  · exact Or.inl h
  · exact Or.inr ⟨g, cap, cur, h1, h2, by rw [hb.block g (hlt g (by rw [h1]; rfl))]; exact h3, h4⟩
theorem BOwn.stored {w : World} {base g cap : Nat} {cs : List Nat} (h : BOwn w base (.slice (some ⟨g, 0, none⟩) cs.length cap) cs) (j x : Nat) : BOwn (w.setCell ⟨g, j, none⟩ (.int .u8 (x : Nat))) base (.slice (some ⟨g, 0, none⟩) cs.length cap) (cs.set j x) := by
  have := (World.ownsRow.stored h j (.int .u8 (x : Nat))).1
  unfold BOwn
  rw [List.length_set, show bcells (cs.set j x) = (bcells cs).set j (.int .u8 (x : Nat)) by simp [bcells]]
  exact this
theorem take_join (L : List (List Nat)) (n : Nat) (h : n < L.length) : (L.take (n + 1)).flatten = (L.take n).flatten ++ L.getD n [] := by
  rw [List.take_succ_eq_append_getElem h, List.flatten_append]
  simp [h]
theorem join_le (L : List (List Nat)) (n : Nat) : (L.take n).flatten.length ≤ L.flatten.length := by
  have h : L.flatten = (L.take n).flatten ++ (L.drop n).flatten := by rw [← List.flatten_append, List.take_append_drop]
  rw [h, List.length_append]
  omega
theorem join_lt (w : World) (L : List (List Nat)) (hb : ∀ i, i < L.length → ∃ vi, SliceIn w vi (L.getD i [])) (n : Nat) : ∀ j : Nat, (L.take n).flatten.getD j 0 < 256 := by
  apply lt256
  intro c hc
  obtain ⟨l, hl, hcl⟩ := List.mem_flatten.1 hc
  obtain ⟨i, hi, rfl⟩ := List.getElem_of_mem (List.mem_of_mem_take hl)
  obtain ⟨vi, hs⟩ := hb i hi
  obtain ⟨j, hj, rfl⟩ := List.getElem_of_mem hcl
  have := hs.bytes j
  simpa [hi, hj] using this

/-- where the law stands behind n pieces -/
def PIn (w W : World) (g base : Nat) (sa : Value) (m : List Nat) : Prop := StIn W g m ∧ BOwn W base sa m ∧ Below w.heap.size w W ∧ base ≤ W.heap.size

set_option maxHeartbeats 1000000 in
set_option maxRecDepth 100000 in
theorem pieces_any (v : Value) (L : List (List Nat)) (w : World) (hv : ListIn w v L) (ht : TabIn w) (hst : StartIn w) (hlen : L.flatten.length ≤ 1048576) (hL : L.length ≤ 1048576) :
    Calls Tryd.prog 4 #[v] w fun e w' => e = .returned (.bool true) ∧ Below w.heap.size w w' := by
  obtain ⟨p, cap, rfl, hmax, hrows⟩ := hv
  have hbytes : ∀ j : Nat, ∀ n, (L.take n).flatten.getD j 0 < 256 := by
    intro j n
    refine join_lt w L ?_ n j
    rcases hrows with rfl | ⟨b, off, rfl, hr⟩
    · intro i hi; simp at hi
    · intro i hi
      obtain ⟨vi, _, hs⟩ := hr i hi
      exact ⟨vi, hs⟩
  have h1lt := ht.lt
  go_enter Tryd.func4, Tryd.ntmps4
  go_wp2_with fail
  refine (shown_any _ ht hst).mono ?_
  rintro e w1 ⟨rfl, b1⟩
  have b1s := b1.size
  go_wp2_with fail
  refine (new_any w1 (hst.later b1)).mono ?_
  rintro e w2 ⟨rfl, st2, b2⟩
  obtain ⟨g, hg⟩ : ∃ g, g = w1.heap.size := ⟨_, rfl⟩
  rw [← hg] at st2 ⊢
  have hg2 := st2.lt
  have HG : Hid (g = w1.heap.size) := hg
  have hwg : w.heap.size ≤ g := by omega
  have hg1 : 1 < g := by omega
  clear hg
  go_upto_region 5 with fail
  refine wp_region_lit ?_
  refine wpList_litb0 rfl rfl ?_
  intro w3 o3 s3 b3
  obtain ⟨base, hbs⟩ : ∃ base, base = w2.heap.size := ⟨_, rfl⟩
  rw [← hbs] at o3 hg2 ⊢
  have HP : Hid (PIn w w3 g base (.slice (some ⟨base, 0, none⟩) 0 0) []) := ⟨st2.later b3 st2.lt, o3, b1.trans ((b2.mono b1.size).trans (b3.mono (Nat.le_trans b1.size b2.size))), by rw [hbs]; exact b3.size⟩
  clear o3 s3 b3 b2 st2 b1 hbs b1s h1lt HG
  go_wp2
  go_loopw [5, 6] (fun sa i W => ∃ n : Nat, n ≤ L.length ∧ i = .int .i64 n ∧ PIn w W g base sa (L.take n).flatten) (fun _ i _ => L.length - (intOf i).toNat)
  case atStart => exact ⟨0, Nat.zero_le _, rfl, HP.out⟩
  case round =>
    clear HP
    obtain ⟨n, hn, rfl, hp⟩ := hrel
    by_cases hlt : n < L.length
    · obtain ⟨b, off, rfl, hr⟩ : ∃ b off, p = some ⟨b, off, none⟩ ∧ ∀ i, i < L.length → ∃ vi, w.cell? ⟨b, off + i, none⟩ = some vi ∧ SliceIn w vi (L.getD i []) := by
        rcases hrows with rfl | h
        · simp at hlt
        · exact h
      obtain ⟨vi, hcell, hvi⟩ := hr n hlt
      have hblt := block_lt_of_cell hcell
      have HHP : Hid (PIn w wr g base u5 (L.take n).flatten) := hp
      have hc1 := cell_later hp.2.2.1 hcell
      have hb1 : b < wr.heap.size := Nat.lt_of_lt_of_le hblt hp.2.2.1.size
      have HC : Hid (w.cell? ⟨b, off + n, none⟩ = some vi ∧ SliceIn w vi (L.getD n [])) := ⟨hcell, hvi⟩
      have HJ : Hid ((L.take (n + 1)).flatten = (L.take n).flatten ++ L.getD n []) := take_join L n hlt
      have hjl := join_le L (n + 1)
      rw [HJ.out, List.length_append] at hjl
      have hcs := hvi.bytes
      have HBM : Hid (∀ j : Nat, (L.take n).flatten.getD j 0 < 256) := fun j => hbytes j n
      have HBM2 : Hid (∀ j : Nat, ((L.take n).flatten ++ L.getD n []).getD j 0 < 256) := by
        show ∀ j : Nat, _
        rw [← HJ.out]
        exact fun j => hbytes j (n + 1)
      have HV1 := hvi.later hp.2.2.1
      have HVI : Hid (SliceIn wr vi (L.getD n [])) := HV1
      have heq25 := eql25 (Sha.sha ((L.take n).flatten ++ L.getD n [])) (sha_length _)
      clear hp hr hcell hvi hbytes hrows HV1
      generalize hM : (L.take n).flatten = M at *
      generalize hcs0 : L.getD n [] = cs at *
      clear hM hcs0
      obtain ⟨B7, hB7⟩ : ∃ B7, B7 = wr.heap.size := ⟨_, rfl⟩
      have HB7 : Hid (B7 = wr.heap.size) := hB7
      go_wp2_with (at_builtin; refine wpList_append_bytes (.tmp 20) (.tmp 24) rfl rfl wr.heap.size _ vi [] cs rfl (BOwn.new wr _ (Nat.le_refl _)) rfl (HVI.out.later ((Below.refl _ _).alloc (Nat.le_refl _) _)) (by simp; omega) (by simp) ?_)
      intro v7 w5 o5 b5
      have bA : Below wr.heap.size wr w5 := ((Below.refl _ _).alloc (Nat.le_refl _) _).trans b5
      obtain ⟨p7, cap7, rfl, hcap7, _⟩ := o5.slice hcs
      have hst5 := HHP.out.1.later bA HHP.out.1.lt
      have hgB : g < wr.heap.size := HHP.out.1.lt
      have hall5 : BOwn w5 base u5 M := HHP.out.2.1.later bA (Nat.le_refl _)
      have b05 : Below w.heap.size w w5 := HHP.out.2.2.1.trans (bA.mono HHP.out.2.2.1.size)
      have hoff : SliceOff w5 g (.slice p7 cs.length cap7) cs := (o5.slice hcs).offNe (fun q k c h => by
        have h2 := o5.lt q.block (by rw [h]; rfl)
        omega)
      have hw := write_any g _ M cs w5 hst5 hoff (ht.later b05) hg1 (by omega)
      have HW : Hid (Calls Tryd.prog 11 #[.pointer (some ⟨g, 0, none⟩), .slice p7 cs.length cap7] w5 fun e w' => e = .returned noResult ∧ StIn w' g (M ++ cs) ∧ Only g w5 w') := hw
      have H5 : Hid (BOwn w5 B7 (.slice p7 cs.length cap7) cs ∧ BOwn w5 base u5 M ∧ Below w.heap.size w w5 ∧ base ≤ w5.heap.size ∧ g < B7) := ⟨by rw [hB7]; exact o5, hall5, b05, Nat.le_trans HHP.out.2.2.2 bA.size, by rw [hB7]; exact hgB⟩
      clear hw hoff b05 hall5 hst5 bA o5 b5 hc1 hB7 hgB
      go_wp2_with fail
      refine HW.out.mono ?_
      rintro e w6 ⟨rfl, st6, o6⟩
      have H6 : Hid (BOwn w6 B7 (.slice p7 cs.length cap7) cs ∧ StIn w6 g (M ++ cs) ∧ BOwn w6 base u5 M ∧ Below w.heap.size w w6 ∧ base ≤ w6.heap.size) := ⟨H5.out.1.only o6 H5.out.2.2.2.2, st6, H5.out.2.1.only o6 hg2, H5.out.2.2.1.trans (o6.below hwg H5.out.2.2.1.size), Nat.le_trans H5.out.2.2.2.1 o6.size⟩
      have hgB : g < B7 := H5.out.2.2.2.2
      clear st6 o6 H5 HW
      go_wp2
      go_loopw [8] (fun k W => ∃ (j : Nat) (xs : List Nat), j ≤ cs.length ∧ k = .int .i64 j ∧ xs.length = cs.length ∧ BOwn W B7 (.slice p7 cs.length cap7) xs ∧ StIn W g (M ++ cs) ∧ BOwn W base u5 M ∧ Below w.heap.size w W ∧ base ≤ W.heap.size) (fun k _ => cs.length - (intOf k).toNat)
      case atStart => exact ⟨0, cs, Nat.zero_le _, rfl, rfl, H6.out⟩
      case round =>
        clear H6
        obtain ⟨j, xs, hj, rfl, hxl, ho7, hst7, hall7, hb07, hbs7⟩ := hrel
        by_cases hjl2 : j < cs.length
        · obtain ⟨g7, cap7', heq, _, hg7, hg7w, hc7⟩ := ho7.shape (by omega)
          have hpe := (Value.slice.inj heq).1
          have hce := (Value.slice.inj heq).2.2
          subst hpe
          subst hce
          have c7 := hc7 j (by omega)
          rw [← hxl] at ho7
          have f7 := World.ownsRow.frozenAt ho7 j
          have HO7 : Hid (BOwn wr B7 (.slice (some ⟨g7, 0, none⟩) xs.length cap7) xs) := ho7
          have HR : Hid (StIn wr g (M ++ cs) ∧ BOwn wr base u5 M ∧ Below w.heap.size w wr ∧ base ≤ wr.heap.size) := ⟨hst7, hall7, hb07, hbs7⟩
          have HXL : Hid (xs.length = cs.length) := hxl
          have HBB := HB7.out
          have hall_ne : Hid (∀ k, u5.ownBlock = some k → k < B7) := fun k hk => by
            have := HHP.out.2.1.lt k hk
            omega
          clear ho7 hst7 hall7 hb07 hbs7 hc7 hxl heq HBB
          go_wp2
          refine ⟨⟨j + 1, xs.set j 99, by omega, by go_num, by rw [List.length_set]; exact HXL.out, ?_, ?_, ?_, ?_, ?_⟩, by simp [intOf]; omega⟩
          · have := HO7.out.stored j 99
            rw [HXL.out] at this
            exact this
          · exact HR.out.1.only ((Only.refl g7 wr).setCell j _) (by omega)
          · refine World.ownsRow.kept HR.out.2.1 (row := some g7) ⟨rfl, rfl, rfl, by simp, fun k _ hne => Below.heap_setCell wr _ _ k (fun e => hne (by rw [e]))⟩ (Or.inr (fun e => by have := hall_ne.out g7 e; omega))
          · exact HR.out.2.2.1.setCell (by show w.heap.size ≤ g7; omega) _
          · simpa using HR.out.2.2.2
        · have H8 : Hid (StIn wr g (M ++ cs) ∧ BOwn wr base u5 M ∧ Below w.heap.size w wr ∧ base ≤ wr.heap.size) := ⟨hst7, hall7, hb07, hbs7⟩
          have hc8 := cell_later hb07 HC.out.1
          have hb8 : b < wr.heap.size := Nat.lt_of_lt_of_le hblt hb07.size
          have HV8 : Hid (SliceIn wr vi cs) := HC.out.2.later hb07
          obtain rfl : j = cs.length := by omega
          clear ho7 hst7 hall7 hb07 hbs7 hxl HB7
          go_wp2_with (at_builtin; refine wpList_append_bytes (.tmp 38) (.tmp 42) rfl rfl base u5 vi M cs rfl H8.out.2.1 rfl HV8.out (by omega) H8.out.2.2.2 ?_)
          intro v9 w9 o9 b9
          have hv9 := o9.slice HBM2.out
          have H9 : Hid (PIn w w9 g base v9 (M ++ cs) ∧ SliceIn w9 v9 (M ++ cs)) := ⟨⟨H8.out.1.later b9 hg2, o9, H8.out.2.2.1.trans (b9.mono (by omega)), Nat.le_trans H8.out.2.2.2 b9.size⟩, hv9⟩
          clear hv9 o9 b9 H8 HV8 hc8 hb8
          by_cases h3 : n % 3 = 1
          · have h3i : (n : Int) % 3 = 1 := by omega
            go_wp2_with fail
            refine (stateSum_any g (M ++ cs) w9 H9.out.1.1 (ht.later H9.out.1.2.2.1) hg1 (by rw [List.length_append]; omega)).mono ?_
            rintro e w10 ⟨rfl, b10⟩
            go_wp2_with fail
            refine (refSum_any v9 (M ++ cs) w10 (H9.out.2.later b10) (by rw [List.length_append]; omega)).mono ?_
            rintro e w11 ⟨rfl, b11⟩
            have bb : Below w9.heap.size w9 w11 := b10.trans (b11.mono b10.size)
            have H11 : Hid (PIn w w11 g base v9 (M ++ cs)) := ⟨H9.out.1.1.later bb H9.out.1.1.lt, H9.out.1.2.1.later bb (Nat.le_refl _), H9.out.1.2.2.1.trans (bb.mono H9.out.1.2.2.1.size), Nat.le_trans H9.out.1.2.2.2 bb.size⟩
            clear bb b10 b11 H9
            go_wp2_with fail
            exact ⟨⟨n + 1, by omega, by go_num, by rw [HJ.out]; exact H11.out⟩, by simp [intOf]; omega⟩
          · have h3i : ((n : Int) % 3 == 1) = false := by simp; omega
            go_wp2_with fail
            exact ⟨⟨n + 1, by omega, by go_num, by rw [HJ.out]; exact H9.out.1⟩, by simp [intOf]; omega⟩
    · obtain rfl : n = L.length := by omega
      have heq25 := eql25 (Sha.sha (L.take L.length).flatten) (sha_length _)
      have hjl := join_le L L.length
      have HP : Hid (PIn w wr g base u5 (L.take L.length).flatten ∧ SliceIn wr u5 (L.take L.length).flatten) := ⟨hp, hp.2.1.slice (fun j => hbytes j L.length)⟩
      clear hp hbytes hrows
      generalize (L.take L.length).flatten = M at *
      go_wp2_with fail
      refine (stateSum_any g M wr HP.out.1.1 (ht.later HP.out.1.2.2.1) hg1 (by omega)).mono ?_
      rintro e w10 ⟨rfl, b10⟩
      go_wp2_with fail
      refine (refSum_any u5 M w10 (HP.out.2.later b10) (by omega)).mono ?_
      rintro e w11 ⟨rfl, b11⟩
      have bb : Below wr.heap.size wr w11 := b10.trans (b11.mono b10.size)
      have H11 : Hid (StIn w11 g M ∧ SliceIn w11 u5 M ∧ Below w.heap.size w w11) := ⟨HP.out.1.1.later bb HP.out.1.1.lt, HP.out.2.later bb, HP.out.1.2.2.1.trans (bb.mono HP.out.1.2.2.1.size)⟩
      clear bb b10 b11 HP
      go_wp2_with fail
      refine (stateSum_any g M w11 H11.out.1 (ht.later H11.out.2.2) hg1 (by omega)).mono ?_
      rintro e w12 ⟨rfl, b12⟩
      go_wp2_with fail
      refine (refSum_any u5 M w12 (H11.out.2.1.later b12) (by omega)).mono ?_
      rintro e w13 ⟨rfl, b13⟩
      have H13 : Hid (Below w.heap.size w w13) := H11.out.2.2.trans ((b12.trans (b13.mono b12.size)).mono H11.out.2.2.size)
      clear b12 b13 H11
      go_wp2_with fail
      go_ret
      exact ⟨rfl, H13.out⟩
end Go.Proofs.YtimcgkcdonbjpaaDoor

/- The walk of Grow.Add. -/
import Derived.Test.YtmjbjepmnjocjaaDoorGrowRoot
namespace Go.Proofs.YtmjbjepmnjocjaaDoor
open Go.RowKit

theorem Only.trans' {g : Nat} {a b c : World} (h : Only g a b) (k : Below a.heap.size b c) : Only g a c :=
  ⟨k.os.trans h.os, k.tape.trans h.tape, k.output.trans h.output, Nat.le_trans h.size k.size, fun i hi hne => (k.block i hi).trans (h.block i hi hne)⟩
theorem Kept.only {g : Nat} {k : Option Nat} {a b c : World} (h : Kept g k a b) (ho : Only g b c) : Kept g k a c :=
  ⟨ho.os.trans h.os, ho.tape.trans h.tape, ho.output.trans h.output, Nat.le_trans h.size ho.size, fun i hi hne hk => (ho.block i (Nat.lt_of_lt_of_le hi h.size) hne).trans (h.block i hi hne hk)⟩
section
variable {w : World} {ops : Array Oper} {rest : List Oper} {o : Oper} {a : Act} {Q : Exit → Act → World → Prop}
theorem wl_two0 {t : Nat} (hs : OneS t) (x y : Operand) (hgd : Region.wanted o (yielded ops a.tmps) = true) (hdst : o.dst = none) (ho : o.op = .store t x y) (g T : Nat) (u u' : Value) (hx : a.eval x = .pointer (some ⟨g, 0, none⟩)) (v : Value) (hy : a.eval y = v) (hv : OneV v) (hr : Row w g T [u, u'])
    (h : ∀ w', Row w' g T [v, u'] → Only g w w' → w'.heap.size = w.heap.size → wpList Tryd.prog ops Q rest a w') : wpList Tryd.prog ops Q (o :: rest) a w :=
  wlSkip hgd hdst _ (rx_store1 hs x y ho g 0 T [u, u'] hx v hy hv hr (by simp)) (h _ (hr.setRow _) ((Only.refl g w).setRow _) (by simp [World.setRow]))
theorem wl_two1 {t : Nat} (hs : OneS t) (x y : Operand) (hgd : Region.wanted o (yielded ops a.tmps) = true) (hdst : o.dst = none) (ho : o.op = .store t x y) (g T : Nat) (u u' : Value) (hx : a.eval x = .pointer (some ⟨g, 1, none⟩)) (v : Value) (hy : a.eval y = v) (hv : OneV v) (hr : Row w g T [u, u'])
    (h : ∀ w', Row w' g T [u, v] → Only g w w' → w'.heap.size = w.heap.size → wpList Tryd.prog ops Q rest a w') : wpList Tryd.prog ops Q (o :: rest) a w :=
  wlSkip hgd hdst _ (rx_store1 hs x y ho g 1 T [u, u'] hx v hy hv hr (by simp)) (h _ (hr.setRow _) ((Only.refl g w).setRow _) (by simp [World.setRow]))
theorem wl_cut (x y : Operand) (hgd : Region.wanted o (yielded ops a.tmps) = true) (ho : o.op = .slice 24 x none (some y) none) (base : Nat) (v : Value) (hs : List (List Nat)) (hx : a.eval x = v) (hin : HOwn w base v hs) (k : Nat) (hy : a.eval y = .int .i64 (k : Nat)) (hk : k < hs.length)
    (h : ∀ v', v'.ownBlock = v.ownBlock → HOwn w base v' (hs.take k) → wpList Tryd.prog ops Q rest (a.put o.dst v') w) : wpList Tryd.prog ops Q (o :: rest) a w := by
  obtain ⟨v', hr, hb, hv'⟩ := run_hcut hin k hk
  exact wl hgd _ _ (rx_sub x none (some y) ho v v' hx (by simpa [hy] using hr)) (h v' hb hv')
end
/-- where the loop stands -/
def AddTo (w W : World) (g g0 : Nat) (v0 : Value) (hs : List (List Nat)) (x : List Nat) (N n : Nat) : Prop :=
  ∃ (j : Nat) (A Bs : List (List Nat)) (v : Value), hs = A ++ Bs ∧ Bs.length + 1 = 2 ^ j ∧ A.length = n * 2 ^ j ∧ Row W g 53 [.int .i64 (N : Nat), v] ∧ HOwn W 2 v (Tree.peaks A) ∧ v.ownBlock = v0.ownBlock ∧ HIs W g0 (Tree.root (Bs ++ [x])) ∧ Only g w W
set_option maxHeartbeats 4000000 in
set_option maxRecDepth 100000 in
theorem add_any (g : Nat) (v0 : Value) (hs : List (List Nat)) (x : List Nat) (w : World) (h : GrowAt w g v0 hs) (hx : IsH x) (ht : TabIn w) (hst : StartIn w) (hg1 : 1 < g) (hmax : hs.length ≤ 1099511627776) :
    Calls Tryd.prog 24 #[.pointer (some ⟨g, 0, none⟩), hv x] w fun e w' => e = .returned noResult ∧ ∃ v', GrowAt w' g v' (hs ++ [x]) ∧ Kept g v0.ownBlock w w' ∧ (v'.ownBlock = v0.ownBlock ∨ ∀ k, v'.ownBlock = some k → w.heap.size ≤ k) := by
  obtain ⟨N, hN⟩ : ∃ N, N = hs.length := ⟨_, rfl⟩
  have HN : Hid (hs.length = N) := hN.symm
  have hN40 : N ≤ 1099511627776 := by omega
  have hglt := h.2.1.lt
  have hal := h.1
  obtain ⟨g0, hg0⟩ : ∃ g0, g0 = w.heap.size := ⟨_, rfl⟩
  have G0 : Hid (g0 = w.heap.size) := hg0
  have HE0 : Hid (v0.ownBlock ≠ some g) := h.2.2.2
  have HD0 : Hid (g ≠ g0 ∧ ∀ b, v0.ownBlock = some b → b ≠ g0) := ⟨by omega, fun b hb => by have := (h.2.2.1.2.lt b hb).2; omega⟩
  have HW : Hid (Row w g 53 [.int .i64 (N : Nat), v0] ∧ HOwn w 2 v0 (Tree.peaks hs)) := ⟨by have := h.2.1; rwa [← hN] at this, h.2.2.1⟩
  clear h
  go_enter Tryd.func24, Tryd.ntmps24
  go_upto_region 0 with fail
  refine wp_region_lit ?_
  refine wl_box (.tmp 1) rfl rfl x hx rfl ?_
  rw [← hg0]
  intro w1 r1 s1 b1
  refine wpList_nil ?_
  have R1 : Hid (AddTo w w1 g g0 v0 hs x N N) := ⟨0, hs, [], v0, (List.append_nil _).symm, rfl, by rw [hN, Nat.pow_zero, Nat.mul_one], HW.out.1.later b1 (by omega), HW.out.2.later b1 (by omega), rfl, by rw [List.nil_append, Tree.root_single]; exact r1, Only.of_below (hg0 ▸ b1)⟩
  have c0 : w1.cell? ⟨g, 0, none⟩ = some (.int .i64 (N : Nat)) := cell_later (hg0 ▸ b1) (HW.out.1.at 0 _ rfl)
  clear r1 s1 b1 hg0 hN hmax
  go_wp2_with fail
  go_loopw [4] (fun i W => ∃ n : Nat, n ≤ N ∧ i = .int .i64 (n : Nat) ∧ AddTo w W g g0 v0 hs x N n) (fun i _ => (intOf i).toNat)
  case atStart => exact ⟨N, Nat.le_refl _, rfl, R1.out⟩
  case round =>
    clear R1 c0 HW
    obtain ⟨n, hn, rfl, j, A, Bs, v, hAB, hBl, hAl, hrow, hown, hblk, hir, hon⟩ := hrel
    have HE : Hid (v.ownBlock = v0.ownBlock ∧ v0.ownBlock ≠ some g) := ⟨hblk, HE0.out⟩
    have HD : Hid (g ≠ g0 ∧ ∀ b, v.ownBlock = some b → b ≠ g0) := ⟨HD0.out.1, fun b hb => HD0.out.2 b (hblk ▸ hb)⟩
    rcases Nat.mod_two_eq_zero_or_one n with hpar | hpar
    · obtain ⟨q, rfl⟩ : ∃ q, n = 2 * q := ⟨n / 2, by omega⟩
      have HZ0 := Tree.add_end A Bs x j q hAl hBl
      rw [← hAB] at HZ0
      have HZ : Hid (Tree.peaks (hs ++ [x]) = Tree.peaks A ++ [Tree.root (Bs ++ [x])]) := HZ0
      have LP : Hid ((Tree.peaks A).length ≤ 41) := Tree.peaks_length 41 A (by have := congrArg List.length hAB; rw [List.length_append, HN.out] at this; omega)
      have HI : Hid (Row wr g 53 [.int .i64 (N : Nat), v] ∧ HOwn wr 2 v (Tree.peaks A) ∧ HIs wr g0 (Tree.root (Bs ++ [x])) ∧ Only g w wr ∧ True) := ⟨hrow, hown, hir, hon, trivial⟩
      clear HZ0 hAB hBl hAl hrow hown hblk hir hon
      generalize Tree.peaks A = ps at HZ LP HI
      generalize Tree.root (Bs ++ [x]) = r at HZ HI
      have hand : bits BinOp.and IntKind.i64 (((2 * q : Nat) : Int)) 1 = 0 := by rw [i64_and1]; omega
      generalize ((2 * q : Nat) : Int) = n' at hand ⊢
      go_wp2_with fail
      refine wp_region_until (S := fun W => Row W g 53 [.int .i64 (N : Nat), v] ∧ HIs W g0 r) 10 (by kernel_rfl) ?_
      show wpAnyU _ _ _ _ _ _ 11 (Array.replicate 11 false) _ _
      have hS : Row { wr with drawn := wr.drawn + 1 } g 53 [.int .i64 (N : Nat), v] ∧ HIs { wr with drawn := wr.drawn + 1 } g0 r := ⟨HI.out.1, HI.out.2.2.1⟩
      refine takeU (i := 0) (some 39) rfl rfl (by kernel_rfl) (by kernel_rfl) (by kernel_rfl) (by kernel_rfl) (by kernel_rfl) (fun _ _ _ h => h) (yMove rfl (.tmp 0) rfl (.pointer (some ⟨g, 0, none⟩)) rfl) hS ?_
      simp only [Act.put, List.setIfInBounds_toArray, List.set_cons_succ, List.set_cons_zero]
      refine takeU (i := 1) (some 40) rfl rfl (by kernel_rfl) (by kernel_rfl) (by kernel_rfl) (by kernel_rfl) (by kernel_rfl) (fun _ _ _ h => h) (yMove rfl (.tmp 0) rfl (.pointer (some ⟨g, 0, none⟩)) rfl) hS ?_
      simp only [Act.put, List.setIfInBounds_toArray, List.set_cons_succ, List.set_cons_zero]
      refine takeU (i := 2) (some 41) rfl rfl (by kernel_rfl) (by kernel_rfl) (by kernel_rfl) (by kernel_rfl) (by kernel_rfl) (fun _ _ _ h => h) (yRun rfl _ (fun _ _ => rx_nil (.tmp 40) rfl ⟨g, 0, none⟩ rfl)) hS ?_
      simp only [Act.put, List.setIfInBounds_toArray, List.set_cons_succ, List.set_cons_zero]
      refine takeU (i := 3) (some 42) rfl rfl (by kernel_rfl) (by kernel_rfl) (by kernel_rfl) (by kernel_rfl) (by kernel_rfl) (fun _ _ _ h => h) (yRun rfl _ (fun _ _ => rx_field f53_1 (.tmp 41) rfl g 0 rfl)) hS ?_
      simp only [Act.put, List.setIfInBounds_toArray, List.set_cons_succ, List.set_cons_zero]
      refine takeU (i := 4) (some 43) rfl rfl (by kernel_rfl) (by kernel_rfl) (by kernel_rfl) (by kernel_rfl) (by kernel_rfl) (fun _ _ _ h => h) (yRun rfl _ (fun W hW => rx_load1 one24 (.tmp 42) rfl g (0 + 1) rfl v (hW.1.at 1 v rfl))) hS ?_
      simp only [Act.put, List.setIfInBounds_toArray, List.set_cons_succ, List.set_cons_zero]
      refine takeU (i := 5) (some 44) rfl rfl (by kernel_rfl) (by kernel_rfl) (by kernel_rfl) (by kernel_rfl) (by kernel_rfl) (fun _ _ _ h => h) (yLoad rfl (.tmp 3) rfl (.pointer (some ⟨g0, 0, none⟩)) rfl r (fun _ h => h.2.at)) hS ?_
      simp only [Act.put, List.setIfInBounds_toArray, List.set_cons_succ, List.set_cons_zero]
      have P1 : Hid (Row { wr with drawn := wr.drawn + 1 } g 53 [.int .i64 (N : Nat), v] ∧ HOwn { wr with drawn := wr.drawn + 1 } 2 v ps ∧ HIs { wr with drawn := wr.drawn + 1 } g0 r ∧ Only g w { wr with drawn := wr.drawn + 1 } ∧ 2 ≤ wr.heap.size) := ⟨hS.1, HI.out.2.1, hS.2, HI.out.2.2.2.1.trans (Only.of_below (below_drawn wr _)), Nat.le_trans (Nat.succ_le_of_lt ht.lt) HI.out.2.2.2.1.size⟩
      clear hS
      generalize hwd : { wr with drawn := wr.drawn + 1 } = wd at P1 ⊢
      have hsd : wd.heap.size = wr.heap.size := by rw [← hwd]
      clear hwd
      refine oneU (i := 6) (by kernel_rfl) ?_
      refine opVal (some 45) rfl rfl rfl _ _ (rx_lit1 (.tmp 44) rfl r P1.out.2.2.1.1 rfl) ?_
      have b4 := below_alloc wd (.cells (bcells [r].flatten).toArray 27)
      have hl4 : HIn (wd.alloc (.cells (bcells [r].flatten).toArray 27)) (.slice (some ⟨wd.heap.size, 0, none⟩) 1 1) [r] := (hlit_own wd wd.heap.size (Nat.le_refl _) [r] (AllH.one P1.out.2.2.1.1) (by simp)).hin
      generalize wd.alloc (.cells (bcells [r].flatten).toArray 27) = w4 at b4 hl4 ⊢
      have P4 : Hid (Row w4 g 53 [.int .i64 (N : Nat), v] ∧ HOwn w4 2 v ps ∧ HIs w4 g0 r ∧ Only g w w4 ∧ 2 ≤ w4.heap.size) := ⟨P1.out.1.later b4 P1.out.1.lt, P1.out.2.1.later b4 (Nat.le_refl _), P1.out.2.2.1.next b4, P1.out.2.2.2.1.trans (Only.of_below b4), by have := b4.size; have := P1.out.2.2.2.2; omega⟩
      refine ⟨fun _ => ⟨P4.out.1, P4.out.2.2.1⟩, ?_⟩
      clear b4 P1 hsd
      simp only [Act.put, List.setIfInBounds_toArray, List.set_cons_succ, List.set_cons_zero]
      refine oneU (i := 7) (by kernel_rfl) ?_
      obtain ⟨v5, w5, hr5, o5, g5, l5⟩ := run_happend2 2 v _ ps [r] P4.out.2.1 hl4 (by simp) (by have := LP.out; simp only [List.length_cons, List.length_nil]; omega) P4.out.2.2.2.2
      refine opVal (some 46) rfl rfl rfl v5 w5 (rx_append (.tmp 43) (.tmp 45) rfl v _ v5 w5 rfl rfl hr5) ?_
      have P5 : Hid (Row w5 g 53 [.int .i64 (N : Nat), v] ∧ HOwn w5 2 v5 (ps ++ [r]) ∧ HIs w5 g0 r ∧ Kept g v0.ownBlock w w5 ∧ (v5.ownBlock = v0.ownBlock ∨ ∀ k, v5.ownBlock = some k → w.heap.size ≤ k) ∧ v5.ownBlock ≠ some g) := by
        refine ⟨?_, o5, ⟨P4.out.2.2.1.1, ?_⟩, ?_, ?_, ?_⟩
        · show w5.heap[g]? = _
          rw [g5.block g P4.out.1.lt (fun e => HE.out.2 (HE.out.1 ▸ e.symm))]
          exact P4.out.1
        · show w5.heap[g0]? = _
          rw [g5.block g0 P4.out.2.2.1.lt (fun e => HD.out.2 g0 e.symm rfl)]
          exact P4.out.2.2.1.2
        · refine ⟨g5.os.trans P4.out.2.2.2.1.os, g5.tape.trans P4.out.2.2.2.1.tape, g5.output.trans P4.out.2.2.2.1.output, Nat.le_trans P4.out.2.2.2.1.size g5.size, fun i hi hig hik => ?_⟩
          rw [g5.block i (Nat.lt_of_lt_of_le hi P4.out.2.2.2.1.size) (fun e => hik (by rw [← HE.out.1]; exact e.symm))]
          exact P4.out.2.2.2.1.block i hi hig
        · rcases l5 with l | l
          · exact Or.inl (l.trans HE.out.1)
          · exact Or.inr fun k hk => Nat.le_trans P4.out.2.2.2.1.size (l k hk)
        · rcases l5 with l | l
          · rw [l]
            exact HE.out.1 ▸ HE.out.2
          · intro e
            have := l g e
            have := P4.out.1.lt
            omega
      refine ⟨fun _ => ⟨P5.out.1, P5.out.2.2.1⟩, ?_⟩
      clear P4 o5 g5 hr5 hl4 l5
      simp only [Act.put, List.setIfInBounds_toArray, List.set_cons_succ, List.set_cons_zero]
      refine oneU (i := 8) (by kernel_rfl) ?_
      refine opVal (some 47) rfl rfl rfl _ w5 (rx_nil (.tmp 39) rfl ⟨g, 0, none⟩ rfl) ?_
      refine ⟨fun _ => ⟨P5.out.1, P5.out.2.2.1⟩, ?_⟩
      simp only [Act.put, List.setIfInBounds_toArray, List.set_cons_succ, List.set_cons_zero]
      refine oneU (i := 9) (by kernel_rfl) ?_
      refine opVal (some 48) rfl rfl rfl _ w5 (rx_field f53_1 (.tmp 47) rfl g 0 rfl) ?_
      refine ⟨fun _ => ⟨P5.out.1, P5.out.2.2.1⟩, ?_⟩
      simp only [Act.put, List.setIfInBounds_toArray, List.set_cons_succ, List.set_cons_zero]
      refine oneU (i := 10) (by kernel_rfl) ?_
      refine opSkip rfl rfl rfl _ (rx_store1 size24 (.tmp 48) (.tmp 46) rfl g (0 + 1) 53 _ rfl v5 rfl P5.out.2.1.one P5.out.1 (by simp)) ?_
      have o6 : Only g w5 (w5.setRow g (splice [.int .i64 (N : Nat), v] (0 + 1) [v5]).toArray) := (Only.refl g w5).setRow _
      have P6 : Hid (Row (w5.setRow g (splice [.int .i64 (N : Nat), v] (0 + 1) [v5]).toArray) g 53 [.int .i64 (N : Nat), v5] ∧ HOwn (w5.setRow g (splice [.int .i64 (N : Nat), v] (0 + 1) [v5]).toArray) 2 v5 (ps ++ [r]) ∧ Kept g v0.ownBlock w (w5.setRow g (splice [.int .i64 (N : Nat), v] (0 + 1) [v5]).toArray)) := ⟨P5.out.1.setRow _, own_kept P5.out.2.1 (fun b hb => o6.block b (P5.out.2.1.2.lt b hb).2 (fun e => P5.out.2.2.2.2.2 (by rw [← e]; exact hb))), P5.out.2.2.2.1.only o6⟩
      have L6 : Hid ((v5.ownBlock = v0.ownBlock ∨ ∀ k, v5.ownBlock = some k → w.heap.size ≤ k) ∧ v5.ownBlock ≠ some g) := P5.out.2.2.2.2
      refine ⟨fun h => absurd h (by decide), ?_⟩
      generalize w5.setRow g (splice [.int .i64 (N : Nat), v] (0 + 1) [v5]).toArray = w6 at P6 ⊢
      clear o6 P5
      refine wpAnyU_done (by kernel_rfl) ?_ _
      have c60 := P6.out.1.at 0 _ rfl
      go_wp2_with (first
        | (refine wl_two0 size3 (.tmp 55) (.tmp 53) rfl rfl rfl g 53 (.int .i64 (N : Nat)) v5 rfl _ rfl ⟨rfl, rfl⟩ P6.out.1 ?_; intro w7 r7 o7 s7; have P7 : Hid (Row w7 g 53 [.int .i64 ((N : Int) + 1), v5] ∧ HOwn w7 2 v5 (ps ++ [r]) ∧ Kept g v0.ownBlock w w7) := ⟨r7, own_kept P6.out.2.1 (fun b hb => o7.block b (P6.out.2.1.2.lt b hb).2 (fun e => L6.out.2 (by rw [← e]; exact hb))), P6.out.2.2.only o7⟩; clear r7 o7 s7 P6))
      go_end0
      refine ⟨rfl, v5, ⟨hal.append (AllH.one hx), ?_, ?_, L6.out.2⟩, P7.out.2.2, L6.out.1⟩
      · have e : ((hs ++ [x]).length : Int) = (N : Int) + 1 := by rw [List.length_append, HN.out]; simp
        rw [e]
        exact P7.out.1
      · rw [HZ.out]
        exact P7.out.2.1
    · obtain ⟨q, rfl⟩ : ∃ q, n = 2 * q + 1 := ⟨n / 2, by omega⟩
      obtain ⟨A', C, hA', hC, hAl', hpk, hrt, hBl'⟩ := Tree.add_step A Bs x j q hAl hBl
      obtain ⟨L, hL⟩ : ∃ L, (Tree.peaks A).length = L + 1 := ⟨(Tree.peaks A').length, by rw [hpk]; simp⟩
      have hL41 : L ≤ 1000000 := by
        have h1 := Tree.peaks_length 41 A (by have := congrArg List.length hAB; rw [List.length_append, HN.out] at this; omega)
        omega
      have hLt : (Tree.peaks A).take L = Tree.peaks A' := by
        have : L = (Tree.peaks A').length := by rw [hpk] at hL; simpa using hL.symm
        rw [hpk, this, List.take_left]
      have hLy : (Tree.peaks A).getD L [] = Tree.root C := by
        have : L = (Tree.peaks A').length := by rw [hpk] at hL; simpa using hL.symm
        rw [hpk, this]
        simp
      obtain ⟨p, hp1, hp2⟩ := run_hindex hown.hin L (by omega)
      rw [hLy] at hp2
      have HP : Hid ((∀ w', (Instr.indexAt 24 v (.int .i64 (L : Nat))).run Tryd.prog w' = .ok p w') ∧ HAt wr p (Tree.root C)) := ⟨hp1, hp2⟩
      have HI : Hid (Row wr g 53 [.int .i64 (N : Nat), v] ∧ HOwn wr 2 v (Tree.peaks A) ∧ HIs wr g0 (Tree.root (Bs ++ [x])) ∧ Only g w wr ∧ True) := ⟨hrow, hown, hir, hon, trivial⟩
      have HL : Hid ((Tree.peaks A).length = L + 1 ∧ (Tree.peaks A).take L = Tree.peaks A') := ⟨hL, hLt⟩
      have HR : Hid (Tree.root ((C ++ Bs) ++ [x]) = Tree.node (Tree.root C) (Tree.root (Bs ++ [x]))) := hrt
      have HQ : Hid (hs = A' ++ (C ++ Bs) ∧ (C ++ Bs).length + 1 = 2 ^ (j + 1) ∧ A'.length = q * 2 ^ (j + 1)) := ⟨by rw [hAB, hA', List.append_assoc], hBl', hAl'⟩
      have c1 := hrow.at 1 _ rfl
      have hin := hown.hin
      clear hpk hL hLt hLy hp1 hp2 hrow hown hir hon hrt hBl' hAl' hA' hC hAB hBl hAl hblk
      generalize Tree.peaks A = ps at HI HL hin
      generalize Tree.root C = y at HP HR
      generalize Tree.root (Bs ++ [x]) = r at HI HR
      have hand : bits BinOp.and IntKind.i64 (((2 * q + 1 : Nat) : Int)) 1 = 1 := by rw [i64_and1]; omega
      obtain ⟨n', hn'⟩ : ∃ n' : Int, n' = ((2 * q + 1 : Nat) : Int) := ⟨_, rfl⟩
      rw [← hn'] at hand ⊢
      have HN' : Hid (n' = 2 * (q : Int) + 1) := by show _ = _; omega
      have hnb : 0 ≤ n' ∧ n' ≤ 1099511627776 := by omega
      clear hn'
      go_wp2_with (first
        | (refine wl_lenN (.tmp 18) rfl rfl v ps rfl hin (L + 1) HL.out.1 ?_))
      refine wp_region_until (S := fun W => Row W g 53 [.int .i64 (N : Nat), v] ∧ HAt W p y ∧ HIs W g0 r) 9 (by kernel_rfl) ?_
      show wpAnyU _ _ _ _ _ _ 10 (Array.replicate 10 false) _ _
      have hS : Row { wr with drawn := wr.drawn + 1 } g 53 [.int .i64 (N : Nat), v] ∧ HAt { wr with drawn := wr.drawn + 1 } p y ∧ HIs { wr with drawn := wr.drawn + 1 } g0 r := ⟨HI.out.1, HP.out.2, HI.out.2.2.1⟩
      have hd : TabIn { wr with drawn := wr.drawn + 1 } ∧ StartIn { wr with drawn := wr.drawn + 1 } := ⟨HI.out.2.2.2.1.tab hg1 ht, HI.out.2.2.2.1.startIn hg1 hst⟩
      refine takeU (i := 0) (some 21) rfl rfl (by kernel_rfl) (by kernel_rfl) (by kernel_rfl) (by kernel_rfl) (by kernel_rfl) (fun _ _ _ h => h) (yMove rfl (.tmp 0) rfl (.pointer (some ⟨g, 0, none⟩)) rfl) hS ?_
      simp only [Act.put, List.setIfInBounds_toArray, List.set_cons_succ, List.set_cons_zero]
      refine takeU (i := 1) (some 22) rfl rfl (by kernel_rfl) (by kernel_rfl) (by kernel_rfl) (by kernel_rfl) (by kernel_rfl) (fun _ _ _ h => h) (yRun rfl _ (fun _ _ => rx_nil (.tmp 21) rfl ⟨g, 0, none⟩ rfl)) hS ?_
      simp only [Act.put, List.setIfInBounds_toArray, List.set_cons_succ, List.set_cons_zero]
      refine takeU (i := 2) (some 23) rfl rfl (by kernel_rfl) (by kernel_rfl) (by kernel_rfl) (by kernel_rfl) (by kernel_rfl) (fun _ _ _ h => h) (yRun rfl _ (fun _ _ => rx_field f53_1 (.tmp 22) rfl g 0 rfl)) hS ?_
      simp only [Act.put, List.setIfInBounds_toArray, List.set_cons_succ, List.set_cons_zero]
      refine takeU (i := 3) (some 24) rfl rfl (by kernel_rfl) (by kernel_rfl) (by kernel_rfl) (by kernel_rfl) (by kernel_rfl) (fun _ _ _ h => h) (yRun rfl _ (fun W hW => rx_load1 one24 (.tmp 23) rfl g (0 + 1) rfl v (hW.1.at 1 v rfl))) hS ?_
      simp only [Act.put, List.setIfInBounds_toArray, List.set_cons_succ, List.set_cons_zero]
      refine takeU (i := 4) (some 25) rfl rfl (by kernel_rfl) (by kernel_rfl) (by kernel_rfl) (by kernel_rfl) (by kernel_rfl) (fun _ _ _ h => h) (yMove rfl (.tmp 5) rfl (.int .i64 (L : Nat)) rfl) hS ?_
      simp only [Act.put, List.setIfInBounds_toArray, List.set_cons_succ, List.set_cons_zero]
      refine takeU (i := 5) (some 26) rfl rfl (by kernel_rfl) (by kernel_rfl) (by kernel_rfl) (by kernel_rfl) (by kernel_rfl) (fun _ _ _ h => h) (yIndex rfl (.tmp 24) (.tmp 25) rfl v p rfl _ rfl HP.out.1) hS ?_
      simp only [Act.put, List.setIfInBounds_toArray, List.set_cons_succ, List.set_cons_zero]
      refine takeU (i := 6) (some 27) rfl rfl (by kernel_rfl) (by kernel_rfl) (by kernel_rfl) (by kernel_rfl) (by kernel_rfl) (fun _ _ _ h => h) (yLoad rfl (.tmp 26) rfl p rfl y (fun _ h => h.2.1)) hS ?_
      simp only [Act.put, List.setIfInBounds_toArray, List.set_cons_succ, List.set_cons_zero]
      refine takeU (i := 7) (some 28) rfl rfl (by kernel_rfl) (by kernel_rfl) (by kernel_rfl) (by kernel_rfl) (by kernel_rfl) (fun _ _ _ h => h) (yLoad rfl (.tmp 3) rfl (.pointer (some ⟨g0, 0, none⟩)) rfl r (fun _ h => h.2.2.at)) hS ?_
      simp only [Act.put, List.setIfInBounds_toArray, List.set_cons_succ, List.set_cons_zero]
      refine oneU (i := 8) (by kernel_rfl) ?_
      refine opCallA (some 29) rfl rfl rfl 14 _ (run_call en14 [.tmp 27, .tmp 28] _ rfl [hv y, hv r] rfl) ?_
      refine (node_any y r HP.out.2.1 HI.out.2.2.1.1 _ hd.1 hd.2).mono ?_
      rintro e w2 ⟨rfl, b2⟩
      refine ⟨_, rfl, fun _ => ⟨hS.1.later b2 hS.1.lt, hS.2.1.later b2, hS.2.2.next b2⟩, ?_⟩
      have b12 : Below wr.heap.size wr w2 := below_append (below_drawn wr _) b2
      have P2 : Hid (Row w2 g 53 [.int .i64 (N : Nat), v] ∧ HOwn w2 2 v ps ∧ HIs w2 g0 r ∧ Only g w w2) := ⟨hS.1.later b2 hS.1.lt, HI.out.2.1.later b12 (Nat.le_refl _), hS.2.2.next b2, HI.out.2.2.2.1.trans (Only.of_below b12)⟩
      clear hS b2 b12 hd
      simp only [Act.put, List.setIfInBounds_toArray, List.set_cons_succ, List.set_cons_zero]
      refine oneU (i := 9) (by kernel_rfl) ?_
      refine opSkip rfl rfl rfl _ (rx_store (.tmp 3) (.tmp 29) rfl g0 rfl r (Tree.node y r) (node_isH _ _) rfl P2.out.2.2.1) ?_
      have o3 : Only g0 w2 (w2.setRow g0 (bcells (Tree.node y r)).toArray) := (Only.refl g0 w2).setRow _
      have P3 : Hid (Row (w2.setRow g0 (bcells (Tree.node y r)).toArray) g 53 [.int .i64 (N : Nat), v] ∧ HOwn (w2.setRow g0 (bcells (Tree.node y r)).toArray) 2 v ps ∧ HIs (w2.setRow g0 (bcells (Tree.node y r)).toArray) g0 (Tree.node y r) ∧ Only g w (w2.setRow g0 (bcells (Tree.node y r)).toArray)) := ⟨o3.row HD.out.1 P2.out.1, own_kept P2.out.2.1 (fun b hb => o3.block b (P2.out.2.1.2.lt b hb).2 (HD.out.2 b hb)), his_store (node_isH _ _) P2.out.2.2.1, P2.out.2.2.2.trans' (o3.below (Nat.le_of_eq G0.out.symm) P2.out.2.2.2.size)⟩
      refine ⟨fun h => absurd h (by decide), ?_⟩
      generalize w2.setRow g0 (bcells (Tree.node y r)).toArray = w3 at P3 ⊢
      clear o3 P2 HP
      refine wpAnyU_done (by kernel_rfl) ?_ _

      have c31 := P3.out.1.at 1 _ rfl
      go_wp2_with (first
        | (refine wl_cut (.tmp 34) (.tmp 35) rfl rfl 2 v ps rfl P3.out.2.1 L rfl (by have := HL.out.1; omega) ?_; intro v4 hb4 o4; rw [HL.out.2] at o4; have P4 : Hid (v4.ownBlock = v.ownBlock ∧ HOwn w3 2 v4 (Tree.peaks A')) := ⟨hb4, o4⟩; clear hb4 o4)
        | (refine wl_two1 size24 (.tmp 38) (.tmp 36) rfl rfl rfl g 53 (.int .i64 (N : Nat)) v rfl v4 rfl P4.out.2.one P3.out.1 ?_; intro w5 r5 o5 s5; have P5 : Hid (AddTo w w5 g g0 v0 hs x N q) := ⟨j + 1, A', C ++ Bs, v4, HQ.out.1, HQ.out.2.1, HQ.out.2.2, r5, own_kept P4.out.2 (fun b hb => o5.block b (P4.out.2.2.lt b hb).2 (fun e => HE.out.2 (by rw [← HE.out.1, ← P4.out.1, ← e]; exact hb))), P4.out.1.trans HE.out.1, by rw [HR.out]; exact P3.out.2.2.1.other o5 (Ne.symm HD.out.1), P3.out.2.2.2.trans o5⟩; clear r5 o5 s5 P3 P4))
      refine ⟨⟨q, by omega, ?_, P5.out⟩, ?_⟩
      · have := HN'.out
        congr 1
        omega
      · have := HN'.out
        simp [intOf]
        omega
end Go.Proofs.YtmjbjepmnjocjaaDoor

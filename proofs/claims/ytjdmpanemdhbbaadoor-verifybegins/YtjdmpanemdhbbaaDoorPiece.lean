/- The walk of the document's own piece. -/
import Derived.Test.YtjdmpanemdhbbaaDoorAppend
import Derived.Test.YtjdmpanemdhbbaaDoorHeadOne
namespace Go.Proofs.YtjdmpanemdhbbaaDoor
open Go.RowKit Go.Sort

section
variable {w : World} {ops : Array Oper} {rest : List Oper} {o : Oper} {a : Act} {Q : Exit → Act → World → Prop}
/-- a slice of one word -/
theorem run_lit1 (y : BitVec 32) : (Instr.buildSlice 73 1 #[(0, .int .u32 (Sha.U y))]).run Tryd.prog w = .ok (.slice (some ⟨w.heap.size, 0, none⟩) 1 1) (w.alloc (.cells (wcells [y]).toArray 65)) := by
  kernel_rfl
theorem wpList_lit1 (x : Operand) (hgd : o.guard = none) (ho : o.op = .buildSlice 73 1 #[(0, x)]) (y : BitVec 32) (hx : a.eval x = .int .u32 (Sha.U y))
    (h : ∀ w', Row w' w.heap.size 65 (wcells [y]) → w'.heap.size = w.heap.size + 1 → Below w.heap.size w w' → wpList Tryd.prog ops Q rest (a.put o.dst (.slice (some ⟨w.heap.size, 0, none⟩) 1 1)) w') : wpList Tryd.prog ops Q (o :: rest) a w :=
  wpList_value hgd _ _ (by simp [execOp, ho, hx, run_lit1]) (h (w.alloc (.cells (wcells [y]).toArray 65)) (Row.new w 65 _) (by simp) ((Below.refl _ _).alloc (Nat.le_refl _) _))
theorem run_lit0 : (Instr.buildSlice 73 0 #[]).run Tryd.prog w = .ok (.slice (some ⟨w.heap.size, 0, none⟩) 0 0) (w.alloc (.cells #[] 65)) := by
  kernel_rfl
theorem wpList_lit0 (hgd : o.guard = none) (ho : o.op = .buildSlice 73 0 #[])
    (h : ∀ w', WOwn w' w.heap.size (.slice (some ⟨w.heap.size, 0, none⟩) 0 0) [] → w'.heap.size = w.heap.size + 1 → Below w.heap.size w w' → wpList Tryd.prog ops Q rest (a.put o.dst (.slice (some ⟨w.heap.size, 0, none⟩) 0 0)) w') : wpList Tryd.prog ops Q (o :: rest) a w :=
  wpList_value hgd _ _ (by simp [execOp, ho, run_lit0]) (h (w.alloc (.cells #[] 65)) (WOwn.new w _ (Nat.le_refl _)) (by simp) ((Below.refl _ _).alloc (Nat.le_refl _) _))
end
theorem lit1_cells {w : World} {g : Nat} {y : BitVec 32} (h : Row w g 65 (wcells [y])) (j : Nat) (hj : j < [y].length) : w.cell? ⟨g, 0 + j, none⟩ = some (.int .u32 (Sha.U ([y].getD j 0))) := by
  rw [Nat.zero_add, h.cell]
  exact wcells_at [y] j hj

theorem rrotB_6 (x : BitVec 32) (w : World) :
    Calls Tryd.prog 51 #[.int .u32 (Sha.U x), .int .i64 6] w fun e w' => e = .returned (.int .u32 (Sha.U (Sha.rot x 6))) ∧ Below w.heap.size w w' :=
  (rrot_6 x w).mono fun e w' ⟨he, n, hw⟩ => ⟨he, by rw [hw]; exact Below.drewN (Below.refl _ _) n⟩
theorem rrotB_11 (x : BitVec 32) (w : World) :
    Calls Tryd.prog 51 #[.int .u32 (Sha.U x), .int .i64 11] w fun e w' => e = .returned (.int .u32 (Sha.U (Sha.rot x 11))) ∧ Below w.heap.size w w' :=
  (rrot_11 x w).mono fun e w' ⟨he, n, hw⟩ => ⟨he, by rw [hw]; exact Below.drewN (Below.refl _ _) n⟩
theorem rrotB_25 (x : BitVec 32) (w : World) :
    Calls Tryd.prog 51 #[.int .u32 (Sha.U x), .int .i64 25] w fun e w' => e = .returned (.int .u32 (Sha.U (Sha.rot x 25))) ∧ Below w.heap.size w w' :=
  (rrot_25 x w).mono fun e w' ⟨he, n, hw⟩ => ⟨he, by rw [hw]; exact Below.drewN (Below.refl _ _) n⟩
/-- eight words in a slice -/
def VIn (W : World) (sv : Value) (v : Sha.W8) : Prop := ∃ g cap, sv = .slice (some ⟨g, 0, none⟩) 8 cap ∧ g < W.heap.size ∧ ∀ j, j < 8 → W.cell? ⟨g, j, none⟩ = some (.int .u32 (Sha.U (v.list.getD j 0)))
theorem WOwn.vIn {W : World} {base : Nat} {sv : Value} {v : Sha.W8} (h : WOwn W base sv v.list) : VIn W sv v := by
  obtain ⟨g, cap, rfl, _, hg, hc⟩ := h.shape (by rw [Sha.W8.list_length]; decide)
  exact ⟨g, cap, rfl, hg, hc⟩
theorem WOwn.weaken {W : World} {base base' : Nat} {sv : Value} {ws : List (BitVec 32)} (h : WOwn W base sv ws) (hb : base' ≤ base) : WOwn W base' sv ws := by
  refine ⟨h.1, ?_⟩
  rcases h.2 with h | ⟨g, cap, cur, h1, h2, h3⟩
  · exact Or.inl h
  · exact Or.inr ⟨g, cap, cur, h1, Nat.le_trans hb h2, h3⟩
theorem VIn.new (W : World) (y : Sha.W8) : VIn (W.alloc (.cells (wcells y.list).toArray 65)) (.slice (some ⟨W.heap.size, 0, none⟩) 8 8) y :=
  ⟨W.heap.size, 8, rfl, by simp, fun j hj => by rw [(Row.new W 65 (wcells y.list)).cell]; exact wcells_at y.list j hj⟩
theorem t1_U2 (x : Sha.W8) (k w : BitVec 32) : ((Sha.U (x.h + (Sha.rot x.e 6 ^^^ Sha.rot x.e 11 ^^^ Sha.rot x.e 25)) + bits BinOp.xor IntKind.u32 (Sha.U (x.e &&& x.f)) (bits BinOp.and IntKind.u32 (bits BinOp.xor IntKind.u32 (if IntKind.u32.signed = true then -1 else IntKind.u32.max) (Sha.U x.e)) (Sha.U x.g)) + Sha.U k) % (4294967296 : Int) + Sha.U w) % (4294967296 : Int) = Sha.U (Sha.t1 x k w) := by
  rw [← t1_U]
  omega
theorem comp_at (h : Sha.W8) (p : List Nat) : ∀ k : Fin 8, (Sha.comp h p).list.getD k.val 0 = h.list.getD k.val 0 + (Sha.rnds p h 64).list.getD k.val 0 := by
  intro k
  unfold Sha.comp
  generalize Sha.rnds p h 64 = x
  match k with
  | 0 => rfl
  | 1 => rfl
  | 2 => rfl
  | 3 => rfl
  | 4 => rfl
  | 5 => rfl
  | 6 => rfl
  | 7 => rfl

attribute [local go_sem] Sha.U_xor Sha.U_add Sha.U_and U_shr3 U_shr10 in
set_option maxHeartbeats 600000 in
set_option maxRecDepth 100000 in
theorem piece_any (gh caph bb off capb : Nat) (h : Sha.W8) (p : List Nat) (w : World) (hh : ∀ j, j < 8 → w.cell? ⟨gh, j, none⟩ = some (.int .u32 (Sha.U (h.list.getD j 0)))) (hp : p.length = 64) (hb : BytesIn w bb off p) :
    Calls Tryd.prog 44 #[.slice (some ⟨gh, 0, none⟩) 8 caph, .slice (some ⟨bb, off, none⟩) 64 capb] w fun e w' => ∃ v', e = .returned v' ∧ WOwn w' w.heap.size v' (Sha.comp h p).list ∧ Below w.heap.size w w' := by
  have hw0 : WOwn (w.alloc (.cells #[] 65)) w.heap.size (.slice (some ⟨w.heap.size, 0, none⟩) 0 0) (Sha.sched p 0) := WOwn.new w _ (Nat.le_refl _)
  have hb0 : Below w.heap.size w (w.alloc (.cells #[] 65)) := (Below.refl _ _).alloc (Nat.le_refl _) _
  have HW : Hid (WOwn (w.alloc (.cells #[] 65)) w.heap.size (.slice (some ⟨w.heap.size, 0, none⟩) 0 0) (Sha.sched p 0) ∧ Below w.heap.size w (w.alloc (.cells #[] 65))) := ⟨hw0, hb0⟩
  have HH : Hid (∀ j, j < 8 → w.cell? ⟨gh, j, none⟩ = some (.int .u32 (Sha.U (h.list.getD j 0)))) := hh
  clear hw0 hb0 hh
  go_enter Tryd.func44, Tryd.ntmps44
  go_wp2
  go_loopw [5, 6] (fun sw i W => ∃ k : Nat, k ≤ 64 ∧ i = .int .i64 k ∧ WOwn W w.heap.size sw (Sha.sched p k) ∧ Below w.heap.size w W) (fun _ i _ => 64 - (intOf i).toNat)
  case atStart => exact ⟨0, Nat.zero_le _, rfl, HW.out.1, HW.out.2⟩
  case round =>
    clear HW
    obtain ⟨k, hk, rfl, hw, hbl⟩ := hrel
    by_cases hlt : k < 16
    · have HWO : Hid (WOwn wr w.heap.size u5 (Sha.sched p k)) := hw
      have HBL : Hid (Below w.heap.size w wr) := hbl
      have hby := hb.later hbl
      have c0 : wr.cell? ⟨bb, off + 4 * k, none⟩ = _ := hby.1 (4 * k) (by omega)
      have c1 : wr.cell? ⟨bb, off + (4 * k + 1), none⟩ = _ := hby.1 (4 * k + 1) (by omega)
      have c2 : wr.cell? ⟨bb, off + (4 * k + 2), none⟩ = _ := hby.1 (4 * k + 2) (by omega)
      have c3 : wr.cell? ⟨bb, off + (4 * k + 3), none⟩ = _ := hby.1 (4 * k + 3) (by omega)
      have hk64 : k < 64 := by omega
      have HS : Hid (Sha.sched p (k + 1) = Sha.sched p k ++ [Sha.word4 (p.getD (4 * k) 0) (p.getD (4 * k + 1) 0) (p.getD (4 * k + 2) 0) (p.getD (4 * k + 3) 0)]) := Sha.sched_low p k hlt
      have cw := word_cells k hlt wr bb off capb _ _ _ _ c0 c1 c2 c3
      clear c0 c1 c2 c3 hby hw hbl
      generalize p.getD (4 * k) 0 = b0 at *
      generalize p.getD (4 * k + 1) 0 = b1 at *
      generalize p.getD (4 * k + 2) 0 = b2 at *
      generalize p.getD (4 * k + 3) 0 = b3 at *
      have CW : Hid (Calls Tryd.prog 50 #[.slice (some ⟨bb, off, none⟩) 64 capb, .int .i64 (4 * k : Int)] wr fun e w' => e = .returned (.int .u32 (Sha.U (Sha.word4 b0 b1 b2 b3))) ∧ ∃ n, w' = wr.drewN n) := cw
      clear cw
      go_wp2_with (first
        | (go_at_call 50; refine CW.out.mono ?_; rintro e w' ⟨rfl, nn, rfl⟩)
        | (at_builtin; refine wpList_append_words (.tmp 24) (.tmp 29) rfl rfl w.heap.size u5 (Sha.sched p k) [Sha.word4 b0 b1 b2 b3] rfl ((HWO.out.drewN nn).later ((Below.refl _ _).alloc (Nat.le_refl _) _) (Nat.le_refl _)) wr.heap.size 0 1 rfl (fun j hj => ?cells) (by rw [Sha.sched_length]; simp; omega) (by have := HBL.out.size; simp; omega) ?next; case cells => (have hj0 : j = 0 := by simp at hj; omega); subst hj0; simp [World.drewN]))
      intro v' w' o' b'
      have HB' : Hid (Below w.heap.size w w') := HBL.out.trans (((Below.drewN (Below.refl _ wr) nn).alloc (by exact HBL.out.size) _).trans b')
      have HO' : Hid (WOwn w' w.heap.size v' (Sha.sched p (k + 1))) := by rw [HS.out]; exact o'
      clear o' b'
      go_wp2
      exact ⟨⟨k + 1, by omega, by go_num, HO'.out, HB'.out⟩, by simp [intOf]; omega⟩
    · by_cases hlt2 : k < 64
      · have HWO : Hid (WOwn wr w.heap.size u5 (Sha.sched p k)) := hw
        have HBL : Hid (Below w.heap.size w wr) := hbl
        obtain ⟨g, cap, rfl, _, _, hc⟩ := hw.shape (by rw [Sha.sched_length]; omega)
        have HX := Sha.sched_high p k (by omega)
        rw [Sha.sched_length] at hc HWO ⊢
        have c0 := hc (k - 16) (by omega)
        have c1 := hc (k - 15) (by omega)
        have c9 := hc (k - 7) (by omega)
        have c14 := hc (k - 2) (by omega)
        have HS : Hid (Sha.sched p (k + 1) = Sha.sched p k ++ [Sha.sm1 ((Sha.sched p k).getD (k - 2) 0) + (Sha.sched p k).getD (k - 7) 0 + Sha.sm0 ((Sha.sched p k).getD (k - 15) 0) + (Sha.sched p k).getD (k - 16) 0]) := HX
        have hk16 : 16 ≤ k := by omega
        clear hc HX hw hbl hk hlt hb
        generalize (Sha.sched p k).getD (k - 16) 0 = b0 at *
        generalize (Sha.sched p k).getD (k - 15) 0 = b1 at *
        generalize (Sha.sched p k).getD (k - 7) 0 = b9 at *
        generalize (Sha.sched p k).getD (k - 2) 0 = b14 at *
        go_wp2
        refine wp_region_headOne_drew 29 (.tmp 5) (by kernel_rfl) (by kernel_rfl) rfl rfl (fun _ _ _ h => h) ?_
        simp only [List.take_succ_cons, List.take_zero, List.drop_succ_cons, List.drop_zero]
        repeat (go_big_quiet_step (first | (go_at_call_of 51 (Value.int IntKind.i64 17); exact Calls.quiet_of (rrot_17 _ _)) | (go_at_call_of 51 (Value.int IntKind.i64 19); exact Calls.quiet_of (rrot_19 _ _)) | (go_at_call_of 51 (Value.int IntKind.i64 7); exact Calls.quiet_of (rrot_7 _ _)) | (go_at_call_of 51 (Value.int IntKind.i64 18); exact Calls.quiet_of (rrot_18 _ _))))
        refine wpQuiet_nil ?_
        intro _ hw'
        obtain ⟨nn, hw''⟩ := hw'
        subst hw''
        refine wpList_lit1 (.tmp 70) rfl rfl (Sha.sm1 b14 + b9 + Sha.sm0 b1 + b0) rfl ?_
        intro w1 r1 s1 bl1
        refine wpList_append_words (.tmp 41) (.tmp 71) rfl rfl w.heap.size _ (Sha.sched p k) [Sha.sm1 b14 + b9 + Sha.sm0 b1 + b0] rfl ((HWO.out.drewN nn).later bl1 (Nat.le_refl _)) _ 0 1 rfl (lit1_cells r1) (by rw [Sha.sched_length]; simp; omega) (by have := HBL.out.size; have : (wr.drewN nn).heap.size = wr.heap.size := rfl; omega) ?_
        intro v' w' o' b'
        refine wpList_assign (.tmp 72) rfl rfl _ rfl ?_
        refine wpList_nil ?_
        have HB' : Hid (Below w.heap.size w w') := HBL.out.trans ((Below.drewN (Below.refl _ wr) nn).trans ((bl1.mono HBL.out.size).trans b'))
        have HO' : Hid (WOwn w' w.heap.size v' (Sha.sched p (k + 1))) := by rw [HS.out]; exact o'
        clear o' b' r1 s1 bl1
        go_wp2
        exact ⟨⟨k + 1, by omega, by go_num, HO'.out, HB'.out⟩, by simp [intOf]; omega⟩
      · obtain rfl : k = 64 := by omega
        obtain ⟨gw, capw, rfl, hgw1, hgw2, hcw⟩ := hw.shape (by rw [Sha.sched_length]; omega)
        rw [Sha.sched_length] at hcw ⊢
        have hh := fun j hj => cell_later hbl (HH.out j hj)
        have HBL : Hid (Below w.heap.size w wr) := hbl
        have HCW : Hid (∀ j, j < 64 → wr.cell? ⟨gw, j, none⟩ = some (.int .u32 (Sha.U ((Sha.sched p 64).getD j 0)))) := hcw
        have HHR : Hid (∀ j, j < 8 → wr.cell? ⟨gh, j, none⟩ = some (.int .u32 (Sha.U (h.list.getD j 0)))) := hh
        clear hcw hh hbl hw hlt hlt2 hk hb HH
        go_upto_region 10 with fail
        refine wp_region_lit ?_
        refine wpList_lit0 rfl rfl ?_
        intro w0 o0 s0 b0
        refine wpList_move (.tmp 0) rfl rfl _ rfl ?_
        refine wpList_append_words (.tmp 73) (.tmp 74) rfl rfl wr.heap.size _ [] h.list rfl o0 gh 0 caph rfl (fun j hj => cell_later b0 (by rw [Nat.zero_add]; exact HHR.out j hj)) (by rw [Sha.W8.list_length]; decide) (by omega) ?_
        intro v1 w1 o1 b1
        refine wpList_assign (.tmp 75) rfl rfl _ rfl ?_
        refine wpList_nil ?_
        rw [List.nil_append] at o1
        have hv1 := o1.vIn
        have b2 : Below wr.heap.size wr w1 := b0.trans b1
        have HV1 : Hid (VIn w1 v1 (Sha.rnds p h 0)) := hv1
        have HB1 : Hid (Below wr.heap.size wr w1) := b2
        clear o1 b1 hv1 b2 o0 s0 b0
        go_wp2
        go_loopw [9, 10] (fun sv i W => ∃ k : Nat, k ≤ 64 ∧ i = .int .i64 k ∧ VIn W sv (Sha.rnds p h k) ∧ Below wr.heap.size wr W) (fun _ i _ => 64 - (intOf i).toNat)
        case atStart => exact ⟨0, Nat.zero_le _, rfl, HV1.out, HB1.out⟩
        case round =>
          clear HV1 HB1
          obtain ⟨k, hk, rfl, hv, hb1⟩ := hrel
          obtain ⟨gv, capv, rfl, hgv, hcv⟩ := hv
          by_cases hlt : k < 64
          · have HCV : Hid (∀ j, j < 8 → wr.cell? ⟨gv, j, none⟩ = some (.int .u32 (Sha.U ((Sha.rnds p h k).list.getD j 0)))) := hcv
            have cw : wr.cell? ⟨gw, k, none⟩ = _ := cell_later hb1 (HCW.out k hlt)
            have HBB : Hid (Below _ _ wr) := hb1
            have HR : Hid (Sha.rnds p h (k + 1) = Sha.rnd (Sha.rnds p h k) (Sha.kAt k) ((Sha.sched p 64).getD k 0)) := rfl
            have kw := cell_regrown cw
            clear hb1 cw
            generalize (Sha.sched p 64).getD k 0 = wk at *
            generalize hx : Sha.rnds p h k = x at *
            have v0 : wr.cell? ⟨gv, 0, none⟩ = some (.int .u32 (Sha.U x.a)) := hcv 0 (by decide)
            have v4 : wr.cell? ⟨gv, 4, none⟩ = some (.int .u32 (Sha.U x.e)) := hcv 4 (by decide)
            have k5 := cell_regrown (show wr.cell? ⟨gv, 5, none⟩ = some (.int .u32 (Sha.U x.f)) from hcv 5 (by decide))
            have k6 := cell_regrown (show wr.cell? ⟨gv, 6, none⟩ = some (.int .u32 (Sha.U x.g)) from hcv 6 (by decide))
            have k7 := cell_regrown (show wr.cell? ⟨gv, 7, none⟩ = some (.int .u32 (Sha.U x.h)) from hcv 7 (by decide))
            clear hcv
            have cK : Hid (∀ d os, Calls Tryd.prog 52 #[.int .i64 (k : Int)] (grow (redrawn wr d) os) fun e w'' => e = .returned (.int .u32 (Sha.U (Sha.kAt k))) ∧ ∃ p : Regrown, w'' = grow (redrawn wr p.d) p.os) := fun d os => Calls.regrown_of (const_any k hlt _)
            generalize Sha.kAt k = kk at *
            have HX : Hid (Sha.rnds p h k = x) := hx
            clear hx
            go_wp2
            refine wp_region_quiet_below (by kernel_rfl) (by kernel_rfl) ?_
            repeat (go_big_quiet_step (first | (go_at_call 52; exact cK.out _ _) | (go_at_call_of 51 (Value.int IntKind.i64 6); exact Calls.regrown_of (rrotB_6 _ _)) | (go_at_call_of 51 (Value.int IntKind.i64 11); exact Calls.regrown_of (rrotB_11 _ _)) | (go_at_call_of 51 (Value.int IntKind.i64 25); exact Calls.regrown_of (rrotB_25 _ _))))
            refine wpQuiet_nil ?_
            intro _ hw'
            obtain ⟨⟨dq, osq⟩, hw''⟩ := hw'
            subst hw''
            rw [t1_U2]
            have hb3 := below_regrown wr dq osq
            have hcv3 := fun j hj => cell_later hb3 (HCV.out j hj)
            clear kw k5 k6 k7 cK v0 v4
            dsimp only
            generalize grow (redrawn wr dq) osq = w3 at *
            have v1 : w3.cell? ⟨gv, 1, none⟩ = some (.int .u32 (Sha.U x.b)) := hcv3 1 (by decide)
            have v2 : w3.cell? ⟨gv, 2, none⟩ = some (.int .u32 (Sha.U x.c)) := hcv3 2 (by decide)
            have v3 : w3.cell? ⟨gv, 3, none⟩ = some (.int .u32 (Sha.U x.d)) := hcv3 3 (by decide)
            have v5 : w3.cell? ⟨gv, 5, none⟩ = some (.int .u32 (Sha.U x.f)) := hcv3 5 (by decide)
            have v6 : w3.cell? ⟨gv, 6, none⟩ = some (.int .u32 (Sha.U x.g)) := hcv3 6 (by decide)
            have HB3 : Hid (Below wr.heap.size wr w3) := hb3
            clear hcv3 hb3
            go_wp2
            go_quiet (first | (go_at_call_of 51 (Value.int IntKind.i64 2); exact Calls.quiet_of (rrot_2 _ _)) | (go_at_call_of 51 (Value.int IntKind.i64 13); exact Calls.quiet_of (rrot_13 _ _)) | (go_at_call_of 51 (Value.int IntKind.i64 22); exact Calls.quiet_of (rrot_22 _ _)))
            go_wp2
            refine wp_region_head_drew 22 (by kernel_rfl) (by kernel_rfl) ?_
            simp only [List.take_succ_cons, List.take_zero, List.drop_succ_cons, List.drop_zero]
            repeat (go_big_quiet_step (fail))
            refine wpQuiet_nil ?_
            intro _ hw'
            obtain ⟨nq2, hw''⟩ := hw'
            subst hw''
            go_wp2
            refine ⟨⟨k + 1, by omega, by go_num, ?_, HBB.out.trans ((Below.drewN (HB3.out.mono HBB.out.size) _).alloc (Nat.le_trans HBB.out.size HB3.out.size) _)⟩, by simp [intOf]; omega⟩
            rw [HR.out]
            exact VIn.new (w3.drewN (nq + nq2)) (Sha.rnd x kk wk)
          · obtain rfl : k = 64 := by omega
            have HBB : Hid (Below _ _ wr) := hb1
            have hh := fun j hj => cell_later hb1 (HHR.out j hj)
            have HHJ : Hid (∀ j, j < 8 → wr.cell? ⟨gh, j, none⟩ = some (.int .u32 (Sha.U (h.list.getD j 0)))) := hh
            have HVJ : Hid (∀ j, j < 8 → wr.cell? ⟨gv, j, none⟩ = some (.int .u32 (Sha.U ((Sha.rnds p h 64).list.getD j 0)))) := hcv
            have hsz := Nat.le_trans HBL.out.size hb1.size
            clear hh hcv hb1 HHR HCW hk hlt hgv
            go_upto_region 19 with fail
            refine wp_region_lit ?_
            refine wpList_lit0 rfl rfl ?_
            intro w5 o5 s5 b5
            refine wpList_assign (.tmp 170) rfl rfl _ rfl ?_
            refine wpList_nil ?_
            have HO5 : Hid (WOwn w5 wr.heap.size (.slice (some ⟨wr.heap.size, 0, none⟩) 0 0) ((Sha.comp h p).list.take 0)) := o5
            have HB5 : Hid (Below wr.heap.size wr w5) := b5
            clear o5 s5 b5
            go_wp2
            go_loopw [15, 16] (fun so i W => ∃ k : Nat, k ≤ 8 ∧ i = .int .i64 k ∧ WOwn W wr.heap.size so ((Sha.comp h p).list.take k) ∧ Below wr.heap.size wr W) (fun _ i _ => 8 - (intOf i).toNat)
            case atStart => exact ⟨0, Nat.zero_le _, rfl, HO5.out, HB5.out⟩
            case round =>
              clear HO5 HB5
              obtain ⟨k, hk, rfl, ho, hb6⟩ := hrel
              by_cases hlt : k < 8
              · have HO : Hid (WOwn wr _ u15 ((Sha.comp h p).list.take k)) := ho
                have HB6 : Hid (Below _ _ wr) := hb6
                have ch := cell_later hb6 (HHJ.out k hlt)
                have cv := cell_later hb6 (HVJ.out k hlt)
                have HN : Hid ((Sha.comp h p).list.take (k + 1) = (Sha.comp h p).list.take k ++ [h.list.getD k 0 + (Sha.rnds p h 64).list.getD k 0]) := by
                  have hl : k < (Sha.comp h p).list.length := hlt
                  have := comp_at h p ⟨k, hlt⟩
                  show _ = _
                  rw [List.take_succ_eq_append_getElem hl]
                  congr 2
                  rw [← this]
                  simp [hl]
                clear ho hb6
                generalize h.list.getD k 0 = bh at *
                generalize (Sha.rnds p h 64).list.getD k 0 = bv at *
                go_wp2
                refine wp_region_headOne_drew 9 (.tmp 15) (by kernel_rfl) (by kernel_rfl) rfl rfl (fun _ _ _ h => h) ?_
                simp only [List.take_succ_cons, List.take_zero, List.drop_succ_cons, List.drop_zero]
                repeat (go_big_quiet_step (fail))
                refine wpQuiet_nil ?_
                intro _ hw'
                obtain ⟨nn, hw''⟩ := hw'
                subst hw''
                refine wpList_lit1 (.tmp 184) rfl rfl (bh + bv) rfl ?_
                intro w7 r7 s7 bl7
                refine wpList_append_words (.tmp 175) (.tmp 185) rfl rfl _ _ ((Sha.comp h p).list.take k) [bh + bv] rfl ((HO.out.drewN nn).later bl7 (Nat.le_refl _)) _ 0 1 rfl (lit1_cells r7) (by simp [Sha.W8.list_length]; omega) (Nat.le_trans HB6.out.size bl7.size) ?_
                intro v' w' o' b'
                refine wpList_assign (.tmp 186) rfl rfl _ rfl ?_
                refine wpList_nil ?_
                have HB' : Hid (Below _ _ w') := HB6.out.trans ((Below.drewN (Below.refl _ wr) nn).trans ((bl7.mono HB6.out.size).trans b'))
                rw [← HN.out] at o'
                have HO' : Hid (WOwn w' _ v' ((Sha.comp h p).list.take (k + 1))) := o'
                clear o' b' r7 s7 bl7
                go_wp2
                exact ⟨⟨k + 1, by omega, by go_num, HO'.out, HB'.out⟩, by simp [intOf]; omega⟩
              · obtain rfl : k = 8 := by omega
                rw [List.take_of_length_le (Nat.le_of_eq (Sha.W8.list_length _))] at ho
                have HO : Hid (WOwn wr w.heap.size u15 (Sha.comp h p).list) := ho.weaken hsz
                have HBF : Hid (Below w.heap.size w wr) := HBL.out.trans ((HBB.out.mono HBL.out.size).trans (hb6.mono hsz))
                clear ho hb6
                go_wp2
                go_ret
                exact ⟨_, rfl, HO.out, HBF.out⟩
end Go.Proofs.YtjdmpanemdhbbaaDoor

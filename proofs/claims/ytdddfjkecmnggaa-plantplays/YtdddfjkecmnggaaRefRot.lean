/- The document's own plant: Rot. -/
import Derived.Test.YtdddfjkecmnggaaRefFlush
import Derived.Test.YtdddfjkecmnggaaRot
namespace Go.Proofs.Ytdddfjkecmnggaa
open Go.RowKit Go.Maps

section
variable {w w0 : World} {ops : Array Oper} {rest : List Oper} {o : Oper} {a : Act} {Q : Exit → Act → World → Prop}
theorem wl_cv35 (x : Operand) (hgd : Region.wanted o (yielded ops a.tmps) = true) (ho : o.op = .convert 3 5 x) (n : Int) (hx : a.eval x = .int .i64 n) (h : wpList Try.prog ops Q rest (a.put o.dst (.int .u8 (byte8 n : Nat))) w) : wpList Try.prog ops Q (o :: rest) a w := wl hgd _ w (by simp [execOp, ho, hx, run_conv35]) h
theorem wl_xor8 (x y : Operand) (hgd : Region.wanted o (yielded ops a.tmps) = true) (ho : o.op = .binOp .xor 5 x y 5) (m n : Nat) (hm : m < 256) (hn : n < 256) (hx : a.eval x = .int .u8 (m : Nat)) (hy : a.eval y = .int .u8 (n : Nat)) (h : wpList Try.prog ops Q rest (a.put o.dst (.int .u8 ((m ^^^ n : Nat) : Int))) w) : wpList Try.prog ops Q (o :: rest) a w := wl hgd _ w (by
    have e : (eqGuard .xor 5 x y (.int .u8 (m : Nat)) (.int .u8 (n : Nat))).run Try.prog w = .ok () w := rfl
    simp [execOp, ho, hx, hy, e, run_xor8 w m n hm hn]) h
theorem wl_ix {t : TypeId} (x i : Operand) (hgd : Region.wanted o (yielded ops a.tmps) = true) (ho : o.op = .indexAddr t x i) (v p I : Value) (hx : a.eval x = v) (hi : a.eval i = I) (hr : ∀ w', (Instr.indexAt t v I).run Try.prog w' = .ok p w') (h : wpList Try.prog ops Q rest (a.put o.dst p) w) : wpList Try.prog ops Q (o :: rest) a w := wl hgd p w (run_idx x i ho v p I hx hi hr) h
end
theorem bcells_set (s : List Nat) (a n : Nat) : (bcells s).set a (.int .u8 (n : Nat)) = bcells (s.set a n) := by
  unfold bcells
  rw [List.map_set]
/-- new blocks, of which one is never written again -/
theorem RefAt.recol {w W : World} {c : Nat → Colour} {t g : Nat} {vd vt hv wv : Value} {ds ts : List Int} {m : Pl} (h : RefAt w c t g vd vt hv wv ds ts m) (hb : Below w.heap.size w W) (b6 : Nat) (h6 : w.heap.size ≤ b6) : RefAt W (fun b => if b = b6 then (1, 0) else c b) t g vd vt hv wv ds ts m :=
  h.same (fun b hlt _ => ⟨hb.block b hlt, if_neg (by omega)⟩) hb.size
theorem NextA.recol {w W w' : World} {c : Nat → Colour} {t g : Nat} {vd vt hv wv : Value} {ds ts : List Int} {m : Pl} (hfr : ∀ b, w.heap.size ≤ b → (c b).1 = t + 1) (hb : Below w.heap.size w W) (b6 : Nat) (h6 : w.heap.size ≤ b6) (h : NextA W (fun b => if b = b6 then (1, 0) else c b) t g vd vt hv wv ds ts m w') : NextA w c t g vd vt hv wv ds ts m w' := by
  obtain ⟨c', h1, h2, h3, h4, h5⟩ := h
  refine ⟨c', fun b hlt => ?_, fun b hge => ?_, h3, h4, (Ch.of_below hb).trans' h5 fun b hlt e => ?_⟩
  · rw [h1 b (Nat.lt_of_lt_of_le hlt hb.size)]
    exact if_neg (by omega)
  · rcases Nat.lt_or_ge b W.heap.size with hlt | hge'
    · rw [h1 b hlt]
      dsimp only
      by_cases e : b = b6
      · rw [if_pos e]; exact Or.inr (Or.inr rfl)
      · rw [if_neg e]; exact Or.inr (Or.inl (hfr b hge))
    · exact h2 b hge'
  · have e2 : (fun b => if b = b6 then ((1, 0) : Colour) else c b) b = c b := if_neg (by omega)
    rw [← e2]
    exact e
/-- one sector is another one -/
theorem RefAt.put {W : World} {c : Nat → Colour} {t g : Nat} {vd vt hv wv : Value} {ds ts : List Int} {m : Pl} (h : RefAt W c t g vd vt hv wv ds ts m) (ht1 : t ≠ 1) (hfr : ∀ b, W.heap.size ≤ b → (c b).1 = t + 1) (i p : Nat) (hin : i < m.n) (us : List Value) (ho1 : W.ownsRow 0 57 1 hv m.n us) (ho2 : ∀ j, j < m.n → RowOf W c (t, 3 + j) (us.getD j undef) (m.fl j)) (br : Nat) (hbr : (us.getD i undef).ownBlock = some br) (hp : p < (m.fl i).length) (u : Value) (s : List Nat) (hu : RO W c u s) :
    NextA W c t g vd vt hv wv ds ts { m with fl := upd m.fl i ((m.fl i).set p s) } (W.setCell ⟨br, p, none⟩ u) := by
  obtain ⟨⟨xs, hr1, hr2⟩, hr3⟩ := ho2 i hin
  have hcb := hr3 br hbr
  obtain ⟨hown2, hg2⟩ := own_set hr1 br hbr p u
  have hch : Ch (fun b => (c b).1 = t) W (W.setCell ⟨br, p, none⟩ u) := (Ch.refl _ _).setCell (Or.inl (by rw [hcb])) p u
  have hsz : (W.setCell ⟨br, p, none⟩ u).heap.size = W.heap.size := World.size_setCell W _ _
  have hblk : ∀ b, b ≠ br → (W.setCell ⟨br, p, none⟩ u).heap[b]? = W.heap[b]? := fun b hne => Below.heap_setCell W ⟨br, p, none⟩ u b hne
  have hkept : KeptC (fun x => x.1 = 1 ∨ (x.1 = t ∧ x ≠ (t, 1) ∧ x ≠ (t, 3 + i))) W c (W.setCell ⟨br, p, none⟩ u) c := ⟨fun b hb hK => ⟨hblk b (by
    rintro rfl
    rw [hcb] at hK
    rcases hK with h | h
    · exact ht1 h
    · exact h.2.2 rfl), rfl⟩, by omega⟩
  refine ⟨c, fun _ _ => rfl, fun b hb => Or.inr (Or.inl (hfr b hb)), fun b hb => hfr b (by omega), ?_, hch⟩
  have hbh : ∀ b, hv.ownBlock = some b → (W.setCell ⟨br, p, none⟩ u).heap[b]? = W.heap[b]? := fun b hb => hblk b (by
    rintro rfl
    have := h.has.2 b hb
    rw [hcb] at this
    simp at this
    omega)
  refine h.rowSet i _ us hkept (ownK ho1 hbh) h.has.2 (fun j hj _ => ho2 j hj) fun _ => ?_
  have hKu : ∀ x, (fun x : Colour => x.1 = 1 ∨ (x.1 = t ∧ x ≠ (t, 1) ∧ x ≠ (t, 3 + i))) (1, x) := fun x => Or.inl rfl
  refine ⟨⟨xs.set p u, by rw [List.length_set]; exact hown2, fun k hk => ?_⟩, hr3⟩
  rw [List.length_set] at hk
  have hxl : xs.length = (m.fl i).length := by have := hr1.1; omega
  by_cases hkp : k = p
  · subst hkp
    simp only [List.getD_eq_getElem?_getD, List.getElem?_set_self (show k < xs.length by omega), List.getElem?_set_self hk, Option.getD_some]
    exact hu.k hkept hKu
  · simp only [List.getD_eq_getElem?_getD, List.getElem?_set_ne (show p ≠ k by omega)]
    have := (hr2 k hk).k hkept hKu
    simpa only [List.getD_eq_getElem?_getD] using this
set_option maxHeartbeats 4000000 in
set_option maxRecDepth 100000 in
theorem refRot_ok {w : World} {c : Nat → Colour} {t g : Nat} {vd vt hv wv : Value} {ds ts : List Int} {m : Pl} (h : RefAt w c t g vd vt hv wv ds ts m) (hwf : m.WF) (ht1 : t ≠ 1) (hfr : ∀ b, w.heap.size ≤ b → (c b).1 = t + 1) (i p a : Nat) (hin : i < m.n) (hp : p < (m.fl i).length) (ha : a < 64) (y : Int) :
    Calls Try.prog 28 #[ptr g, .int .i64 (i : Nat), .int .i64 (p : Nat), .int .i64 (a : Nat), .int .i64 y] w fun e w' => e = .returned (.bool true) ∧ NextA w c t g vd vt hv wv ds ts (m.rotted i p (turned ((m.fl i).getD p zeros) a y)) w' := by
  have hH := refHas' h.row h.disks.1 h.tapes.1 h.shape (i : Int)
  have hhas : m.has (i : Int) := ⟨by omega, by omega⟩
  rw [decide_eq_true hhas] at hH
  have HH : Hid (Calls Try.prog 48 #[ptr g, .int .i64 (i : Nat)] w fun e w' => e = .returned (.bool true) ∧ Below w.heap.size w w') := hH
  obtain ⟨⟨us, ho1, ho2⟩, ho3⟩ := h.has
  obtain ⟨⟨xs, hr1, hr2⟩, hr3⟩ := ho2 i hin
  obtain ⟨left, hleft, hrow⟩ := h.row
  obtain ⟨bh, hbh, hih, hch⟩ := own_index ho1 Try.underlying53 s57 i hin
  obtain ⟨br, hbr, hir, hcr⟩ := own_index hr1 Try.underlying57 s40 p hp
  obtain ⟨cur, hcur, hcl⟩ := own_row hr1 br hbr
  rw [Nat.mul_one] at hih hir
  have hs40 : (m.fl i).getD p zeros = (m.fl i).getD p [] := by simp [List.getD_eq_getElem?_getD, hp]
  have hro : RO w c (xs.getD p undef) ((m.fl i).getD p zeros) := by rw [hs40]; exact hr2 p hp
  have hsec : Sec ((m.fl i).getD p zeros) := hwf.secs i _ (by rw [List.getD_eq_getElem?_getD, List.getElem?_eq_getElem hp]; exact List.getElem_mem hp)
  have HA : Hid (RefAt w c t g vd vt hv wv ds ts m) := h
  have HF : Hid (∀ b, w.heap.size ≤ b → (c b).1 = t + 1) := hfr
  have HIH : Hid (∀ w', (Instr.indexAt 53 hv (.int .i64 (i : Nat))).run Try.prog w' = .ok (.pointer (some ⟨bh, i, none⟩)) w') := hih
  have HIR : Hid (∀ w', (Instr.indexAt 57 (us.getD i undef) (.int .i64 (p : Nat))).run Try.prog w' = .ok (.pointer (some ⟨br, p, none⟩)) w') := hir
  have HCH : Hid (w.cell? ⟨bh, i, none⟩ = some (us.getD i undef)) := by have := hch 0 (by decide); rw [Nat.add_zero, Nat.mul_one] at this; show _ = _; rw [this]; have hl := hasK ho1; simp [show i < us.length by omega]
  have HCR : Hid (w.cell? ⟨br, p, none⟩ = some (xs.getD p undef)) := by have := hcr 0 (by decide); rw [Nat.add_zero, Nat.mul_one] at this; show _ = _; rw [this]; have hl : xs.length = (m.fl i).length := (by have := hr1.1; omega); simp [show p < xs.length by omega]
  have HLT : Hid (g < w.heap.size ∧ bh < w.heap.size ∧ br < w.heap.size) := ⟨hrow.lt, (ho1.lt bh hbh).2, (hr1.lt br hbr).2⟩
  have HROW : Hid (w.cell? ⟨g, 2, none⟩ = some hv) := hrow.at 2 _ rfl
  have HRL : Hid (∃ n xs, w.ownsRow 0 40 1 (us.getD i undef) n xs ∧ n = (m.fl i).length) := ⟨_, _, hr1, rfl⟩
  have HCUR : Hid (Row w br 40 cur ∧ p < cur.length) := ⟨hcur, by omega⟩
  have HRO : Hid (RO w c (xs.getD p undef) ((m.fl i).getD p zeros)) := hro
  have HUS : Hid (w.ownsRow 0 57 1 hv m.n us ∧ (∀ j, j < m.n → RowOf w c (t, 3 + j) (us.getD j undef) (m.fl j)) ∧ (us.getD i undef).ownBlock = some br) := ⟨ho1, ho2, hbr⟩
  have HSEC : Hid (Sec ((m.fl i).getD p zeros)) := hsec
  obtain ⟨F, hF⟩ : ∃ F, F = (m.fl i).length := ⟨_, rfl⟩
  have HFL : Hid (F = (m.fl i).length) := hF
  rw [← hF] at HRL
  have hpF : p < F := by rw [hF]; exact hp
  have hpF' : decide ((F : Int) ≤ (p : Int)) = false := decide_eq_false (by omega)
  have hp0 : decide ((p : Int) < 0) = false := decide_eq_false (by omega)
  have ha0 : decide ((a : Int) < 0) = false := decide_eq_false (by omega)
  have ha64 : decide ((64 : Int) ≤ (a : Int)) = false := decide_eq_false (by omega)
  obtain ⟨rv, hrv⟩ : ∃ rv, rv = us.getD i undef := ⟨_, rfl⟩
  have HRV : Hid (rv = us.getD i undef) := hrv
  rw [← hrv] at HIR HCH HRL
  obtain ⟨uv, huv⟩ : ∃ uv, uv = xs.getD p undef := ⟨_, rfl⟩
  rw [← huv] at HCR HRO
  obtain ⟨s, hs⟩ : ∃ s, s = (m.fl i).getD p zeros := ⟨_, rfl⟩
  rw [← hs] at HRO HSEC ⊢
  clear h hH ho1 ho2 ho3 hr1 hr2 hr3 hleft hrow hbh hih hch hbr hir hcr hcur hcl hs40 hro hsec hF hrv huv hs hhas hfr hwf
  obtain ⟨nF, xF, hown, hnF⟩ := HRL.out
  have HRW : Hid (w.ownsRow 0 40 1 rv F xF) := by rw [← hnF]; exact hown
  clear hown hnF HRL
  go_enter Try.func28, Try.ntmps28
  go_upto_region 3 with ((first
    | (go_at_call 48; refine (HH.out).mono ?_; rintro e w1 ⟨rfl, b1⟩; have B1 : Hid (Below w.heap.size w w1) := b1; have k2 : w1.cell? ⟨g, 2, none⟩ = some hv := (by rw [b1.cell (by show g < _; exact HLT.out.1)]; exact HROW.out); clear b1)
    | (refine wl_ix (.tmp 25) (.tmp 26) rfl rfl hv (.pointer (some ⟨bh, i, none⟩)) _ rfl rfl HIH.out ?_)
    | (refine wl_ld o57 (.tmp 27) rfl rfl bh i rfl rv (by rw [B1.out.cell (by show bh < _; exact HLT.out.2.1)]; exact HCH.out) ?_)
    | (refine wl_olen (.tmp 28) 57 rfl rfl sl57 rv rfl HRW.out ?_)); try simp only [Act.put, List.setIfInBounds_toArray, List.set_cons_succ, List.set_cons_zero])
  refine wp_region_lit ?_
  refine wl_none rfl rfl ?_; intro w2 r2 s2 b2; have R2 : Hid (Row w2 w1.heap.size 5 [] ∧ Below w.heap.size w w2) := ⟨r2, B1.out.trans (b2.mono B1.out.size)⟩; generalize w1.heap.size = gz at R2 ⊢; clear r2 s2 b2
  simp only [Act.put, List.setIfInBounds_toArray, List.set_cons_succ, List.set_cons_zero]
  refine wl_mv (.tmp 0) rfl rfl (ptr g) rfl ?_
  simp only [Act.put, List.setIfInBounds_toArray, List.set_cons_succ, List.set_cons_zero]
  refine wl_nil (.tmp 41) rfl rfl ⟨g, 0, none⟩ rfl ?_
  simp only [Act.put, List.setIfInBounds_toArray, List.set_cons_succ, List.set_cons_zero]
  refine wl_fld f56_h (.tmp 42) rfl rfl g 0 rfl ?_
  simp only [Act.put, List.setIfInBounds_toArray, List.set_cons_succ, List.set_cons_zero]
  refine wl_ld o53 (.tmp 43) rfl rfl g (0 + 2) rfl hv (by rw [R2.out.2.cell (by show g < _; exact HLT.out.1)]; exact HROW.out) ?_
  simp only [Act.put, List.setIfInBounds_toArray, List.set_cons_succ, List.set_cons_zero]
  refine wl_mv (.tmp 1) rfl rfl (.int .i64 (i : Nat)) rfl ?_
  simp only [Act.put, List.setIfInBounds_toArray, List.set_cons_succ, List.set_cons_zero]
  refine wl_ix (.tmp 44) (.tmp 45) rfl rfl hv (.pointer (some ⟨bh, i, none⟩)) _ rfl rfl HIH.out ?_
  simp only [Act.put, List.setIfInBounds_toArray, List.set_cons_succ, List.set_cons_zero]
  refine wl_ld o57 (.tmp 46) rfl rfl bh i rfl rv (by rw [R2.out.2.cell (by show bh < _; exact HLT.out.2.1)]; exact HCH.out) ?_
  simp only [Act.put, List.setIfInBounds_toArray, List.set_cons_succ, List.set_cons_zero]
  refine wl_mv (.tmp 2) rfl rfl (.int .i64 (p : Nat)) rfl ?_
  simp only [Act.put, List.setIfInBounds_toArray, List.set_cons_succ, List.set_cons_zero]
  refine wl_ix (.tmp 47) (.tmp 48) rfl rfl rv (.pointer (some ⟨br, p, none⟩)) _ rfl rfl HIR.out ?_
  simp only [Act.put, List.setIfInBounds_toArray, List.set_cons_succ, List.set_cons_zero]
  refine wl_ld o40 (.tmp 49) rfl rfl br p rfl uv (by rw [R2.out.2.cell (by show br < _; exact HLT.out.2.2)]; exact HCR.out) ?_
  simp only [Act.put, List.setIfInBounds_toArray, List.set_cons_succ, List.set_cons_zero]
  refine wl_appB (.tmp 40) (.tmp 50) rfl rfl gz uv s rfl R2.out.1 rfl (HRO.out.1.later R2.out.2) (by rw [HSEC.out.1]; decide) (by rw [HSEC.out.1]; decide) ?_; intro v6 w6 q6 k6 b6; have R6 : Hid (w6.ownsRow 0 5 1 v6 64 (bcells s) ∧ v6.ownBlock = some w2.heap.size ∧ w.heap.size ≤ w2.heap.size ∧ Below w.heap.size w w6) := ⟨by rw [← HSEC.out.1]; exact q6, k6, R2.out.2.size, R2.out.2.trans (b6.mono R2.out.2.size)⟩; clear q6 k6 b6
  simp only [Act.put, List.setIfInBounds_toArray, List.set_cons_succ, List.set_cons_zero]
  refine wl_as (.tmp 51) rfl rfl v6 rfl ?_
  simp only [Act.put, List.setIfInBounds_toArray, List.set_cons_succ, List.set_cons_zero]
  refine wpList_nil ?_
  go_upto_region 4 with fail
  obtain ⟨z6, hz6, hi6, hc6⟩ := own_index R6.out.1 Try.underlying40 size5' a ha
  rw [Nat.mul_one] at hi6
  obtain ⟨cur6, hcr6, hcl6⟩ := own_row R6.out.1 z6 hz6
  have HI6 : Hid (∀ w', (Instr.indexAt 40 v6 (.int .i64 (a : Nat))).run Try.prog w' = .ok (.pointer (some ⟨z6, a, none⟩)) w') := hi6
  have HC6 : Hid (w6.cell? ⟨z6, a, none⟩ = some (.int .u8 (s.getD a 0 : Nat))) := by
    have := hc6 0 (by decide)
    rw [Nat.add_zero, Nat.mul_one] at this
    show _ = _
    rw [this]
    exact bcells_at s a (by rw [HSEC.out.1]; exact ha)
  have HB6 : Hid (s.getD a 0 < 256) := by
    have hlt : a < s.length := by rw [HSEC.out.1]; exact ha
    show _ < _
    rw [List.getD_eq_getElem?_getD, List.getElem?_eq_getElem hlt]
    exact HSEC.out.2 _ (List.getElem_mem hlt)
  have HCR6 : Hid (Row w6 z6 5 cur6 ∧ a < cur6.length) := ⟨hcr6, by omega⟩
  have hz : z6 = w2.heap.size := by rw [R6.out.2.1] at hz6; injection hz6 with hz6; exact hz6.symm
  have R7' : w.heap.size ≤ z6 ∧ (w6.setCell ⟨z6, a, none⟩ (.int .u8 ((s.getD a 0 ^^^ byte8 y : Nat) : Int))).ownsRow 0 5 1 v6 64 (bcells (turned s a y)) ∧ Below w.heap.size w (w6.setCell ⟨z6, a, none⟩ (.int .u8 ((s.getD a 0 ^^^ byte8 y : Nat) : Int))) := by
    refine ⟨by rw [hz]; exact R6.out.2.2.1, ?_, R6.out.2.2.2.setCell (by rw [hz]; exact R6.out.2.2.1) _⟩
    have := (own_set R6.out.1 z6 hz6 a (.int .u8 ((s.getD a 0 ^^^ byte8 y : Nat) : Int))).1
    rw [bcells_set] at this
    exact this
  have HZ6 : Hid (v6.ownBlock = some z6) := hz6
  clear hz6 hi6 hc6 hcr6 hcl6 hz
  refine wp_region_lit ?_
  refine wl_mv (.tmp 11) rfl rfl v6 rfl ?_
  simp only [Act.put, List.setIfInBounds_toArray, List.set_cons_succ, List.set_cons_zero]
  refine wl_mv (.tmp 3) rfl rfl (.int .i64 (a : Nat)) rfl ?_
  simp only [Act.put, List.setIfInBounds_toArray, List.set_cons_succ, List.set_cons_zero]
  refine wl_mv (.tmp 11) rfl rfl v6 rfl ?_
  simp only [Act.put, List.setIfInBounds_toArray, List.set_cons_succ, List.set_cons_zero]
  refine wl_mv (.tmp 3) rfl rfl (.int .i64 (a : Nat)) rfl ?_
  simp only [Act.put, List.setIfInBounds_toArray, List.set_cons_succ, List.set_cons_zero]
  refine wl_ix (.tmp 54) (.tmp 55) rfl rfl v6 (.pointer (some ⟨z6, a, none⟩)) _ rfl rfl HI6.out ?_
  simp only [Act.put, List.setIfInBounds_toArray, List.set_cons_succ, List.set_cons_zero]
  refine wl_ld one5' (.tmp 56) rfl rfl z6 a rfl (.int .u8 (s.getD a 0 : Nat)) HC6.out ?_
  simp only [Act.put, List.setIfInBounds_toArray, List.set_cons_succ, List.set_cons_zero]
  refine wl_mv (.tmp 4) rfl rfl (.int .i64 y) rfl ?_
  simp only [Act.put, List.setIfInBounds_toArray, List.set_cons_succ, List.set_cons_zero]
  refine wl_cv35 (.tmp 58) rfl rfl y rfl ?_
  simp only [Act.put, List.setIfInBounds_toArray, List.set_cons_succ, List.set_cons_zero]
  refine wl_xor8 (.tmp 57) (.tmp 59) rfl rfl (s.getD a 0) (byte8 y) HB6.out (byte8_lt y) rfl rfl ?_
  simp only [Act.put, List.setIfInBounds_toArray, List.set_cons_succ, List.set_cons_zero]
  refine wl_ix (.tmp 52) (.tmp 53) rfl rfl v6 (.pointer (some ⟨z6, a, none⟩)) _ rfl rfl HI6.out ?_
  simp only [Act.put, List.setIfInBounds_toArray, List.set_cons_succ, List.set_cons_zero]
  refine wl_put size5' (.tmp 61) (.tmp 60) rfl rfl rfl z6 a 5 cur6 rfl (.int .u8 ((s.getD a 0 ^^^ byte8 y : Nat) : Int)) rfl ⟨rfl, rfl⟩ HCR6.out.1 HCR6.out.2 ?_
  refine wpList_nil ?_
  have R7 : Hid ((w6.setCell ⟨z6, a, none⟩ (.int .u8 ((s.getD a 0 ^^^ byte8 y : Nat) : Int))).ownsRow 0 5 1 v6 64 (bcells (turned s a y)) ∧ Below w.heap.size w (w6.setCell ⟨z6, a, none⟩ (.int .u8 ((s.getD a 0 ^^^ byte8 y : Nat) : Int))) ∧ w.heap.size ≤ z6) := ⟨R7'.2.1, R7'.2.2, R7'.1⟩
  clear R7'
  generalize w6.setCell ⟨z6, a, none⟩ (.int .u8 ((s.getD a 0 ^^^ byte8 y : Nat) : Int)) = w7 at R7 ⊢
  go_upto_region 5 with fail
  refine wp_region_lit ?_
  refine wl_mv (.tmp 0) rfl rfl (ptr g) rfl ?_
  simp only [Act.put, List.setIfInBounds_toArray, List.set_cons_succ, List.set_cons_zero]
  refine wl_nil (.tmp 62) rfl rfl ⟨g, 0, none⟩ rfl ?_
  simp only [Act.put, List.setIfInBounds_toArray, List.set_cons_succ, List.set_cons_zero]
  refine wl_fld f56_h (.tmp 63) rfl rfl g 0 rfl ?_
  simp only [Act.put, List.setIfInBounds_toArray, List.set_cons_succ, List.set_cons_zero]
  refine wl_ld o53 (.tmp 64) rfl rfl g (0 + 2) rfl hv (by rw [R7.out.2.1.cell (by show g < _; exact HLT.out.1)]; exact HROW.out) ?_
  simp only [Act.put, List.setIfInBounds_toArray, List.set_cons_succ, List.set_cons_zero]
  refine wl_mv (.tmp 1) rfl rfl (.int .i64 (i : Nat)) rfl ?_
  simp only [Act.put, List.setIfInBounds_toArray, List.set_cons_succ, List.set_cons_zero]
  refine wl_ix (.tmp 65) (.tmp 66) rfl rfl hv (.pointer (some ⟨bh, i, none⟩)) _ rfl rfl HIH.out ?_
  simp only [Act.put, List.setIfInBounds_toArray, List.set_cons_succ, List.set_cons_zero]
  refine wl_ld o57 (.tmp 67) rfl rfl bh i rfl rv (by rw [R7.out.2.1.cell (by show bh < _; exact HLT.out.2.1)]; exact HCH.out) ?_
  simp only [Act.put, List.setIfInBounds_toArray, List.set_cons_succ, List.set_cons_zero]
  refine wl_mv (.tmp 2) rfl rfl (.int .i64 (p : Nat)) rfl ?_
  simp only [Act.put, List.setIfInBounds_toArray, List.set_cons_succ, List.set_cons_zero]
  refine wl_mv (.tmp 11) rfl rfl v6 rfl ?_
  simp only [Act.put, List.setIfInBounds_toArray, List.set_cons_succ, List.set_cons_zero]
  refine wl_ix (.tmp 68) (.tmp 69) rfl rfl rv (.pointer (some ⟨br, p, none⟩)) _ rfl rfl HIR.out ?_
  simp only [Act.put, List.setIfInBounds_toArray, List.set_cons_succ, List.set_cons_zero]
  refine wl_put s40 (.tmp 71) (.tmp 70) rfl rfl rfl br p 40 cur rfl v6 rfl (own_cells R7.out.1) (HCUR.out.1.later R7.out.2.1 HLT.out.2.2) HCUR.out.2 ?_
  refine wpList_nil ?_
  go_wp2_with fail
  go_ret
  refine ⟨rfl, NextA.recol HF.out R7.out.2.1 z6 R7.out.2.2 ?_⟩
  have hsec := turned_sec HSEC.out a y
  have hlt7 := (R7.out.1.lt z6 HZ6.out).2
  have hsl : SliceIn w7 v6 (turned s a y) := own_slice (by rw [hsec.1]; exact R7.out.1) hsec.2
  have hsame : Same t w c w7 (fun b => if b = z6 then (1, 0) else c b) := fun b hlt _ => ⟨R7.out.2.1.block b hlt, if_neg (by have := R7.out.2.2; omega)⟩
  refine (HA.out.recol R7.out.2.1 z6 R7.out.2.2).put ht1 (fun b hb => ?_) i p hin us (ownK HUS.out.1 fun b hb => R7.out.2.1.block b (HUS.out.1.lt b hb).2) (fun j hj => (HUS.out.2.1 j hj).same hsame R7.out.2.1.size) br HUS.out.2.2 hp v6 _ ⟨hsl, fun b hb => ?_⟩
  · rw [if_neg (show b ≠ z6 by omega)]
    exact HF.out b (Nat.le_trans R7.out.2.1.size hb)
  · rw [HZ6.out] at hb
    injection hb with hb
    subst hb
    exact ⟨hlt7, by simp⟩
set_option maxHeartbeats 4000000 in
set_option maxRecDepth 100000 in
theorem refRot_no {w : World} {c : Nat → Colour} {t g : Nat} {vd vt hv wv : Value} {ds ts : List Int} {m : Pl} (h : RefAt w c t g vd vt hv wv ds ts m) (d p a y : Int) (hno : ¬ (m.has d ∧ (0 ≤ p ∧ p < ((m.fl d.toNat).length : Int)) ∧ 0 ≤ a ∧ a < 64)) :
    Calls Try.prog 28 #[ptr g, .int .i64 d, .int .i64 p, .int .i64 a, .int .i64 y] w fun e w' => e = .returned (.bool false) ∧ Below w.heap.size w w' := by
  have HH : Hid (Calls Try.prog 48 #[ptr g, .int .i64 d] w fun e w' => e = .returned (.bool (decide (m.has d))) ∧ Below w.heap.size w w') := refHas' h.row h.disks.1 h.tapes.1 h.shape d
  by_cases hhas : m.has d
  case neg =>
    rw [decide_eq_false hhas] at HH
    clear h hno
    go_enter Try.func28, Try.ntmps28
    go_wp2_with (go_at_call 48; refine (HH.out).mono ?_; rintro e w1 ⟨rfl, b1⟩; have B1 : Hid (Below w.heap.size w w1) := b1; clear b1)
    go_ret
    exact ⟨rfl, B1.out⟩
  case pos =>
    rw [decide_eq_true hhas] at HH
    obtain ⟨i, rfl⟩ : ∃ i : Nat, d = (i : Int) := ⟨d.toNat, by have := hhas.1; omega⟩
    have hin : i < m.n := by have := hhas.2; omega
    rw [show (i : Int).toNat = i by omega] at hno
    obtain ⟨⟨us, ho1, ho2⟩, ho3⟩ := h.has
    obtain ⟨⟨xs, hr1, hr2⟩, hr3⟩ := ho2 i hin
    obtain ⟨left, hleft, hrow⟩ := h.row
    obtain ⟨bh, hbh, hih, hch⟩ := own_index ho1 Try.underlying53 s57 i hin
    rw [Nat.mul_one] at hih
    have HIH : Hid (∀ w', (Instr.indexAt 53 hv (.int .i64 (i : Nat))).run Try.prog w' = .ok (.pointer (some ⟨bh, i, none⟩)) w') := hih
    have HCH : Hid (w.cell? ⟨bh, i, none⟩ = some (us.getD i undef)) := by have := hch 0 (by decide); rw [Nat.add_zero, Nat.mul_one] at this; show _ = _; rw [this]; have hl := hasK ho1; simp [show i < us.length by omega]
    have HLT : Hid (g < w.heap.size ∧ bh < w.heap.size) := ⟨hrow.lt, (ho1.lt bh hbh).2⟩
    have HROW : Hid (w.cell? ⟨g, 2, none⟩ = some hv) := hrow.at 2 _ rfl
    have HRW : Hid (w.ownsRow 0 40 1 (us.getD i undef) (m.fl i).length xs) := hr1
    generalize us.getD i undef = rv at HCH HRW
    generalize (m.fl i).length = F at HRW hno
    clear h ho1 ho2 ho3 hr1 hr2 hr3 hleft hrow hbh hih hch
    by_cases hp0 : p < 0
    · have hp0' : decide (p < 0) = true := decide_eq_true hp0
      clear hno
      go_enter Try.func28, Try.ntmps28
      go_wp2_with (go_at_call 48; refine (HH.out).mono ?_; rintro e w1 ⟨rfl, b1⟩; have B1 : Hid (Below w.heap.size w w1) := b1; clear b1)
      go_ret
      exact ⟨rfl, B1.out⟩
    have hp0' : decide (p < 0) = false := decide_eq_false hp0
    by_cases hpF : (F : Int) ≤ p
    · have hpF' : decide ((F : Int) ≤ p) = true := decide_eq_true hpF
      clear hno
      go_enter Try.func28, Try.ntmps28
      go_wp2_with ((first
      | (go_at_call 48; refine (HH.out).mono ?_; rintro e w1 ⟨rfl, b1⟩; have B1 : Hid (Below w.heap.size w w1) := b1; have k2 : w1.cell? ⟨g, 2, none⟩ = some hv := (by rw [b1.cell (by show g < _; exact HLT.out.1)]; exact HROW.out); clear b1)
      | (refine wl_ix (.tmp 25) (.tmp 26) rfl rfl hv (.pointer (some ⟨bh, i, none⟩)) _ rfl rfl HIH.out ?_)
      | (refine wl_ld o57 (.tmp 27) rfl rfl bh i rfl rv (by rw [B1.out.cell (by show bh < _; exact HLT.out.2)]; exact HCH.out) ?_)
      | (refine wl_olen (.tmp 28) 57 rfl rfl sl57 rv rfl HRW.out ?_)); try simp only [Act.put, List.setIfInBounds_toArray, List.set_cons_succ, List.set_cons_zero])
      go_ret
      exact ⟨rfl, B1.out⟩
    have hpF' : decide ((F : Int) ≤ p) = false := decide_eq_false hpF
    by_cases ha0 : a < 0
    · have ha0' : decide (a < 0) = true := decide_eq_true ha0
      clear hno
      go_enter Try.func28, Try.ntmps28
      go_wp2_with ((first
      | (go_at_call 48; refine (HH.out).mono ?_; rintro e w1 ⟨rfl, b1⟩; have B1 : Hid (Below w.heap.size w w1) := b1; have k2 : w1.cell? ⟨g, 2, none⟩ = some hv := (by rw [b1.cell (by show g < _; exact HLT.out.1)]; exact HROW.out); clear b1)
      | (refine wl_ix (.tmp 25) (.tmp 26) rfl rfl hv (.pointer (some ⟨bh, i, none⟩)) _ rfl rfl HIH.out ?_)
      | (refine wl_ld o57 (.tmp 27) rfl rfl bh i rfl rv (by rw [B1.out.cell (by show bh < _; exact HLT.out.2)]; exact HCH.out) ?_)
      | (refine wl_olen (.tmp 28) 57 rfl rfl sl57 rv rfl HRW.out ?_)); try simp only [Act.put, List.setIfInBounds_toArray, List.set_cons_succ, List.set_cons_zero])
      go_ret
      exact ⟨rfl, B1.out⟩
    have ha0' : decide (a < 0) = false := decide_eq_false ha0
    have ha64 : (64 : Int) ≤ a := by
      apply Classical.byContradiction
      intro hc
      exact hno ⟨hhas, ⟨by omega, by omega⟩, by omega, by omega⟩
    have ha64' : decide ((64 : Int) ≤ a) = true := decide_eq_true ha64
    clear hno
    go_enter Try.func28, Try.ntmps28
    go_wp2_with ((first
      | (go_at_call 48; refine (HH.out).mono ?_; rintro e w1 ⟨rfl, b1⟩; have B1 : Hid (Below w.heap.size w w1) := b1; have k2 : w1.cell? ⟨g, 2, none⟩ = some hv := (by rw [b1.cell (by show g < _; exact HLT.out.1)]; exact HROW.out); clear b1)
      | (refine wl_ix (.tmp 25) (.tmp 26) rfl rfl hv (.pointer (some ⟨bh, i, none⟩)) _ rfl rfl HIH.out ?_)
      | (refine wl_ld o57 (.tmp 27) rfl rfl bh i rfl rv (by rw [B1.out.cell (by show bh < _; exact HLT.out.2)]; exact HCH.out) ?_)
      | (refine wl_olen (.tmp 28) 57 rfl rfl sl57 rv rfl HRW.out ?_)); try simp only [Act.put, List.setIfInBounds_toArray, List.set_cons_succ, List.set_cons_zero])
    go_ret
    exact ⟨rfl, B1.out⟩
end Go.Proofs.Ytdddfjkecmnggaa

/- The walk of Plant.Rot. The walk of Plant.Shape. The plant's own Rot where it refuses; Rot, Tick and Clone of a live plant. -/
import Derived.Test.YtjnhhkfknlkfeaaDoorV06
namespace Go.Proofs.YtjnhhkfknlkfeaaDoor
open Go.RowKit Go.Maps

/-- the byte of a number -/
def byte8 (n : Int) : Nat := (n % 256).toNat
theorem byte8_lt (n : Int) : byte8 n < 256 := by unfold byte8; omega
theorem run_conv35 (w : World) (n : Int) : (convert 3 5 (.int .i64 n)).run Tryd.prog w = .ok (.int .u8 (byte8 n : Nat)) w := by
  have e : ((byte8 n : Nat) : Int) = n % 256 := by unfold byte8; omega
  rw [e]
  simp [convert, run_underlying Tryd.underlying5, run_underlying Tryd.underlying3, Conv.intToInt, IntKind.wrap, IntKind.signed, IntKind.bits]
theorem xor_256 {x y : Nat} (hx : x < 256) (hy : y < 256) : x ^^^ y < 256 := Nat.xor_lt_two_pow (n := 8) hx hy
theorem run_xor8 (w : World) (x y : Nat) (hx : x < 256) (hy : y < 256) : (binOp .xor 5 (.int .u8 (x : Int)) (.int .u8 (y : Int))).run Tryd.prog w = .ok (.int .u8 ((x ^^^ y : Nat) : Int)) w := by
  have hlt := xor_256 hx hy
  simp [binOp, Op.intBits]
  show IntKind.u8.wrap ((x % 256 ^^^ y % 256 : Nat) : Int) = _
  rw [Nat.mod_eq_of_lt hx, Nat.mod_eq_of_lt hy]
  generalize x ^^^ y = z at hlt ⊢
  simp [IntKind.wrap, IntKind.signed, IntKind.bits]
  omega
def turned (s : List Nat) (a : Nat) (n : Int) : List Nat := s.set a (s.getD a 0 ^^^ byte8 n)
theorem turned_sec {s : List Nat} (h : Sec s) (a : Nat) (n : Int) : Sec (turned s a n) := by
  refine ⟨by unfold turned; simpa using h.1, fun c hc => ?_⟩
  rcases List.mem_or_eq_of_mem_set hc with hc | rfl
  · exact h.2 c hc
  · refine xor_256 ?_ (byte8_lt n)
    by_cases hj : a < s.length
    · simpa [hj] using h.2 _ (List.getElem_mem hj)
    · simp [hj]
/-- one place of what is flushed has turned -/
theorem FlIn.turnAt {w' : World} {b : Nat} {tape : Bool} {fl : List (List Nat)} {f : Nat → Option (List Nat)} {n p : Nat} {s : List Nat} (hf : ∀ q, q < fl.length → (f q).getD zeros = fl.getD q zeros) (hft : tape = true → n = fl.length ∧ ∀ q, (f q).isSome = decide (q < fl.length))
    (hp : p < fl.length) (hm : MapAt secs w' b (if (f p).isSome then n else n + 1) (fun q => if q = p then some s else f q)) : FlIn w' b tape (fl.set p s) := by
  refine ⟨_, _, hm, fun q hq => ?_, fun ht => ?_⟩
  · simp only [List.length_set] at hq
    by_cases e : q = p
    · subst e
      simp [hp]
    · rw [if_neg e, hf q hq]
      simp [List.getElem?_set_ne (Ne.symm e)]
  · obtain ⟨hn, his⟩ := hft ht
    have hpf : (f p).isSome = true := by rw [his p]; simpa using hp
    refine ⟨by rw [if_pos hpf]; simpa using hn, fun q => ?_⟩
    by_cases e : q = p
    · subst e
      simp [hp]
    · rw [if_neg e, his q]
      simp
theorem run_index84 {w : World} {a : Act} {o : Oper} (x ix : Operand) (ho : o.op = .indexAddr 74 x ix) (b j : Nat) (hx : a.eval x = .pointer (some ⟨b, 0, none⟩)) (hix : a.eval ix = .int .i64 (j : Nat)) (hj : j < 64) : (execOp a.eval o).run Tryd.prog w = .ok (.value (.pointer (some ⟨b, j, none⟩))) w := by
  have hs : (Tryd.prog.info? 5).map (·.size) = some 1 := by kernel_rfl
  obtain ⟨i, hi, hsz⟩ := Option.map_eq_some_iff.1 hs
  simp [execOp, ho, hx, hix, Instr.indexAt, asIntOf, run_underlying Tryd.underlying74, Instr.sureAddr, sizeOf, typeInfo, hi, hsz, hj, add_none]
theorem one5' : OneT 5 := fun w g o v h => by simp [loadVar, isAgg, run_underlying Tryd.underlying5, h]
theorem size5' : (Tryd.prog.info? 5).map (·.size) = some 1 := by kernel_rfl
def Pl.rotted (m : Pl) (i p : Nat) (s : List Nat) : Pl := { m with fl := upd m.fl i ((m.fl i).set p s) }

set_option maxHeartbeats 2000000 in
set_option maxRecDepth 100000 in
theorem rotOk_any {w : World} {c : Nat → Colour} {t g db cap : Nat} {gs : Nat → Nat} {m : Pl} (h : PlantAt w c t g db cap gs m) (hwf : m.WF) (i p a : Nat) (hi : i < m.n) (hp : p < (m.fl i).length) (ha : a < 64) (y : Int) :
    Calls Tryd.prog 24 #[ptr g, .int .i64 (i : Int), .int .i64 (p : Int), .int .i64 (a : Int), .int .i64 y] w fun e w' => e = .returned (.bool true) ∧ PlantAt w' c t g db cap gs (m.rotted i p (turned ((m.fl i).getD p zeros) a y)) ∧ Ch (fun b => c b = (t, i + 1)) w w' := by
  have hd := h.dev i hi
  have cs41 := device_in w g db m.n cap (gs i) i h.c0 hi (h.cell i hi)
  have cs54 := lengthF_any hd
  obtain ⟨gd, hgd⟩ : ∃ gd, gd = gs i := ⟨_, rfl⟩
  obtain ⟨L, hL⟩ : ∃ L, L = (m.fl i).length := ⟨_, rfl⟩
  have hLF : (if m.tape i then (m.fl i).length else m.size i) = L := by
    rw [hL]
    split
    · rfl
    · rename_i ht
      exact (hwf.disk i hi (by simpa using ht)).symm
  rw [hLF] at cs54
  rw [← hgd] at cs54 cs41
  have C41 : Hid (Calls Tryd.prog 47 #[ptr g, .int .i64 (i : Int)] w fun e w' => e = .returned (ptr gd) ∧ w = w') := cs41.mono fun _ _ h => ⟨h.1, h.2.symm⟩
  have C54 : Hid (Calls Tryd.prog 48 #[ptr gd] w fun e w' => e = .returned (.int .i64 (L : Int)) ∧ w = w') := cs54.mono fun _ _ h => ⟨h.1, h.2.symm⟩
  have HP : Hid (PlantAt w c t g db cap gs m) := h
  have HI : Hid (i < m.n) := hi
  have hpL : p < L := by rw [hL]; exact hp
  have HL : Hid (L = (m.fl i).length) := hL
  have hL4 : L ≤ 4096 := by
    have h1 := hwf.sizes i hi
    rw [hL]
    by_cases ht : m.tape i = true
    · have := (hwf.tapes i hi ht).1; omega
    · have := hwf.disk i hi (by simpa using ht); omega
  have hsec : Sec ((m.fl i).getD p zeros) := by
    have hm : (m.fl i).getD p zeros ∈ m.fl i := by
      rw [List.getD_eq_getElem?_getD, List.getElem?_eq_getElem hp]
      exact List.getElem_mem hp
    exact hwf.secs i _ hm
  obtain ⟨s0, hs0⟩ : ∃ s0, s0 = (m.fl i).getD p zeros := ⟨_, rfl⟩
  rw [← hs0] at hsec ⊢
  have HS0 : Hid (s0 = (m.fl i).getD p zeros) := hs0
  obtain ⟨bm, bl, v, hr, hg, hmc, hlc, hne, ⟨f, nf, hm1, hf1, hf2⟩, hwt, hlt⟩ := hd
  rw [← hgd] at hr hg
  have HDV : Hid (DevAt w c (t, i + 1) gd bm bl v (m.tape i) (m.size i) (m.fl i) (m.wt i)) := ⟨hr, hg, hmc, hlc, hne, ⟨f, nf, hm1, hf1, hf2⟩, hwt, hlt⟩
  have HM : Hid (MapAt secs w bm nf f ∧ (∀ q, q < (m.fl i).length → (f q).getD zeros = (m.fl i).getD q zeros) ∧ (m.tape i = true → nf = (m.fl i).length ∧ ∀ q, (f q).isSome = decide (q < (m.fl i).length))) := ⟨hm1, hf1, hf2⟩
  have hfp : (f p).getD zeros = s0 := by rw [hs0]; exact hf1 p hp
  have HR : Hid (Row w gd 106 [.bool (m.tape i), .int .i64 (m.size i : Nat), .map (some bm), v, .map (some bl)]) := hr
  have HGD : Hid (gd = gs i) := hgd
  have t1 : decide ((p : Int) < 0) = false := by simp
  have t2 : decide ((L : Int) ≤ (p : Int)) = false := by simp; omega
  have t3 : decide ((a : Int) < 0) = false := by simp
  have t4 : decide (64 ≤ (a : Int)) = false := by simp; omega
  clear h hwf hi hp hL hs0 cs41 cs54 hgd hLF hr hg hmc hlc hne hm1 hf1 hf2 hwt hlt
  go_enter Tryd.func24, Tryd.ntmps24
  go_upto_region 4 with (first | (go_at_call 47; refine C41.out.mono ?_; rintro e wx ⟨rfl, rfl⟩) | (go_at_call 48; refine C54.out.mono ?_; rintro e wx ⟨rfl, rfl⟩))
  refine wp_region_lit ?_
  refine wpList_move (.tmp 11) rfl rfl (ptr gd) rfl ?_
  simp only [Act.put, aS, aC, aZ]
  refine wpList_nilCheck (.tmp 36) rfl rfl _ rfl ?_
  simp only [Act.put, aS, aC, aZ]
  refine wpList_field f76_2 (.tmp 37) rfl rfl gd 0 rfl ?_
  simp only [Act.put, aS, aC, aZ]
  refine wpList_load1 one72 (.tmp 38) rfl rfl gd (0 + 2) rfl _ (HR.out.at 2 _ rfl) ?_
  simp only [Act.put, aS, aC, aZ]
  refine wpList_move (.tmp 2) rfl rfl (.int .i64 (p : Int)) rfl ?_
  simp only [Act.put, aS, aC, aZ]
  refine wpList_lookMap HM.out.1 (.tmp 39) (.tmp 40) 103 74 rfl rfl Tryd.underlying103 zeros (zeroSec w) sec_zero p (by omega) rfl rfl ?_
  rw [show (f p).getD zeros = s0 from hfp]
  simp only [Act.put, aS, aC, aZ]
  have hl0 : (bcells s0).length = 64 := by rw [bcells_length]; exact hsec.1
  refine wpList_alloc_store agg84 _ zero84 rfl rfl rfl rfl rfl (.tmp 41) rfl (bcells s0) hl0 (by simp [zerosU8]) (bcells_one s0) (fun _ => rfl) (fun _ => rfl) ?_
  intro w1 r1 s1 b1
  refine wpList_nil ?_
  simp only [Act.put, aS, aC, aZ]
  obtain ⟨q, hq⟩ : ∃ q, q = w.heap.size := ⟨_, rfl⟩
  rw [← hq] at r1 s1 b1 ⊢
  have HQ : Hid (q = w.heap.size) := hq
  clear hq
  go_upto_region 5 with fail
  refine wp_region_lit ?_
  refine wpList_move (.tmp 3) rfl rfl (.int .i64 (a : Int)) rfl ?_
  simp only [Act.put, aS, aC, aZ]
  refine wpList_value rfl _ w1 (run_index84 (.tmp 12) (.tmp 42) rfl q a rfl rfl ha) ?_
  simp only [Act.put, aS, aC, aZ]
  have hx256 : s0.getD a 0 < 256 := by
    have hal : a < s0.length := by rw [hsec.1]; exact ha
    simpa [hal] using hsec.2 _ (List.getElem_mem hal)
  refine wpList_load1 one5' (.tmp 43) rfl rfl q a rfl (.int .u8 (s0.getD a 0 : Nat)) (r1.at a _ (bcells_at s0 a (by rw [hsec.1]; exact ha))) ?_
  simp only [Act.put, aS, aC, aZ]
  refine wpList_move (.tmp 4) rfl rfl (.int .i64 y) rfl ?_
  simp only [Act.put, aS, aC, aZ]
  refine wpList_value rfl (.int .u8 (byte8 y : Nat)) w1 (by
    have hc := run_conv35 w1 y
    simp [execOp, Act.eval, hc]) ?_
  simp only [Act.put, aS, aC, aZ]
  refine wpList_value rfl (.int .u8 ((s0.getD a 0 ^^^ byte8 y : Nat) : Int)) w1 (by
    have hc := run_xor8 w1 (s0.getD a 0) (byte8 y) hx256 (byte8_lt y)
    simp only [execOp, eqGuard_xor, Sem.run_bind, Sem.run_pure, Result.andThen_ok]
    simp [Act.eval]
    simp at hc
    rw [hc]
    rfl) ?_
  simp only [Act.put, aS, aC, aZ]
  refine wpList_value rfl _ w1 (run_index84 (.tmp 12) (.tmp 42) rfl q a rfl rfl ha) ?_
  simp only [Act.put, aS, aC, aZ]
  refine wpList_store1 size5' (.tmp 48) (.tmp 47) rfl rfl rfl q a 74 rfl (.int .u8 ((s0.getD a 0 ^^^ byte8 y : Nat) : Int)) _ rfl rfl rfl r1 (by rw [hl0]; exact ha) ?_
  refine wpList_nil ?_
  obtain ⟨w2, hw2⟩ : ∃ w2, w2 = w1.setRow q ((bcells s0).set a (.int .u8 ((s0.getD a 0 ^^^ byte8 y : Nat) : Int))).toArray := ⟨_, rfl⟩
  rw [← hw2]
  obtain ⟨s2, hs2⟩ : ∃ s2, s2 = turned s0 a y := ⟨_, rfl⟩
  have hse2 : Sec s2 := by rw [hs2]; exact turned_sec hsec a y
  have r2 : Row w2 q 74 (bcells s2) := by
    have e : bcells s2 = (bcells s0).set a (.int .u8 ((s0.getD a 0 ^^^ byte8 y : Nat) : Int)) := by
      rw [hs2]
      unfold turned bcells
      rw [List.map_set]
    rw [hw2, e]
    exact r1.setRow _
  have b2 : Below q w w2 := by
    rw [hw2]
    exact b1.trans ⟨rfl, rfl, rfl, by simp [World.setRow], fun k hk => Go.setRow_other w1 q k _ (by omega)⟩
  have hgq : gd < q := by rw [HQ.out]; exact HR.out.lt
  have d2 : w2.cell? ⟨gd, 2, none⟩ = some (.map (some bm)) := (HR.out.later b2 hgq).at 2 _ rfl
  have HR2 : Hid (Row w2 q 74 (bcells s2)) := r2
  have HB2 : Hid (Below q w w2) := b2
  have HS2 : Hid (s2 = turned s0 a y) := hs2
  clear r1 s1 b1 r2 b2 hw2 hs2 hl0 hx256
  go_upto_region 6 with fail
  refine wp_region_head_drew 6 (by kernel_rfl) (by kernel_rfl) ?_
  simp only [List.take_succ_cons, List.take_zero, List.drop_succ_cons, List.drop_zero]
  iterate 5 (go_big_quiet_step (fail))
  refine wpQuiet_load agg84 (.tmp 12) rfl rfl q 0 rfl (bcells s2) (by rw [bcells_length]; exact hse2.1) (fun W hW => by obtain ⟨n, rfl⟩ := hW; intro j u hu; rw [Nat.zero_add]; exact HR2.out.at j u hu) ?_
  refine wpQuiet_nil ?_
  intro _ hw'
  obtain ⟨nq, hw''⟩ := hw'
  subst hw''
  simp only [Act.put, aS, aC, aZ]
  have hm2 : MapAt secs (w2.drewN nq) bm nf f := HM.out.1.kept (HB2.out.block bm (by rw [HQ.out]; exact HM.out.1.lt))
  refine wpList_putMap0 hm2 (.tmp 52) (.tmp 53) (.tmp 54) 103 74 rfl rfl rfl Tryd.underlying103 p (by omega) s2 hse2 rfl rfl rfl ?_
  intro w3 hm3 t3
  refine wpList_nil ?_
  have hch2 : Ch (fun b => c b = (t, i + 1)) w (w2.drewN nq) := (Ch.of_below (by rw [← HQ.out]; exact HB2.out)).drewN nq
  have HCH : Hid (Ch (fun b => c b = (t, i + 1)) w w3) := hch2.grown t3.grown (fun b hb => by cases hb; exact Or.inl HDV.out.2.2.1)
  have HPA : Hid (PlantAt w3 c t g db cap gs (m.rotted i p s2)) := by
    refine HP.out.device _ i rfl (fun j hj => ⟨?_, rfl⟩) ⟨rfl, rfl, rfl, rfl⟩ HCH.out (fun _ _ => rfl) (fun _ => ?_)
    · show upd m.fl i _ j = _
      simp [upd, hj]
    · have e : (m.rotted i p s2).fl i = (m.fl i).set p s2 := by
        show upd m.fl i _ i = _
        simp [upd]
      rw [e, ← HGD.out]
      have hd2 : DevAt (w2.drewN nq) c (t, i + 1) gd bm bl v (m.tape i) (m.size i) (m.fl i) (m.wt i) := HDV.out.kept fun b hb hk => ⟨HB2.out.block b (by rw [HQ.out]; exact hb), hk⟩
      exact (hd2.flushed t3 (FlIn.turnAt HM.out.2.1 HM.out.2.2 (by rw [← HL.out]; exact hpL) hm3)).devIn
  clear hm2 hm3 t3 hch2 d2
  go_wp2
  go_ret
  exact ⟨rfl, by rw [← HS2.out]; exact HPA.out, HCH.out⟩
end Go.Proofs.YtjnhhkfknlkfeaaDoor

namespace Go.Proofs.YtjnhhkfknlkfeaaDoor
open Go.RowKit Go.Maps

theorem run_oneInt (w : World) (x : Int) : (Instr.buildSlice 31 1 #[(0, .int .i64 x)]).run Tryd.prog w = .ok (.slice (some ⟨w.heap.size, 0, none⟩) 1 1) (w.alloc (.cells #[.int .i64 x] 3)) := by kernel_rfl
def sized (b : Bool) (sh : List (Bool × Nat)) : List Value := (sh.filter fun x => x.1 == b).map fun x => Value.int .i64 (x.2 : Nat)
theorem sized_snoc (b : Bool) (sh : List (Bool × Nat)) (x : Bool × Nat) : sized b (sh ++ [x]) = if x.1 = b then sized b sh ++ [Value.int .i64 (x.2 : Nat)] else sized b sh := by
  unfold sized
  rw [List.filter_append, List.map_append]
  by_cases h : x.1 = b
  · simp [h]
  · simp [h]
def ShapeIn (W : World) (sb C : Nat) (sh : List (Bool × Nat)) : Prop :=
  ∃ vd vt, Row W sb 84 [vd, vt] ∧ W.ownsRow C 3 1 vd (sized false sh).length (sized false sh) ∧ W.ownsRow C 3 1 vt (sized true sh).length (sized true sh) ∧ ∀ b, vd.ownBlock = some b → vt.ownBlock ≠ some b
theorem info3 : (Tryd.prog.info? 3).map (fun i => (i.zero, i.size, i.bytes)) = some (some (.int .i64 0), 1, 8) := by kernel_rfl
theorem und22 : Tryd.prog.underlying 31 = some (.slice 3) := Tryd.underlying31
theorem size22 : (Tryd.prog.info? 31).map (·.size) = some 1 := by kernel_rfl
theorem one22 : OneT 31 := fun w g o v h => by simp [loadVar, isAgg, run_underlying Tryd.underlying31, h]
theorem f24_0 : FieldAt 84 0 0 := fun w g off => by kernel_rfl
theorem f24_1 : FieldAt 84 1 1 := fun w g off => by kernel_rfl
theorem f76_1 : FieldAt 106 1 1 := fun w g off => by kernel_rfl
theorem zero24 : (Tryd.prog.info? 84).map (·.zero) = some (some (.agg ([.slice none 0 0, .slice none 0 0] : List Value).toArray)) := by kernel_rfl
theorem slice_of_own {w : World} {base e size n : Nat} {v : Value} {xs : List Value} (h : w.ownsRow base e size v n xs) : v.cells = #[v] ∧ v.oneCell' = true := by
  obtain ⟨_, h⟩ := h
  rcases h with ⟨rfl, _⟩ | ⟨_, _, _, rfl, _⟩
  · exact ⟨rfl, rfl⟩
  · exact ⟨rfl, rfl⟩
theorem own_kept {w w' : World} {base e size n : Nat} {v : Value} {xs : List Value} (h : w.ownsRow base e size v n xs) (hb : ∀ b, v.ownBlock = some b → w'.heap[b]? = w.heap[b]?) : w'.ownsRow base e size v n xs := by
  obtain ⟨hl, h⟩ := h
  refine ⟨hl, ?_⟩
  rcases h with ⟨rfl, h⟩ | ⟨g, cap, cur, rfl, h0, hg, h⟩
  · exact Or.inl ⟨rfl, h⟩
  · exact Or.inr ⟨g, cap, cur, rfl, h0, (hb g rfl).trans hg, h⟩
/-- one slice has grown, the other has not -/
theorem two_rows {W W6 W7 : World} {sb C n m m' : Nat} {vo va v7 : Value} {xo xa xa' : List Value} (hsb : sb < C) (ho : W.ownsRow C 3 1 vo n xo) (ha : W.ownsRow C 3 1 va m xa) (hdis : ∀ b, vo.ownBlock = some b → va.ownBlock ≠ some b)
    (h6 : Below W.heap.size W W6) (o7 : W7.ownsRow C 3 1 v7 m' xa') (g7 : W6.grownBy W7 va.ownBlock) (l7 : v7.ownBlock = va.ownBlock ∨ v7.ownBlock = some W6.heap.size) (ys : Array Value) :
    (W7.setRow sb ys).ownsRow C 3 1 vo n xo ∧ (W7.setRow sb ys).ownsRow C 3 1 v7 m' xa' ∧ (∀ b, vo.ownBlock = some b → v7.ownBlock ≠ some b) ∧ ∀ cs, Row W sb 84 cs → Row W7 sb 84 cs := by
  refine ⟨own_kept ho fun b hb => ?_, own_kept o7 fun b hb => ?_, fun b hb e => ?_, fun cs hr => ?_⟩
  · have hlt := (ho.lt b hb).2
    have hc := (ho.lt b hb).1
    rw [Go.setRow_other W7 sb b _ (by omega), g7.block b (Nat.lt_of_lt_of_le hlt h6.size) (fun e => hdis b hb e.symm), h6.block b hlt]
  · have hc := (o7.lt b hb).1
    exact Go.setRow_other W7 sb b _ (by omega)
  · have hlt := (ho.lt b hb).2
    rcases l7 with l | l
    · exact hdis b hb (l ▸ e)
    · rw [l] at e
      cases e
      have := h6.size
      omega
  · show W7.heap[sb]? = _
    rw [g7.block sb (Nat.lt_of_lt_of_le hr.lt h6.size) (fun e => by have := (ha.lt sb e.symm).1; omega), h6.block sb hr.lt]
    exact hr
theorem run_fieldOp' {w : World} {a : Act} {o : Oper} {T i k : Nat} (hf : FieldAt T i k) (x : Operand) (ho : o.op = .fieldAddr T x i) (g off : Nat) (hx : a.eval x = .pointer (some ⟨g, off, none⟩)) : (execOp a.eval o).run Tryd.prog w = .ok (.value (.pointer (some ⟨g, off + k, none⟩))) w := by
  simp [execOp, ho, hx, hf w g off]
section
variable {ops : Array Oper} {Q : Exit → Act → World → Prop} {a : Act} {w : World}
theorem run_oneIntOp {o : Oper} (x : Operand) (ho : o.op = .buildSlice 31 1 #[(0, x)]) (n : Int) (hx : a.eval x = .int .i64 n) : (execOp a.eval o).run Tryd.prog w = .ok (.value (.slice (some ⟨w.heap.size, 0, none⟩) 1 1)) (w.alloc (.cells #[.int .i64 n] 3)) := by
  simp [execOp, ho, hx, run_oneInt]
end

set_option maxHeartbeats 2000000 in
set_option maxRecDepth 100000 in
theorem shape_any {w : World} {c : Nat → Colour} {t g db cap : Nat} {gs : Nat → Nat} {m : Pl} (h : PlantAt w c t g db cap gs m) (hwf : m.WF) :
    Calls Tryd.prog 33 #[ptr g] w fun e w' => ∃ vd vt, e = .returned (.agg #[vd, vt]) ∧ w'.ownsRow w.heap.size 3 1 vd (sized false m.sh).length (sized false m.sh) ∧ w'.ownsRow w.heap.size 3 1 vt (sized true m.sh).length (sized true m.sh) ∧ Below w.heap.size w w' := by
  obtain ⟨B, hB⟩ : ∃ B, B = w.heap.size := ⟨_, rfl⟩
  obtain ⟨N, hN⟩ : ∃ N, N = m.n := ⟨_, rfl⟩
  rw [← hB]
  have HB : Hid (B = w.heap.size) := hB
  have HN : Hid (N = m.n) := hN
  have hN12 : N ≤ 12 := by rw [hN]; exact hwf.few
  have HP : Hid (PlantAt w c t g db cap gs m) := h
  have HG : Hid (w.cell? ⟨g, 0, none⟩ = some (.slice (some ⟨db, 0, none⟩) N cap)) := by rw [hN]; exact h.c0
  clear h hwf hB hN
  go_enter Tryd.func33, Tryd.ntmps33
  go_upto_region 0 with fail
  refine wp_region_lit ?_
  refine wpList_alloc' _ zero24 rfl rfl ?_
  intro w1 r1 s1 b1
  refine wpList_nil ?_
  simp only [Act.put, aS, aC, aZ]
  go_upto_region 1 with fail
  refine wp_region_lit ?_
  refine wpList_alloc' _ zero24 rfl rfl ?_
  intro w2 r2 s2 b2
  refine wpList_nil ?_
  simp only [Act.put, aS, aC, aZ]
  rw [← HB.out] at r1 s1 b1 ⊢
  rw [s1] at r2 s2 b2 ⊢
  have HR1 : Hid (Row w2 B 84 [.slice none 0 0, .slice none 0 0]) := r1.later b2 (by omega)
  have HI : Hid (ShapeIn w2 (B + 1) (B + 2) (m.sh.take 0)) := ⟨_, _, r2, ⟨rfl, Or.inl ⟨rfl, rfl⟩⟩, ⟨rfl, Or.inl ⟨rfl, rfl⟩⟩, fun b hb => by cases hb⟩
  have HB2 : Hid (Below B w w2 ∧ B + 2 ≤ w2.heap.size) := ⟨b1.trans (b2.mono (by omega)), by omega⟩
  have c0 : w2.cell? ⟨g, 0, none⟩ = some (.slice (some ⟨db, 0, none⟩) N cap) := cell_later (by rw [← HB.out]; exact HB2.out.1) HG.out
  clear r1 s1 b1 r2 s2 b2
  go_wp2
  go_loopw [11] (fun ix W => ∃ n : Nat, n ≤ N ∧ ix = .int .i64 n ∧ ShapeIn W (B + 1) (B + 2) (m.sh.take n) ∧ Row W B 84 [.slice none 0 0, .slice none 0 0] ∧ Below B w W ∧ B + 2 ≤ W.heap.size) (fun ix _ => N - (intOf ix).toNat)
  case atStart => exact ⟨0, Nat.zero_le _, rfl, HI.out, HR1.out, HB2.out⟩
  case round =>
    obtain ⟨n, hn, rfl, hin, hrB, hbw, hsz⟩ := hrel
    clear HI HR1 HB2 c0
    have HIN : Hid (ShapeIn wr (B + 1) (B + 2) (m.sh.take n) ∧ Row wr B 84 [.slice none 0 0, .slice none 0 0] ∧ Below B w wr ∧ B + 2 ≤ wr.heap.size) := ⟨hin, hrB, hbw, hsz⟩
    by_cases hlt : n < N
    · have hnm : n < m.n := by rw [← HN.out]; exact hlt
      have cn : wr.cell? ⟨db, n, none⟩ = some (ptr (gs n)) := cell_later (by rw [← HB.out]; exact hbw) (HP.out.cell n hnm)
      obtain ⟨gd, hgd⟩ : ∃ gd, gd = gs n := ⟨_, rfl⟩
      obtain ⟨z, hz⟩ : ∃ z, z = m.size n := ⟨_, rfl⟩
      obtain ⟨tp, htp⟩ : ∃ tp, tp = m.tape n := ⟨_, rfl⟩
      obtain ⟨bm, bl, vv, hdr, _⟩ := HP.out.dev n hnm
      rw [← hgd, ← hz, ← htp] at hdr
      rw [← hgd] at cn
      have HDR : Hid (∀ W, Below B w W → Row W gd 106 [.bool tp, .int .i64 (z : Nat), .map (some bm), vv, .map (some bl)]) := fun W hb => hdr.later (B := B) hb (by rw [HB.out]; exact hdr.lt)
      have HSH : Hid (m.sh.take (n + 1) = m.sh.take n ++ [(tp, z)]) := by
        have hn' : n < m.sh.length := hnm
        rw [List.take_succ_eq_append_getElem hn']
        congr 2
        rw [htp, hz]
        unfold Pl.tape Pl.size
        simp [hn']
      have d0 : wr.cell? ⟨gd, 0, none⟩ = some (.bool tp) := (HDR.out wr hbw).at 0 _ rfl
      clear hdr hgd hz htp hin hrB hbw hsz
      cases tp with
      | true =>
        go_upto_region 6 with fail
        obtain ⟨vd, vt, hr, hod, hot, hdis⟩ := HIN.out.1
        have hdr := HDR.out wr HIN.out.2.2.1
        have c1 : (wr.drewN 1).cell? ⟨B + 1, 0 + 1, none⟩ = some vt := hr.at 1 _ rfl
        have c2 : (wr.drewN 1).cell? ⟨gd, 0 + 1, none⟩ = some (.int .i64 (z : Nat)) := hdr.at 1 _ rfl
        refine wp_region_any (by kernel_rfl) ?_
        show wpAny _ _ _ _ 10 (Array.replicate 10 false) _ (wr.drewN 1)
        refine takeA (i := 0) (some 19) rfl rfl (by kernel_rfl) (by kernel_rfl) (by kernel_rfl) (fun _ _ _ h => h) (yField f24_1 rfl (.tmp 3) rfl (B + 1) 0 rfl) ?_
        simp only [Act.put, aS, aC, aZ]
        refine takeA (i := 2) (some 21) rfl rfl (by kernel_rfl) (by kernel_rfl) (by kernel_rfl) (fun _ _ _ h => h) (yMove rfl (.tmp 5) rfl (ptr gd) rfl) ?_
        simp only [Act.put, aS, aC, aZ]
        refine takeA (i := 3) (some 22) rfl rfl (by kernel_rfl) (by kernel_rfl) (by kernel_rfl) (fun _ _ _ h => h) (yNil rfl (.tmp 21) rfl _ rfl) ?_
        simp only [Act.put, aS, aC, aZ]
        refine takeA (i := 4) (some 23) rfl rfl (by kernel_rfl) (by kernel_rfl) (by kernel_rfl) (fun _ _ _ h => h) (yField f76_1 rfl (.tmp 22) rfl gd 0 rfl) ?_
        simp only [Act.put, aS, aC, aZ]
        refine anyThree (i := 1) (j := 5) (k := 6) 20 24 25 rfl rfl rfl (by decide) (by decide) (by decide) (by decide) (by kernel_rfl) (by kernel_rfl) (by kernel_rfl) (by kernel_rfl) (by kernel_rfl)
          vt (fun u W' => u = .int .i64 (z : Nat) ∧ W' = wr.drewN 1) (fun _ s W'' => s = .slice (some ⟨wr.heap.size, 0, none⟩) 1 1 ∧ W'' = (wr.drewN 1).alloc (.cells #[.int .i64 (z : Nat)] 3)) ?_ ?_ ?_ ?_ ?_ ?_ ?_ ?_
        · exact run_load1 one22 (.tmp 19) rfl (B + 1) (0 + 1) rfl _ c1
        · rintro u W' ⟨rfl, rfl⟩
          exact run_load1 one22 (.tmp 19) rfl (B + 1) (0 + 1) rfl _ c1
        · rintro u W' s W'' _ ⟨rfl, rfl⟩
          exact run_load1 one22 (.tmp 19) rfl (B + 1) (0 + 1) rfl _ (cell_later ((Below.refl _ (wr.drewN 1)).alloc (Nat.le_refl _) _) c1)
        · intro R hR
          exact opValue (some 24) rfl rfl rfl _ _ (run_load1 one3 (.tmp 23) rfl gd (0 + 1) rfl _ c2) (hR _ _ ⟨rfl, rfl⟩)
        · intro R hR
          exact opValue (some 24) rfl rfl rfl _ _ (run_load1 one3 (.tmp 23) rfl gd (0 + 1) rfl _ c2) (hR _ _ ⟨rfl, rfl⟩)
        · rintro u W' ⟨rfl, rfl⟩ R hR
          exact opValue (some 25) rfl rfl rfl _ _ (run_oneIntOp (.tmp 24) rfl (z : Nat) rfl) (hR _ _ ⟨rfl, rfl⟩)
        · rintro u W' ⟨rfl, rfl⟩ R hR
          exact opValue (some 25) rfl rfl rfl _ _ (run_oneIntOp (.tmp 24) rfl (z : Nat) rfl) (hR _ _ ⟨rfl, rfl⟩)
        rintro u W0 s w6 ⟨rfl, _⟩ ⟨rfl, hw6⟩
        simp only [Act.put, aS, aC, aZ]
        refine anySeqD 7 (by kernel_rfl) rfl ?_
        simp only [List.drop_succ_cons, List.drop_zero]
        have b6 : Below wr.heap.size wr w6 := by rw [hw6]; exact (Below.drewN (Below.refl _ wr) 1).alloc (Nat.le_refl _) _
        have r6 : Row w6 wr.heap.size 3 [.int .i64 (z : Nat)] := by rw [hw6]; exact Row.new (wr.drewN 1) 3 [.int .i64 (z : Nat)]
        have hle : (sized true (m.sh.take n)).length ≤ 1000 := by
          have h1 : (sized true (m.sh.take n)).length ≤ (m.sh.take n).length := by unfold sized; rw [List.length_map]; exact List.length_filter_le _ _
          have h2 : (m.sh.take n).length ≤ n := List.length_take_le _ _
          omega
        obtain ⟨i0, hi0, hz0, hz1, hz2⟩ := info_parts info3
        refine wpList_append_own_at _ rfl (.tmp 20) (.tmp 25) 31 rfl (B + 2) 3 i0 _ 1 8 und22 hi0 hz0 hz1 hz2 rfl (by decide) vt _ _ rfl (ownsRow_below hot b6) ⟨wr.heap.size, 0, none⟩ 1 1 [.int .i64 (z : Nat)] rfl rfl (fun j u hu => by rw [add_none, Nat.zero_add]; exact r6.at j u hu) (by intro z hz; obtain rfl := List.mem_singleton.1 hz; rfl) (by unfold maxLen; omega) (by omega) (by have := HIN.out.2.2.2; have := b6.size; omega) ?_
        intro v7 w7 o7 g7 _ l7
        simp only [Act.put, aS, aC, aZ]
        obtain ⟨h1, h2, h3, h4⟩ := two_rows (sb := B + 1) (by omega) hod hot hdis b6 o7 g7 l7 ([vd, v7] : List Value).toArray
        have hr7 := h4 _ hr
        have hv7 := slice_of_own o7
        have blt : ∀ b, b < B + 1 → w7.heap[b]? = wr.heap[b]? := fun b hb => by
          have := HIN.out.2.2.2
          have := b6.size
          rw [g7.block b (by omega) (fun e => by have := (hot.lt b e.symm).1; omega), b6.block b (by omega)]
        refine wpList_field f24_1 (.tmp 3) rfl rfl (B + 1) 0 rfl ?_
        simp only [Act.put, aS, aC, aZ]
        refine wpList_store1 size22 (.tmp 27) (.tmp 26) rfl rfl rfl (B + 1) (0 + 1) 84 rfl v7 _ rfl hv7.1 hv7.2 hr7 (by simp) ?_
        refine wpList_nil ?_
        obtain ⟨w8, hw8⟩ : ∃ w8, w8 = w7.setRow (B + 1) ([vd, v7] : List Value).toArray := ⟨_, rfl⟩
        have e8 : w7.setRow (B + 1) (([vd, vt] : List Value).set (0 + 1) v7).toArray = w8 := by rw [hw8]; rfl
        rw [e8]
        have H8 : Hid (ShapeIn w8 (B + 1) (B + 2) (m.sh.take (n + 1)) ∧ Row w8 B 84 [.slice none 0 0, .slice none 0 0] ∧ Below B w w8 ∧ B + 2 ≤ w8.heap.size) := by
          have hsz : w8.heap.size = w7.heap.size := by rw [hw8]; simp [World.setRow]
          have hs7 := g7.size
          have hs6 := b6.size
          have hs0 := HIN.out.2.2.2
          refine ⟨?_, ?_, ?_, by omega⟩
          · rw [HSH.out, hw8]
            refine ⟨vd, v7, hr7.setRow _, ?_, ?_, h3⟩
            · rw [sized_snoc, if_neg (by simp)]; exact h1
            · rw [sized_snoc, if_pos rfl, List.length_append]; exact h2
          · show w8.heap[B]? = _
            rw [hw8, Go.setRow_other w7 (B + 1) B _ (by omega), blt B (by omega)]
            exact HIN.out.2.1
          · refine HIN.out.2.2.1.trans ⟨by rw [hw8]; exact g7.os.trans b6.os, by rw [hw8]; exact g7.tape.trans b6.tape, by rw [hw8]; exact g7.output.trans b6.output, by omega, fun b hb => ?_⟩
            rw [hw8, Go.setRow_other w7 (B + 1) b _ (by omega)]
            exact blt b (by omega)
        clear e8 hw8 h1 h2 h3 h4 hr7 hv7 blt o7 g7 l7 b6 r6 hr hod hot hdis hdr c1 c2 hw6
        go_wp2
        exact ⟨⟨n + 1, by omega, by go_num, H8.out⟩, by simp [intOf]; omega⟩
      | false =>
        go_upto_region 7 with fail
        obtain ⟨vd, vt, hr, hod, hot, hdis⟩ := HIN.out.1
        have hdr := HDR.out wr HIN.out.2.2.1
        have c1 : (wr.drewN 1).cell? ⟨B + 1, 0 + 0, none⟩ = some vd := hr.at 0 _ rfl
        have c2 : (wr.drewN 1).cell? ⟨gd, 0 + 1, none⟩ = some (.int .i64 (z : Nat)) := hdr.at 1 _ rfl
        refine wp_region_any (by kernel_rfl) ?_
        show wpAny _ _ _ _ 10 (Array.replicate 10 false) _ (wr.drewN 1)
        refine takeA (i := 0) (some 28) rfl rfl (by kernel_rfl) (by kernel_rfl) (by kernel_rfl) (fun _ _ _ h => h) (yField f24_0 rfl (.tmp 3) rfl (B + 1) 0 rfl) ?_
        simp only [Act.put, aS, aC, aZ]
        refine takeA (i := 2) (some 30) rfl rfl (by kernel_rfl) (by kernel_rfl) (by kernel_rfl) (fun _ _ _ h => h) (yMove rfl (.tmp 5) rfl (ptr gd) rfl) ?_
        simp only [Act.put, aS, aC, aZ]
        refine takeA (i := 3) (some 31) rfl rfl (by kernel_rfl) (by kernel_rfl) (by kernel_rfl) (fun _ _ _ h => h) (yNil rfl (.tmp 30) rfl _ rfl) ?_
        simp only [Act.put, aS, aC, aZ]
        refine takeA (i := 4) (some 32) rfl rfl (by kernel_rfl) (by kernel_rfl) (by kernel_rfl) (fun _ _ _ h => h) (yField f76_1 rfl (.tmp 31) rfl gd 0 rfl) ?_
        simp only [Act.put, aS, aC, aZ]
        refine anyThree (i := 1) (j := 5) (k := 6) 29 33 34 rfl rfl rfl (by decide) (by decide) (by decide) (by decide) (by kernel_rfl) (by kernel_rfl) (by kernel_rfl) (by kernel_rfl) (by kernel_rfl)
          vd (fun u W' => u = .int .i64 (z : Nat) ∧ W' = wr.drewN 1) (fun _ s W'' => s = .slice (some ⟨wr.heap.size, 0, none⟩) 1 1 ∧ W'' = (wr.drewN 1).alloc (.cells #[.int .i64 (z : Nat)] 3)) ?_ ?_ ?_ ?_ ?_ ?_ ?_ ?_
        · exact run_load1 one22 (.tmp 28) rfl (B + 1) (0 + 0) rfl _ c1
        · rintro u W' ⟨rfl, rfl⟩
          exact run_load1 one22 (.tmp 28) rfl (B + 1) (0 + 0) rfl _ c1
        · rintro u W' s W'' _ ⟨rfl, rfl⟩
          exact run_load1 one22 (.tmp 28) rfl (B + 1) (0 + 0) rfl _ (cell_later ((Below.refl _ (wr.drewN 1)).alloc (Nat.le_refl _) _) c1)
        · intro R hR
          exact opValue (some 33) rfl rfl rfl _ _ (run_load1 one3 (.tmp 32) rfl gd (0 + 1) rfl _ c2) (hR _ _ ⟨rfl, rfl⟩)
        · intro R hR
          exact opValue (some 33) rfl rfl rfl _ _ (run_load1 one3 (.tmp 32) rfl gd (0 + 1) rfl _ c2) (hR _ _ ⟨rfl, rfl⟩)
        · rintro u W' ⟨rfl, rfl⟩ R hR
          exact opValue (some 34) rfl rfl rfl _ _ (run_oneIntOp (.tmp 33) rfl (z : Nat) rfl) (hR _ _ ⟨rfl, rfl⟩)
        · rintro u W' ⟨rfl, rfl⟩ R hR
          exact opValue (some 34) rfl rfl rfl _ _ (run_oneIntOp (.tmp 33) rfl (z : Nat) rfl) (hR _ _ ⟨rfl, rfl⟩)
        rintro u W0 s w6 ⟨rfl, _⟩ ⟨rfl, hw6⟩
        simp only [Act.put, aS, aC, aZ]
        refine anySeqD 7 (by kernel_rfl) rfl ?_
        simp only [List.drop_succ_cons, List.drop_zero]
        have b6 : Below wr.heap.size wr w6 := by rw [hw6]; exact (Below.drewN (Below.refl _ wr) 1).alloc (Nat.le_refl _) _
        have r6 : Row w6 wr.heap.size 3 [.int .i64 (z : Nat)] := by rw [hw6]; exact Row.new (wr.drewN 1) 3 [.int .i64 (z : Nat)]
        have hle : (sized false (m.sh.take n)).length ≤ 1000 := by
          have h1 : (sized false (m.sh.take n)).length ≤ (m.sh.take n).length := by unfold sized; rw [List.length_map]; exact List.length_filter_le _ _
          have h2 : (m.sh.take n).length ≤ n := List.length_take_le _ _
          omega
        obtain ⟨i0, hi0, hz0, hz1, hz2⟩ := info_parts info3
        refine wpList_append_own_at _ rfl (.tmp 29) (.tmp 34) 31 rfl (B + 2) 3 i0 _ 1 8 und22 hi0 hz0 hz1 hz2 rfl (by decide) vd _ _ rfl (ownsRow_below hod b6) ⟨wr.heap.size, 0, none⟩ 1 1 [.int .i64 (z : Nat)] rfl rfl (fun j u hu => by rw [add_none, Nat.zero_add]; exact r6.at j u hu) (by intro z hz; obtain rfl := List.mem_singleton.1 hz; rfl) (by unfold maxLen; omega) (by omega) (by have := HIN.out.2.2.2; have := b6.size; omega) ?_
        intro v7 w7 o7 g7 _ l7
        simp only [Act.put, aS, aC, aZ]
        obtain ⟨h1, h2, h3, h4⟩ := two_rows (sb := B + 1) (by omega) hot hod (fun b hb e => hdis b e hb) b6 o7 g7 l7 ([v7, vt] : List Value).toArray
        have hr7 := h4 _ hr
        have hv7 := slice_of_own o7
        have blt : ∀ b, b < B + 1 → w7.heap[b]? = wr.heap[b]? := fun b hb => by
          have := HIN.out.2.2.2
          have := b6.size
          rw [g7.block b (by omega) (fun e => by have := (hod.lt b e.symm).1; omega), b6.block b (by omega)]
        refine wpList_field f24_0 (.tmp 3) rfl rfl (B + 1) 0 rfl ?_
        simp only [Act.put, aS, aC, aZ]
        refine wpList_store1 size22 (.tmp 36) (.tmp 35) rfl rfl rfl (B + 1) (0 + 0) 84 rfl v7 _ rfl hv7.1 hv7.2 hr7 (by simp) ?_
        refine wpList_nil ?_
        obtain ⟨w8, hw8⟩ : ∃ w8, w8 = w7.setRow (B + 1) ([v7, vt] : List Value).toArray := ⟨_, rfl⟩
        have e8 : w7.setRow (B + 1) (([vd, vt] : List Value).set (0 + 0) v7).toArray = w8 := by rw [hw8]; rfl
        rw [e8]
        have H8 : Hid (ShapeIn w8 (B + 1) (B + 2) (m.sh.take (n + 1)) ∧ Row w8 B 84 [.slice none 0 0, .slice none 0 0] ∧ Below B w w8 ∧ B + 2 ≤ w8.heap.size) := by
          have hsz : w8.heap.size = w7.heap.size := by rw [hw8]; simp [World.setRow]
          have hs7 := g7.size
          have hs6 := b6.size
          have hs0 := HIN.out.2.2.2
          refine ⟨?_, ?_, ?_, by omega⟩
          · rw [HSH.out, hw8]
            refine ⟨v7, vt, hr7.setRow _, ?_, ?_, fun b hb e => h3 b e hb⟩
            · rw [sized_snoc, if_pos rfl, List.length_append]; exact h2
            · rw [sized_snoc, if_neg (by simp)]; exact h1
          · show w8.heap[B]? = _
            rw [hw8, Go.setRow_other w7 (B + 1) B _ (by omega), blt B (by omega)]
            exact HIN.out.2.1
          · refine HIN.out.2.2.1.trans ⟨by rw [hw8]; exact g7.os.trans b6.os, by rw [hw8]; exact g7.tape.trans b6.tape, by rw [hw8]; exact g7.output.trans b6.output, by omega, fun b hb => ?_⟩
            rw [hw8, Go.setRow_other w7 (B + 1) b _ (by omega)]
            exact blt b (by omega)
        clear e8 hw8 h1 h2 h3 h4 hr7 hv7 blt o7 g7 l7 b6 r6 hr hod hot hdis hdr c1 c2 hw6
        go_wp2
        exact ⟨⟨n + 1, by omega, by go_num, H8.out⟩, by simp [intOf]; omega⟩
    · have e : n = N := by omega
      subst e
      clear hin hrB hbw hsz
      obtain ⟨vd, vt, hr, hod, hot, _⟩ := HIN.out.1
      have hB0 := HIN.out.2.1
      go_upto_region 9 with fail
      refine wp_region_lit ?_
      refine wpList_load agg24 (.tmp 3) rfl rfl (B + 1) 0 rfl [vd, vt] rfl (fun j u hu => by rw [Nat.zero_add]; exact hr.at j u hu) ?_
      simp only [Act.put, aS, aC, aZ]
      refine wpList_store0 agg24 (.tmp 2) (.tmp 38) rfl rfl rfl B 0 84 rfl [vd, vt] _ rfl rfl hB0 (by simp) ?one ?_
      case one =>
        intro u hu
        simp only [List.mem_cons, List.not_mem_nil, or_false] at hu
        rcases hu with rfl | rfl
        · exact (slice_of_own hod).2
        · exact (slice_of_own hot).2
      refine wpList_nil ?_
      rw [splice_all ([.slice none 0 0, .slice none 0 0] : List Value) [vd, vt] rfl]
      obtain ⟨w9, hw9⟩ : ∃ w9, w9 = wr.setRow B ([vd, vt] : List Value).toArray := ⟨_, rfl⟩
      rw [← hw9]
      have r9 : Row w9 B 84 [vd, vt] := by rw [hw9]; exact hB0.setRow _
      have hk9 : ∀ b, b ≠ B → w9.heap[b]? = wr.heap[b]? := fun b hb => by rw [hw9]; exact Go.setRow_other wr B b _ hb
      have hsh : m.sh.take n = m.sh := by rw [HN.out]; exact List.take_length
      rw [hsh] at hod hot
      have lower : ∀ {v : Value} {k : Nat} {xs : List Value}, wr.ownsRow (B + 2) 3 1 v k xs → w9.ownsRow B 3 1 v k xs := fun {v k xs} h => by
        have h' := own_kept (w' := w9) h fun b hb => hk9 b (by have := (h.lt b hb).1; omega)
        obtain ⟨hl, h'⟩ := h'
        refine ⟨hl, ?_⟩
        rcases h' with h' | ⟨g', cap', cur', e1, e2, e3⟩
        · exact Or.inl h'
        · exact Or.inr ⟨g', cap', cur', e1, by omega, e3⟩
      have H9 : Hid (w9.ownsRow B 3 1 vd (sized false m.sh).length (sized false m.sh) ∧ w9.ownsRow B 3 1 vt (sized true m.sh).length (sized true m.sh) ∧ Below B w w9) := ⟨lower hod, lower hot, HIN.out.2.2.1.trans ⟨by rw [hw9]; rfl, by rw [hw9]; rfl, by rw [hw9]; rfl, by rw [hw9]; simp [World.setRow], fun b hb => hk9 b (by omega)⟩⟩
      clear lower hod hot hr hB0 hk9 hw9 hsh
      go_wp2
      exact bodyPost_ret (results_cell agg24 Tryd.results33 _ _ B 84 rfl _ rfl r9) rfl ⟨vd, vt, rfl, H9.out⟩
end Go.Proofs.YtjnhhkfknlkfeaaDoor

namespace Go.Proofs.YtjnhhkfknlkfeaaDoor
open Go.RowKit Go.Maps

set_option maxHeartbeats 2000000 in
set_option maxRecDepth 100000 in
theorem rotNo_any {w : World} {c : Nat → Colour} {t g db cap : Nat} {gs : Nat → Nat} {m : Pl} (h : PlantAt w c t g db cap gs m) (hwf : m.WF) (d p a y : Int) (hno : ¬ (m.has d ∧ (0 ≤ p ∧ p < ((m.fl d.toNat).length : Int)) ∧ 0 ≤ a ∧ a < 64)) :
    Calls Tryd.prog 24 #[ptr g, .int .i64 d, .int .i64 p, .int .i64 a, .int .i64 y] w fun e w' => e = .returned (.bool false) ∧ w = w' := by
  by_cases hhas : m.has d
  case neg =>
    have C41 : Hid (Calls Tryd.prog 47 #[ptr g, .int .i64 d] w fun e w' => e = .returned (.pointer none) ∧ w = w') := (device_no h d hhas).mono fun _ _ h => ⟨h.1, h.2.symm⟩
    clear h hno hwf
    go_enter Tryd.func24, Tryd.ntmps24
    go_wp2_with (go_at_call 47; refine C41.out.mono ?_; rintro e wx ⟨rfl, rfl⟩)
    go_ret
    exact ⟨rfl, rfl⟩
  case pos =>
    obtain ⟨i, rfl⟩ : ∃ i : Nat, d = (i : Int) := ⟨d.toNat, by have := hhas.1; omega⟩
    have hi : i < m.n := by have := hhas.2; omega
    rw [show (i : Int).toNat = i by omega] at hno
    have hd := h.dev i hi
    have cs54 := lengthF_any hd
    have hLF : (if m.tape i then (m.fl i).length else m.size i) = (m.fl i).length := by
      split
      · rfl
      · rename_i ht
        exact (hwf.disk i hi (by simpa using ht)).symm
    rw [hLF] at cs54
    have C41 : Hid (Calls Tryd.prog 47 #[ptr g, .int .i64 (i : Int)] w fun e w' => e = .returned (ptr (gs i)) ∧ w = w') := (device_at h _ i rfl hi).mono fun _ _ h => ⟨h.1, h.2.symm⟩
    have C54 : Hid (Calls Tryd.prog 48 #[ptr (gs i)] w fun e w' => e = .returned (.int .i64 ((m.fl i).length : Int)) ∧ w = w') := cs54.mono fun _ _ h => ⟨h.1, h.2.symm⟩
    generalize (m.fl i).length = F at C54 hno
    generalize gs i = gd at C41 C54
    clear h hd cs54 hLF hwf
    by_cases hp0 : p < 0
    · have hp0' : decide (p < 0) = true := decide_eq_true hp0
      clear hno
      go_enter Tryd.func24, Tryd.ntmps24
      go_wp2_with (first | (go_at_call 47; refine C41.out.mono ?_; rintro e wx ⟨rfl, rfl⟩) | (go_at_call 48; refine C54.out.mono ?_; rintro e wx ⟨rfl, rfl⟩))
      go_ret
      exact ⟨rfl, rfl⟩
    have hp0' : decide (p < 0) = false := decide_eq_false hp0
    by_cases hpF : (F : Int) ≤ p
    · have hpF' : decide ((F : Int) ≤ p) = true := decide_eq_true hpF
      clear hno
      go_enter Tryd.func24, Tryd.ntmps24
      go_wp2_with (first | (go_at_call 47; refine C41.out.mono ?_; rintro e wx ⟨rfl, rfl⟩) | (go_at_call 48; refine C54.out.mono ?_; rintro e wx ⟨rfl, rfl⟩))
      go_ret
      exact ⟨rfl, rfl⟩
    have hpF' : decide ((F : Int) ≤ p) = false := decide_eq_false hpF
    by_cases ha0 : a < 0
    · have ha0' : decide (a < 0) = true := decide_eq_true ha0
      clear hno
      go_enter Tryd.func24, Tryd.ntmps24
      go_wp2_with (first | (go_at_call 47; refine C41.out.mono ?_; rintro e wx ⟨rfl, rfl⟩) | (go_at_call 48; refine C54.out.mono ?_; rintro e wx ⟨rfl, rfl⟩))
      go_ret
      exact ⟨rfl, rfl⟩
    have ha0' : decide (a < 0) = false := decide_eq_false ha0
    have ha64 : (64 : Int) ≤ a := by
      apply Classical.byContradiction
      intro hc
      exact hno ⟨hhas, ⟨by omega, by omega⟩, by omega, by omega⟩
    have ha64' : decide ((64 : Int) ≤ a) = true := decide_eq_true ha64
    clear hno
    go_enter Tryd.func24, Tryd.ntmps24
    go_wp2_with (first | (go_at_call 47; refine C41.out.mono ?_; rintro e wx ⟨rfl, rfl⟩) | (go_at_call 48; refine C54.out.mono ?_; rintro e wx ⟨rfl, rfl⟩))
    go_ret
    exact ⟨rfl, rfl⟩
/-- Rot: the answer, and the plant behind it -/
def Pl.rot (m : Pl) (d p a y : Int) : Bool × Pl := if m.has d ∧ (0 ≤ p ∧ p < ((m.fl d.toNat).length : Int)) ∧ 0 ≤ a ∧ a < 64 then (true, m.rotted d.toNat p.toNat (turned ((m.fl d.toNat).getD p.toNat zeros) a.toNat y)) else (false, m)
theorem Pl.rotted_wf {m : Pl} (h : m.WF) (i p : Nat) (s : List Nat) (hs : Sec s) : (m.rotted i p s).WF := by
  have hl : ∀ j, ((m.rotted i p s).fl j).length = (m.fl j).length := fun j => by
    show (upd m.fl i _ j).length = _
    unfold upd
    split
    · rename_i e; rw [e, List.length_set]
    · rfl
  refine ⟨h.few, h.pos, h.sizes, fun j x hx => ?_, fun j hj ht => by rw [hl j]; exact h.disk j hj ht, fun j hj ht => by rw [hl j]; exact h.tapes j hj ht, h.wsec, h.wdev, h.order, h.count, h.fuse0, h.fuse1, h.clock0, h.clock1⟩
  have hx : x ∈ upd m.fl i ((m.fl i).set p s) j := hx
  unfold upd at hx
  split at hx
  · rcases List.mem_or_eq_of_mem_set hx with hx | rfl
    · exact h.secs i x hx
    · exact hs
  · exact h.secs j x hx
theorem Pl.rot_wf {m : Pl} (h : m.WF) (d p a y : Int) : (m.rot d p a y).2.WF := by
  unfold Pl.rot
  split
  · rename_i hc
    refine Pl.rotted_wf h _ _ _ (turned_sec ?_ _ _)
    have hp : p.toNat < (m.fl d.toNat).length := by omega
    exact h.secs d.toNat _ (by rw [List.getD_eq_getElem?_getD, List.getElem?_eq_getElem hp]; exact List.getElem_mem hp)
  · exact h
theorem Live.rot {w : World} {c : Nat → Colour} {t g : Nat} {m : Pl} (h : Live w c t g m) (d p a y : Int) : Calls Tryd.prog 24 #[ptr g, .int .i64 d, .int .i64 p, .int .i64 a, .int .i64 y] w fun e w' => e = .returned (.bool (m.rot d p a y).1) ∧ Next w c t g (m.rot d p a y).2 w' := by
  have hwf2 := Pl.rot_wf h.2.1 d p a y
  obtain ⟨⟨db, cap, gs, hP⟩, hwf, hfr⟩ := h
  by_cases hc : m.has d ∧ (0 ≤ p ∧ p < ((m.fl d.toNat).length : Int)) ∧ 0 ≤ a ∧ a < 64
  · have e : m.rot d p a y = (true, m.rotted d.toNat p.toNat (turned ((m.fl d.toNat).getD p.toNat zeros) a.toNat y)) := if_pos hc
    rw [e] at hwf2 ⊢
    have hh := hc.1
    unfold Pl.has at hh
    have h0 := rotOk_any hP hwf d.toNat p.toNat a.toNat (by omega) (by omega) (by omega) y
    rw [show (d.toNat : Int) = d by omega, show (p.toNat : Int) = p by omega, show (a.toNat : Int) = a by omega] at h0
    exact h0.mono fun e w' ⟨he, hP', hch⟩ => ⟨he, Live.post ⟨c, fun _ _ => rfl, hP', hch.mono fun b _ hb => by rw [hb]⟩ hwf2⟩
  · have e : m.rot d p a y = (false, m) := if_neg hc
    rw [e] at hwf2 ⊢
    exact (rotNo_any hP hwf d p a y hc).mono fun e w' ⟨he, hw⟩ => ⟨he, by rw [← hw]; exact Live.post ⟨c, fun _ _ => rfl, hP, Ch.refl _ _⟩ hwf⟩
end Go.Proofs.YtjnhhkfknlkfeaaDoor

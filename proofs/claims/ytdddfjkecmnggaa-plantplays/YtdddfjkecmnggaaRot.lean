/- The walk of Plant.Rot. -/
import Derived.Test.YtdddfjkecmnggaaME
namespace Go.Proofs.Ytdddfjkecmnggaa
open Go.RowKit Go.Maps

/-- the byte of a number -/
def byte8 (n : Int) : Nat := (n % 256).toNat
theorem byte8_lt (n : Int) : byte8 n < 256 := by unfold byte8; omega
theorem run_conv35 (w : World) (n : Int) : (convert 3 5 (.int .i64 n)).run Try.prog w = .ok (.int .u8 (byte8 n : Nat)) w := by
  have e : ((byte8 n : Nat) : Int) = n % 256 := by unfold byte8; omega
  rw [e]
  simp [convert, run_underlying Try.underlying5, run_underlying Try.underlying3, Conv.intToInt, IntKind.wrap, IntKind.signed, IntKind.bits]
theorem xor_256 {x y : Nat} (hx : x < 256) (hy : y < 256) : x ^^^ y < 256 := Nat.xor_lt_two_pow (n := 8) hx hy
theorem run_xor8 (w : World) (x y : Nat) (hx : x < 256) (hy : y < 256) : (binOp .xor 5 (.int .u8 (x : Int)) (.int .u8 (y : Int))).run Try.prog w = .ok (.int .u8 ((x ^^^ y : Nat) : Int)) w := by
  have hlt := xor_256 hx hy
  simp [binOp, Op.intBits]
  show IntKind.u8.wrap ((x % 256 ^^^ y % 256 : Nat) : Int) = _
  rw [Nat.mod_eq_of_lt hx, Nat.mod_eq_of_lt hy]
  generalize x ^^^ y = z at hlt ⊢
  simp [IntKind.wrap, IntKind.signed, IntKind.bits]
  omega
def turned (s : List Nat) (a : Nat) (n : Int) : List Nat := s.set a (s.getD a 0 ^^^ byte8 n)
theorem turned_sec {s : List Nat} (h : Sec s) (a : Nat) (n : Int) : Sec (turned s a n) := by
  refine ⟨by unfold turned; simpa using h.1, fun c hc => ?_⟩
  rcases List.mem_or_eq_of_mem_set hc with hc | rfl
  · exact h.2 c hc
  · refine xor_256 ?_ (byte8_lt n)
    by_cases hj : a < s.length
    · simpa [hj] using h.2 _ (List.getElem_mem hj)
    · simp [hj]
/-- one place of what is flushed has turned -/
theorem FlIn.turnAt {w' : World} {b : Nat} {tape : Bool} {fl : List (List Nat)} {f : Nat → Option (List Nat)} {n p : Nat} {s : List Nat} (hf : ∀ q, q < fl.length → (f q).getD zeros = fl.getD q zeros) (hft : tape = true → n = fl.length ∧ ∀ q, (f q).isSome = decide (q < fl.length))
    (hp : p < fl.length) (hm : MapAt secs w' b (if (f p).isSome then n else n + 1) (fun q => if q = p then some s else f q)) : FlIn w' b tape (fl.set p s) := by
  refine ⟨_, _, hm, fun q hq => ?_, fun ht => ?_⟩
  · simp only [List.length_set] at hq
    by_cases e : q = p
    · subst e
      simp [hp]
    · rw [if_neg e, hf q hq]
      simp [List.getElem?_set_ne (Ne.symm e)]
  · obtain ⟨hn, his⟩ := hft ht
    have hpf : (f p).isSome = true := by rw [his p]; simpa using hp
    refine ⟨by rw [if_pos hpf]; simpa using hn, fun q => ?_⟩
    by_cases e : q = p
    · subst e
      simp [hp]
    · rw [if_neg e, his q]
      simp
theorem run_index84 {w : World} {a : Act} {o : Oper} (x ix : Operand) (ho : o.op = .indexAddr 84 x ix) (b j : Nat) (hx : a.eval x = .pointer (some ⟨b, 0, none⟩)) (hix : a.eval ix = .int .i64 (j : Nat)) (hj : j < 64) : (execOp a.eval o).run Try.prog w = .ok (.value (.pointer (some ⟨b, j, none⟩))) w := by
  have hs : (Try.prog.info? 5).map (·.size) = some 1 := by kernel_rfl
  obtain ⟨i, hi, hsz⟩ := Option.map_eq_some_iff.1 hs
  simp [execOp, ho, hx, hix, Instr.indexAt, asIntOf, run_underlying Try.underlying84, Instr.sureAddr, sizeOf, typeInfo, hi, hsz, hj, add_none]
theorem one5' : OneT 5 := fun w g o v h => by simp [loadVar, isAgg, run_underlying Try.underlying5, h]
theorem size5' : (Try.prog.info? 5).map (·.size) = some 1 := by kernel_rfl
def Pl.rotted (m : Pl) (i p : Nat) (s : List Nat) : Pl := { m with fl := upd m.fl i ((m.fl i).set p s) }

set_option maxHeartbeats 2000000 in
set_option maxRecDepth 100000 in
theorem rotOk_any {w : World} {c : Nat → Colour} {t g db cap : Nat} {gs : Nat → Nat} {m : Pl} (h : PlantAt w c t g db cap gs m) (hwf : m.WF) (i p a : Nat) (hi : i < m.n) (hp : p < (m.fl i).length) (ha : a < 64) (y : Int) :
    Calls Try.prog 27 #[ptr g, .int .i64 (i : Int), .int .i64 (p : Int), .int .i64 (a : Int), .int .i64 y] w fun e w' => e = .returned (.bool true) ∧ PlantAt w' c t g db cap gs (m.rotted i p (turned ((m.fl i).getD p zeros) a y)) ∧ Ch (fun b => c b = (t, i + 1)) w w' := by
  have hd := h.dev i hi
  have cs41 := device_in w g db m.n cap (gs i) i h.c0 hi (h.cell i hi)
  have cs54 := lengthF_any hd
  obtain ⟨gd, hgd⟩ : ∃ gd, gd = gs i := ⟨_, rfl⟩
  obtain ⟨L, hL⟩ : ∃ L, L = (m.fl i).length := ⟨_, rfl⟩
  have hLF : (if m.tape i then (m.fl i).length else m.size i) = L := by
    rw [hL]
    split
    · rfl
    · rename_i ht
      exact (hwf.disk i hi (by simpa using ht)).symm
  rw [hLF] at cs54
  rw [← hgd] at cs54 cs41
  have C41 : Hid (Calls Try.prog 41 #[ptr g, .int .i64 (i : Int)] w fun e w' => e = .returned (ptr gd) ∧ w = w') := cs41.mono fun _ _ h => ⟨h.1, h.2.symm⟩
  have C54 : Hid (Calls Try.prog 54 #[ptr gd] w fun e w' => e = .returned (.int .i64 (L : Int)) ∧ w = w') := cs54.mono fun _ _ h => ⟨h.1, h.2.symm⟩
  have HP : Hid (PlantAt w c t g db cap gs m) := h
  have HI : Hid (i < m.n) := hi
  have hpL : p < L := by rw [hL]; exact hp
  have HL : Hid (L = (m.fl i).length) := hL
  have hL4 : L ≤ 4096 := by
    have h1 := hwf.sizes i hi
    rw [hL]
    by_cases ht : m.tape i = true
    · have := (hwf.tapes i hi ht).1; omega
    · have := hwf.disk i hi (by simpa using ht); omega
  have hsec : Sec ((m.fl i).getD p zeros) := by
    have hm : (m.fl i).getD p zeros ∈ m.fl i := by
      rw [List.getD_eq_getElem?_getD, List.getElem?_eq_getElem hp]
      exact List.getElem_mem hp
    exact hwf.secs i _ hm
  obtain ⟨s0, hs0⟩ : ∃ s0, s0 = (m.fl i).getD p zeros := ⟨_, rfl⟩
  rw [← hs0] at hsec ⊢
  have HS0 : Hid (s0 = (m.fl i).getD p zeros) := hs0
  obtain ⟨bm, bl, v, hr, hg, hmc, hlc, hne, ⟨f, nf, hm1, hf1, hf2⟩, hwt, hlt⟩ := hd
  rw [← hgd] at hr hg
  have HDV : Hid (DevAt w c (t, i + 1) gd bm bl v (m.tape i) (m.size i) (m.fl i) (m.wt i)) := ⟨hr, hg, hmc, hlc, hne, ⟨f, nf, hm1, hf1, hf2⟩, hwt, hlt⟩
  have HM : Hid (MapAt secs w bm nf f ∧ (∀ q, q < (m.fl i).length → (f q).getD zeros = (m.fl i).getD q zeros) ∧ (m.tape i = true → nf = (m.fl i).length ∧ ∀ q, (f q).isSome = decide (q < (m.fl i).length))) := ⟨hm1, hf1, hf2⟩
  have hfp : (f p).getD zeros = s0 := by rw [hs0]; exact hf1 p hp
  have HR : Hid (Row w gd 76 [.bool (m.tape i), .int .i64 (m.size i : Nat), .map (some bm), v, .map (some bl)]) := hr
  have HGD : Hid (gd = gs i) := hgd
  have t1 : decide ((p : Int) < 0) = false := by simp
  have t2 : decide ((L : Int) ≤ (p : Int)) = false := by simp; omega
  have t3 : decide ((a : Int) < 0) = false := by simp
  have t4 : decide (64 ≤ (a : Int)) = false := by simp; omega
  clear h hwf hi hp hL hs0 cs41 cs54 hgd hLF hr hg hmc hlc hne hm1 hf1 hf2 hwt hlt
  go_enter Try.func27, Try.ntmps27
  go_upto_region 4 with (first | (go_at_call 41; refine C41.out.mono ?_; rintro e wx ⟨rfl, rfl⟩) | (go_at_call 54; refine C54.out.mono ?_; rintro e wx ⟨rfl, rfl⟩))
  refine wp_region_lit ?_
  refine wpList_move (.tmp 11) rfl rfl (ptr gd) rfl ?_
  simp only [Act.put, List.setIfInBounds_toArray, List.set_cons_succ, List.set_cons_zero]
  refine wpList_nilCheck (.tmp 36) rfl rfl _ rfl ?_
  simp only [Act.put, List.setIfInBounds_toArray, List.set_cons_succ, List.set_cons_zero]
  refine wpList_field f76_2 (.tmp 37) rfl rfl gd 0 rfl ?_
  simp only [Act.put, List.setIfInBounds_toArray, List.set_cons_succ, List.set_cons_zero]
  refine wpList_load1 one72 (.tmp 38) rfl rfl gd (0 + 2) rfl _ (HR.out.at 2 _ rfl) ?_
  simp only [Act.put, List.setIfInBounds_toArray, List.set_cons_succ, List.set_cons_zero]
  refine wpList_move (.tmp 2) rfl rfl (.int .i64 (p : Int)) rfl ?_
  simp only [Act.put, List.setIfInBounds_toArray, List.set_cons_succ, List.set_cons_zero]
  refine wpList_lookMap HM.out.1 (.tmp 39) (.tmp 40) 72 84 rfl rfl Try.underlying72 zeros (zeroSec w) sec_zero p (by omega) rfl rfl ?_
  rw [show (f p).getD zeros = s0 from hfp]
  simp only [Act.put, List.setIfInBounds_toArray, List.set_cons_succ, List.set_cons_zero]
  have hl0 : (bcells s0).length = 64 := by rw [bcells_length]; exact hsec.1
  refine wpList_alloc_store agg84 _ zero84 rfl rfl rfl rfl rfl (.tmp 41) rfl (bcells s0) hl0 (by simp [zerosU8]) (bcells_one s0) (fun _ => rfl) (fun _ => rfl) ?_
  intro w1 r1 s1 b1
  refine wpList_nil ?_
  simp only [Act.put, List.setIfInBounds_toArray, List.set_cons_succ, List.set_cons_zero]
  obtain ⟨q, hq⟩ : ∃ q, q = w.heap.size := ⟨_, rfl⟩
  rw [← hq] at r1 s1 b1 ⊢
  have HQ : Hid (q = w.heap.size) := hq
  clear hq
  go_upto_region 5 with fail
  refine wp_region_lit ?_
  refine wpList_move (.tmp 3) rfl rfl (.int .i64 (a : Int)) rfl ?_
  simp only [Act.put, List.setIfInBounds_toArray, List.set_cons_succ, List.set_cons_zero]
  refine wpList_value rfl _ w1 (run_index84 (.tmp 12) (.tmp 42) rfl q a rfl rfl ha) ?_
  simp only [Act.put, List.setIfInBounds_toArray, List.set_cons_succ, List.set_cons_zero]
  have hx256 : s0.getD a 0 < 256 := by
    have hal : a < s0.length := by rw [hsec.1]; exact ha
    simpa [hal] using hsec.2 _ (List.getElem_mem hal)
  refine wpList_load1 one5' (.tmp 43) rfl rfl q a rfl (.int .u8 (s0.getD a 0 : Nat)) (r1.at a _ (bcells_at s0 a (by rw [hsec.1]; exact ha))) ?_
  simp only [Act.put, List.setIfInBounds_toArray, List.set_cons_succ, List.set_cons_zero]
  refine wpList_move (.tmp 4) rfl rfl (.int .i64 y) rfl ?_
  simp only [Act.put, List.setIfInBounds_toArray, List.set_cons_succ, List.set_cons_zero]
  refine wpList_value rfl (.int .u8 (byte8 y : Nat)) w1 (by
    have hc := run_conv35 w1 y
    simp [execOp, Act.eval, hc]) ?_
  simp only [Act.put, List.setIfInBounds_toArray, List.set_cons_succ, List.set_cons_zero]
  refine wpList_value rfl (.int .u8 ((s0.getD a 0 ^^^ byte8 y : Nat) : Int)) w1 (by
    have hc := run_xor8 w1 (s0.getD a 0) (byte8 y) hx256 (byte8_lt y)
    simp only [execOp, eqGuard_xor, Sem.run_bind, Sem.run_pure, Result.andThen_ok]
    simp [Act.eval]
    simp at hc
    rw [hc]
    rfl) ?_
  simp only [Act.put, List.setIfInBounds_toArray, List.set_cons_succ, List.set_cons_zero]
  refine wpList_value rfl _ w1 (run_index84 (.tmp 12) (.tmp 42) rfl q a rfl rfl ha) ?_
  simp only [Act.put, List.setIfInBounds_toArray, List.set_cons_succ, List.set_cons_zero]
  refine wpList_store1 size5' (.tmp 48) (.tmp 47) rfl rfl rfl q a 84 rfl (.int .u8 ((s0.getD a 0 ^^^ byte8 y : Nat) : Int)) _ rfl rfl rfl r1 (by rw [hl0]; exact ha) ?_
  refine wpList_nil ?_
  obtain ⟨w2, hw2⟩ : ∃ w2, w2 = w1.setRow q ((bcells s0).set a (.int .u8 ((s0.getD a 0 ^^^ byte8 y : Nat) : Int))).toArray := ⟨_, rfl⟩
  rw [← hw2]
  obtain ⟨s2, hs2⟩ : ∃ s2, s2 = turned s0 a y := ⟨_, rfl⟩
  have hse2 : Sec s2 := by rw [hs2]; exact turned_sec hsec a y
  have r2 : Row w2 q 84 (bcells s2) := by
    have e : bcells s2 = (bcells s0).set a (.int .u8 ((s0.getD a 0 ^^^ byte8 y : Nat) : Int)) := by
      rw [hs2]
      unfold turned bcells
      rw [List.map_set]
    rw [hw2, e]
    exact r1.setRow _
  have b2 : Below q w w2 := by
    rw [hw2]
    exact b1.trans ⟨rfl, rfl, rfl, by simp [World.setRow], fun k hk => Go.setRow_other w1 q k _ (by omega)⟩
  have hgq : gd < q := by rw [HQ.out]; exact HR.out.lt
  have d2 : w2.cell? ⟨gd, 2, none⟩ = some (.map (some bm)) := (HR.out.later b2 hgq).at 2 _ rfl
  have HR2 : Hid (Row w2 q 84 (bcells s2)) := r2
  have HB2 : Hid (Below q w w2) := b2
  have HS2 : Hid (s2 = turned s0 a y) := hs2
  clear r1 s1 b1 r2 b2 hw2 hs2 hl0 hx256
  go_upto_region 6 with fail
  refine wp_region_head_drew 6 (by kernel_rfl) (by kernel_rfl) ?_
  simp only [List.take_succ_cons, List.take_zero, List.drop_succ_cons, List.drop_zero]
  iterate 5 (go_big_quiet_step (fail))
  refine wpQuiet_load agg84 (.tmp 12) rfl rfl q 0 rfl (bcells s2) (by rw [bcells_length]; exact hse2.1) (fun W hW => by obtain ⟨n, rfl⟩ := hW; intro j u hu; rw [Nat.zero_add]; exact HR2.out.at j u hu) ?_
  refine wpQuiet_nil ?_
  intro _ hw'
  obtain ⟨nq, hw''⟩ := hw'
  subst hw''
  simp only [Act.put, List.setIfInBounds_toArray, List.set_cons_succ, List.set_cons_zero]
  have hm2 : MapAt secs (w2.drewN nq) bm nf f := HM.out.1.kept (HB2.out.block bm (by rw [HQ.out]; exact HM.out.1.lt))
  refine wpList_putMap0 hm2 (.tmp 52) (.tmp 53) (.tmp 54) 72 84 rfl rfl rfl Try.underlying72 p (by omega) s2 hse2 rfl rfl rfl ?_
  intro w3 hm3 t3
  refine wpList_nil ?_
  have hch2 : Ch (fun b => c b = (t, i + 1)) w (w2.drewN nq) := (Ch.of_below (by rw [← HQ.out]; exact HB2.out)).drewN nq
  have HCH : Hid (Ch (fun b => c b = (t, i + 1)) w w3) := hch2.grown t3.grown (fun b hb => by cases hb; exact Or.inl HDV.out.2.2.1)
  have HPA : Hid (PlantAt w3 c t g db cap gs (m.rotted i p s2)) := by
    refine HP.out.device _ i rfl (fun j hj => ⟨?_, rfl⟩) ⟨rfl, rfl, rfl, rfl⟩ HCH.out (fun _ _ => rfl) (fun _ => ?_)
    · show upd m.fl i _ j = _
      simp [upd, hj]
    · have e : (m.rotted i p s2).fl i = (m.fl i).set p s2 := by
        show upd m.fl i _ i = _
        simp [upd]
      rw [e, ← HGD.out]
      have hd2 : DevAt (w2.drewN nq) c (t, i + 1) gd bm bl v (m.tape i) (m.size i) (m.fl i) (m.wt i) := HDV.out.kept fun b hb hk => ⟨HB2.out.block b (by rw [HQ.out]; exact hb), hk⟩
      exact (hd2.flushed t3 (FlIn.turnAt HM.out.2.1 HM.out.2.2 (by rw [← HL.out]; exact hpL) hm3)).devIn
  clear hm2 hm3 t3 hch2 d2
  go_wp2
  go_ret
  exact ⟨rfl, by rw [← HS2.out]; exact HPA.out, HCH.out⟩
end Go.Proofs.Ytdddfjkecmnggaa

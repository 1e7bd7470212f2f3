/- Laws for walks: one operation at a time. The walk of Plant.Rot. The plant's own Rot where it refuses; Rot, Tick and Clone of a live plant. -/
import Derived.Test.YtpkkkkomdblpoaaDoorQ15
namespace Go.Proofs.YtpkkkkomdblpoaaDoor
open Go.RowKit Go.Maps

theorem ownK {w w' : World} {base e size n : Nat} {v : Value} {xs : List Value} (h : w.ownsRow base e size v n xs) (hb : ∀ b, v.ownBlock = some b → w'.heap[b]? = w.heap[b]?) : w'.ownsRow base e size v n xs := by
 obtain ⟨hl, h⟩ := h
 refine ⟨hl, ?_⟩
 rcases h with ⟨rfl, h⟩ | ⟨g, cap, cur, rfl, h0, hg, h⟩
 ·exact Or.inl ⟨rfl, h⟩
 ·exact Or.inr ⟨g, cap, cur, rfl, h0, (hb g rfl).trans hg, h⟩
theorem sliceK {w w' : World} {v : Value} {cs : List Nat} (h : SliceIn w v cs) (hb : ∀ b, v.ownBlock = some b → b < w.heap.size → w'.heap[b]? = w.heap[b]?) : SliceIn w' v cs := by
 obtain ⟨p, cap, rfl, hl, h⟩ := h
 refine ⟨p, cap, rfl, hl, ?_⟩
 rcases h with h | ⟨b, off, rfl, h1, h2⟩
 ·exact Or.inl h
 ·refine Or.inr ⟨b, off, rfl, fun j hj => ?_, h2⟩
  rw [← h1 j hj]
  exact World.cell?_of_block (w := w) (hb b rfl (block_lt_of_cell (h1 j hj)))
section
variable {w w0 : World} {ops : Array Oper} {rest : List Oper} {o : Oper} {a : Act} {Q : Exit → Act → World → Prop}
theorem wl (hgd : Region.wanted o (yielded ops a.tmps) = true) (v : Value) (w' : World) (hrun : (execOp a.eval o).run Tryd.prog w = .ok (.value v) w') (h : wpList Tryd.prog ops Q rest (a.put o.dst v) w') : wpList Tryd.prog ops Q (o :: rest) a w :=
 BigFrame.wpList_want hgd fun K hK => by
  unfold Oper.wp
  rw [hrun]
  exact hK _ _ h
theorem own_index {base e sz n : Nat} {v : Value} {xs : List Value} (hown : w0.ownsRow base e sz v n xs) {t : TypeId} (hu : Tryd.prog.underlying t = some (.slice e)) (hs : (Tryd.prog.info? e).map (·.size) = some sz) (k : Nat) (hk : k < n) :
  ∃ b, v.ownBlock = some b ∧ (∀ w', (Instr.indexAt t v (.int .i64 (k : Nat))).run Tryd.prog w' = .ok (.pointer (some ⟨b, k * sz, none⟩)) w') ∧ ∀ j, j < sz → w0.cell? ⟨b, k * sz + j, none⟩ = xs[k * sz + j]? := by
 obtain ⟨i5, hi5, hsz⟩ := Option.map_eq_some_iff.1 hs
 rcases hown.2 with ⟨rfl, rfl⟩ | ⟨g, cap, cur, rfl, _, hg, hcap, hmax, hcs, htake⟩
 ·omega
 ·refine ⟨g, rfl, fun w' => by simp [Instr.indexAt, asIntOf, run_underlying hu, hk, sizeOf, typeInfo, hi5, hsz, add_none], fun j hj => ?_⟩
  have hlt : k * sz + j < n * sz := by
   have : (k + 1) * sz ≤ n * sz := Nat.mul_le_mul_right sz hk
   rw [Nat.add_mul, Nat.one_mul] at this
   omega
  rw [← htake, List.getElem?_take, if_pos hlt]
  simp [World.cell?, hg]
end
theorem run_nil {w : World} {a : Act} {o : Oper} (x : Operand) (ho : o.op = .nilCheck x) (p : Addr) (hv : a.eval x = .pointer (some p)) : (execOp a.eval o).run Tryd.prog w = .ok (.value (.pointer (some p))) w := by
 simp [execOp, ho, hv]
theorem run_idx {w : World} {a : Act} {o : Oper} {t : TypeId} (x i : Operand) (ho : o.op = .indexAddr t x i) (v p I : Value) (hx : a.eval x = v) (hi : a.eval i = I) (hr : ∀ w', (Instr.indexAt t v I).run Tryd.prog w' = .ok p w') : (execOp a.eval o).run Tryd.prog w = .ok (.value p) w := by
 simp only [execOp, ho, hx, hi, hr, Sem.run_bind, Sem.run_pure, Result.andThen_ok]
theorem run_putRow {w : World} {o : Oper} {a : Act} {t : Nat} (hs : (Tryd.prog.info? t).map (·.size) = some 1) (x y : Operand) (ho : o.op = .store t x y) (g i T : Nat) (cur : List Value) (hx : a.eval x = .pointer (some ⟨g, i, none⟩)) (v : Value) (hy : a.eval y = v) (hv : v.cells = #[v] ∧ v.oneCell' = true) (hr : Row w g T cur) (hi : i < cur.length) :
  (execOp a.eval o).run Tryd.prog w = .ok .skip (w.setCell ⟨g, i, none⟩ v) := by
 obtain ⟨ti, hti, hsz⟩ := Option.map_eq_some_iff.1 hs
 have hst := run_storeCells_at (P := Tryd.prog) g i T [v] 0 cur.toArray w hr (by simp; omega) (by intro u hu; rw [List.mem_singleton.1 hu]; exact hv.2)
 simp only [Nat.add_zero] at hst
 have e : w.setRow g (splice cur i [v]).toArray = w.setCell ⟨g, i, none⟩ v := by
  have e1 : splice cur i [v] = cur.set i v := by
   rw [List.set_eq_take_append_cons_drop, if_pos hi]
   simp [splice]
  rw [setCell_eq_setRow w g i _ T (0, 0) v hr, e1, List.setIfInBounds_toArray]
 have hst' : (storeVar t ⟨g, i, none⟩ v).run Tryd.prog w = .ok () (w.setCell ⟨g, i, none⟩ v) := by
  rw [← e]
  simp [storeVar, sizeOf, typeInfo, hti, hsz, hv.1, hst, splice]
 simp [execOp, ho, hx, hy, Instr.storeAt, Instr.sureAddr, hst']
section
variable {w w0 : World} {ops : Array Oper} {rest : List Oper} {o : Oper} {a : Act} {Q : Exit → Act → World → Prop}
theorem wlS (hgd : Region.wanted o (yielded ops a.tmps) = true) (hd : o.dst = none) (w' : World) (hrun : (execOp a.eval o).run Tryd.prog w = .ok .skip w') (h : wpList Tryd.prog ops Q rest a w') : wpList Tryd.prog ops Q (o :: rest) a w :=
 BigFrame.wpList_want hgd fun K hK => by
  unfold Oper.wp
  rw [hrun]
  simp only [Oper.upon, hd]
  exact hK _ _ h
end
theorem row_cell' {W : World} {g T i : Nat} {cur : List Value} (h : Row W g T cur) (v : Value) : Row (W.setCell ⟨g, i, none⟩ v) g T (cur.set i v) := by
 rw [setCell_eq_setRow W g i _ T (0, 0) v h]
 have := h.setRow (cur.set i v)
 simpa using this
theorem own_cells {w : World} {base e sz n : Nat} {v : Value} {xs : List Value} (h : w.ownsRow base e sz v n xs) : v.cells = #[v] ∧ v.oneCell' = true := by
 rcases h.2 with ⟨rfl, _⟩ | ⟨g, cap, cur, rfl, _⟩
 ·exact ⟨rfl, rfl⟩
 ·exact ⟨rfl, rfl⟩
theorem own_later {w w' : World} {base e size n : Nat} {v : Value} {xs : List Value} (h : w.ownsRow base e size v n xs) (hb : Below w.heap.size w w') : w'.ownsRow base e size v n xs :=
 own_kept h fun q hq => hb.block q (h.lt q hq).2
section
variable {ops : Array Oper} {Q : Exit → Act → World → Prop} {a : Act} {w : World} {listed : Array Bool} {fuel : Nat} {S : World → Prop} {o : Oper}
end
end Go.Proofs.YtpkkkkomdblpoaaDoor

namespace Go.Proofs.YtpkkkkomdblpoaaDoor
open Go.RowKit Go.Maps

/-- the byte of a number -/
def byte8 (n : Int) : Nat := (n % 256).toNat
theorem byte8_lt (n : Int) : byte8 n < 256 := by unfold byte8; omega
theorem run_conv35 (w : World) (n : Int) : (convert 3 5 (.int .i64 n)).run Tryd.prog w = .ok (.int .u8 (byte8 n : Nat)) w := by
 have e : ((byte8 n : Nat) : Int) = n % 256 := by unfold byte8; omega
 rw [e]
 simp [convert, run_underlying Tryd.underlying5, run_underlying Tryd.underlying3, Conv.intToInt, IntKind.wrap, IntKind.signed, IntKind.bits]
theorem xor_256 {x y : Nat} (hx : x < 256) (hy : y < 256) : x ^^^ y < 256 := Nat.xor_lt_two_pow (n := 8) hx hy
theorem run_xor8 (w : World) (x y : Nat) (hx : x < 256) (hy : y < 256) : (binOp .xor 5 (.int .u8 (x : Int)) (.int .u8 (y : Int))).run Tryd.prog w = .ok (.int .u8 ((x ^^^ y : Nat) : Int)) w := by
 have hlt := xor_256 hx hy
 simp [binOp, Op.intBits]
 show IntKind.u8.wrap ((x % 256 ^^^ y % 256 : Nat) : Int) = _
 rw [Nat.mod_eq_of_lt hx, Nat.mod_eq_of_lt hy]
 generalize x ^^^ y = z at hlt ⊢
 simp [IntKind.wrap, IntKind.signed, IntKind.bits]
 omega
def turned (s : List Nat) (a : Nat) (n : Int) : List Nat := s.set a (s.getD a 0 ^^^ byte8 n)
theorem turned_sec {s : List Nat} (h : Sec s) (a : Nat) (n : Int) : Sec (turned s a n) := by
 refine ⟨by unfold turned; simpa using h.1, fun c hc => ?_⟩
 rcases List.mem_or_eq_of_mem_set hc with hc | rfl
 ·exact h.2 c hc
 ·refine xor_256 ?_ (byte8_lt n)
  by_cases hj : a < s.length
  ·simpa [hj] using h.2 _ (List.getElem_mem hj)
  ·simp [hj]
/-- one place of what is flushed has turned -/
theorem FlIn.turnAt {w' : World} {b : Nat} {tape : Bool} {fl : List (List Nat)} {f : Nat → Option (List Nat)} {n p : Nat} {s : List Nat} (hf : ∀ q, q < fl.length → (f q).getD zeros = fl.getD q zeros) (hft : tape = true → n = fl.length ∧ ∀ q, (f q).isSome = decide (q < fl.length))
  (hp : p < fl.length) (hm : MapAt secs w' b (if (f p).isSome then n else n + 1) (fun q => if q = p then some s else f q)) : FlIn w' b tape (fl.set p s) := by
 refine ⟨_, _, hm, fun q hq => ?_, fun ht => ?_⟩
 ·simp only [List.length_set] at hq
  by_cases e : q = p
  ·subst e
   simp [hp]
  ·rw [if_neg e, hf q hq]
   simp [List.getElem?_set_ne (Ne.symm e)]
 ·obtain ⟨hn, his⟩ := hft ht
  have hpf : (f p).isSome = true := by rw [his p]; simpa using hp
  refine ⟨by rw [if_pos hpf]; simpa using hn, fun q => ?_⟩
  by_cases e : q = p
  ·subst e
   simp [hp]
  ·rw [if_neg e, his q]
   simp
theorem run_index84 {w : World} {a : Act} {o : Oper} (x ix : Operand) (ho : o.op = .indexAddr 114 x ix) (b j : Nat) (hx : a.eval x = .pointer (some ⟨b, 0, none⟩)) (hix : a.eval ix = .int .i64 (j : Nat)) (hj : j < 64) : (execOp a.eval o).run Tryd.prog w = .ok (.value (.pointer (some ⟨b, j, none⟩))) w := by
 have hs : (Tryd.prog.info? 5).map (·.size) = some 1 := by kernel_rfl
 obtain ⟨i, hi, hsz⟩ := Option.map_eq_some_iff.1 hs
 simp [execOp, ho, hx, hix, Instr.indexAt, asIntOf, run_underlying Tryd.underlying114, Instr.sureAddr, sizeOf, typeInfo, hi, hsz, hj, add_none]
theorem one5' : OneT 5 := fun w g o v h => by simp [loadVar, isAgg, run_underlying Tryd.underlying5, h]
theorem size5' : (Tryd.prog.info? 5).map (·.size) = some 1 := by kernel_rfl
def Pl.rotted (m : Pl) (i p : Nat) (s : List Nat) : Pl := { m with fl := upd m.fl i ((m.fl i).set p s) }

set_option maxHeartbeats 2000000 in
set_option maxRecDepth 100000 in
theorem rotOk_any {w : World} {c : Nat → Colour} {t g db cap : Nat} {gs : Nat → Nat} {m : Pl} (h : PlantAt w c t g db cap gs m) (hwf : m.WF) (i p a : Nat) (hi : i < m.n) (hp : p < (m.fl i).length) (ha : a < 64) (y : Int) :
  Calls Tryd.prog 31 #[ptr g, .int .i64 (i : Int), .int .i64 (p : Int), .int .i64 (a : Int), .int .i64 y] w fun e w' => e = .returned (.bool true) ∧ PlantAt w' c t g db cap gs (m.rotted i p (turned ((m.fl i).getD p zeros) a y)) ∧ Ch (fun b => c b = (t, i + 1)) w w' := by
 have hd := h.dev i hi
 have cs41 := device_in w g db m.n cap (gs i) i h.c0 hi (h.cell i hi)
 have cs54 := lengthF_any hd
 obtain ⟨gd, hgd⟩ : ∃ gd, gd = gs i := ⟨_, rfl⟩
 obtain ⟨L, hL⟩ : ∃ L, L = (m.fl i).length := ⟨_, rfl⟩
 have hLF : (if m.tape i then (m.fl i).length else m.size i) = L := by
  rw [hL]
  split
  ·rfl
  ·rename_i ht
   exact (hwf.disk i hi (by simpa using ht)).symm
 rw [hLF] at cs54
 rw [← hgd] at cs54 cs41
 have C41 : Hid (Calls Tryd.prog 54 #[ptr g, .int .i64 (i : Int)] w fun e w' => e = .returned (ptr gd) ∧ w = w') := cs41.mono fun _ _ h => ⟨h.1, h.2.symm⟩
 have C54 : Hid (Calls Tryd.prog 58 #[ptr gd] w fun e w' => e = .returned (.int .i64 (L : Int)) ∧ w = w') := cs54.mono fun _ _ h => ⟨h.1, h.2.symm⟩
 have HP : Hid (PlantAt w c t g db cap gs m) := h
 have HI : Hid (i < m.n) := hi
 have hpL : p < L := by rw [hL]; exact hp
 have HL : Hid (L = (m.fl i).length) := hL
 have hL4 : L ≤ 4096 := by
  have h1 := hwf.sizes i hi
  rw [hL]
  by_cases ht : m.tape i = true
  ·have := (hwf.tapes i hi ht).1; omega
  ·have := hwf.disk i hi (by simpa using ht); omega
 have hsec : Sec ((m.fl i).getD p zeros) := by
  have hm : (m.fl i).getD p zeros ∈ m.fl i := by
   rw [List.getD_eq_getElem?_getD, List.getElem?_eq_getElem hp]
   exact List.getElem_mem hp
  exact hwf.secs i _ hm
 obtain ⟨s0, hs0⟩ : ∃ s0, s0 = (m.fl i).getD p zeros := ⟨_, rfl⟩
 rw [← hs0] at hsec ⊢
 have HS0 : Hid (s0 = (m.fl i).getD p zeros) := hs0
 obtain ⟨bm, bl, v, hr, hg, hmc, hlc, hne, ⟨f, nf, hm1, hf1, hf2⟩, hwt, hlt⟩ := hd
 rw [← hgd] at hr hg
 have HDV : Hid (DevAt w c (t, i + 1) gd bm bl v (m.tape i) (m.size i) (m.fl i) (m.wt i)) := ⟨hr, hg, hmc, hlc, hne, ⟨f, nf, hm1, hf1, hf2⟩, hwt, hlt⟩
 have HM : Hid (MapAt secs w bm nf f ∧ (∀ q, q < (m.fl i).length → (f q).getD zeros = (m.fl i).getD q zeros) ∧ (m.tape i = true → nf = (m.fl i).length ∧ ∀ q, (f q).isSome = decide (q < (m.fl i).length))) := ⟨hm1, hf1, hf2⟩
 have hfp : (f p).getD zeros = s0 := by rw [hs0]; exact hf1 p hp
 have HR : Hid (Row w gd 125 [.bool (m.tape i), .int .i64 (m.size i : Nat), .map (some bm), v, .map (some bl)]) := hr
 have HGD : Hid (gd = gs i) := hgd
 have t1 : decide ((p : Int) < 0) = false := by simp
 have t2 : decide ((L : Int) ≤ (p : Int)) = false := by simp; omega
 have t3 : decide ((a : Int) < 0) = false := by simp
 have t4 : decide (64 ≤ (a : Int)) = false := by simp; omega
 clear h hwf hi hp hL hs0 cs41 cs54 hgd hLF hr hg hmc hlc hne hm1 hf1 hf2 hwt hlt
 go_enter Tryd.func31, Tryd.ntmps31
 go_upto_region 4 with (first | (go_at_call 54; refine C41.out.mono ?_; rintro e wx ⟨rfl, rfl⟩) | (go_at_call 58; refine C54.out.mono ?_; rintro e wx ⟨rfl, rfl⟩))
 refine wp_region_lit ?_
 refine wpList_move (.tmp 11) rfl rfl (ptr gd) rfl ?_
 simp only [Act.put, aS, aC, aZ]
 refine wpList_nilCheck (.tmp 36) rfl rfl _ rfl ?_
 simp only [Act.put, aS, aC, aZ]
 refine wpList_field f76_2 (.tmp 37) rfl rfl gd 0 rfl ?_
 simp only [Act.put, aS, aC, aZ]
 refine wpList_load1 one72 (.tmp 38) rfl rfl gd (0 + 2) rfl _ (HR.out.at 2 _ rfl) ?_
 simp only [Act.put, aS, aC, aZ]
 refine wpList_move (.tmp 2) rfl rfl (.int .i64 (p : Int)) rfl ?_
 simp only [Act.put, aS, aC, aZ]
 refine wpList_lookMap HM.out.1 (.tmp 39) (.tmp 40) 121 114 rfl rfl Tryd.underlying121 zeros (zeroSec w) sec_zero p (by omega) rfl rfl ?_
 rw [show (f p).getD zeros = s0 from hfp]
 simp only [Act.put, aS, aC, aZ]
 have hl0 : (bcells s0).length = 64 := by rw [bcells_length]; exact hsec.1
 refine wpList_alloc_store agg84 _ zero84 rfl rfl rfl rfl rfl (.tmp 41) rfl (bcells s0) hl0 (by simp [zerosU8]) (bcells_one s0) (fun _ => rfl) (fun _ => rfl) ?_
 intro w1 r1 s1 b1
 refine wpList_nil ?_
 simp only [Act.put, aS, aC, aZ]
 obtain ⟨q, hq⟩ : ∃ q, q = w.heap.size := ⟨_, rfl⟩
 rw [← hq] at r1 s1 b1 ⊢
 have HQ : Hid (q = w.heap.size) := hq
 clear hq
 go_upto_region 5 with fail
 refine wp_region_lit ?_
 refine wpList_move (.tmp 3) rfl rfl (.int .i64 (a : Int)) rfl ?_
 simp only [Act.put, aS, aC, aZ]
 refine wpList_value rfl _ w1 (run_index84 (.tmp 12) (.tmp 42) rfl q a rfl rfl ha) ?_
 simp only [Act.put, aS, aC, aZ]
 have hx256 : s0.getD a 0 < 256 := by
  have hal : a < s0.length := by rw [hsec.1]; exact ha
  simpa [hal] using hsec.2 _ (List.getElem_mem hal)
 refine wpList_load1 one5' (.tmp 43) rfl rfl q a rfl (.int .u8 (s0.getD a 0 : Nat)) (r1.at a _ (bcells_at s0 a (by rw [hsec.1]; exact ha))) ?_
 simp only [Act.put, aS, aC, aZ]
 refine wpList_move (.tmp 4) rfl rfl (.int .i64 y) rfl ?_
 simp only [Act.put, aS, aC, aZ]
 refine wpList_value rfl (.int .u8 (byte8 y : Nat)) w1 (by
  have hc := run_conv35 w1 y
  simp [execOp, Act.eval, hc]) ?_
 simp only [Act.put, aS, aC, aZ]
 refine wpList_value rfl (.int .u8 ((s0.getD a 0 ^^^ byte8 y : Nat) : Int)) w1 (by
  have hc := run_xor8 w1 (s0.getD a 0) (byte8 y) hx256 (byte8_lt y)
  simp only [execOp, eqGuard_xor, Sem.run_bind, Sem.run_pure, Result.andThen_ok]
  simp [Act.eval]
  simp at hc
  rw [hc]
  rfl) ?_
 simp only [Act.put, aS, aC, aZ]
 refine wpList_value rfl _ w1 (run_index84 (.tmp 12) (.tmp 42) rfl q a rfl rfl ha) ?_
 simp only [Act.put, aS, aC, aZ]
 refine wpList_store1 size5' (.tmp 48) (.tmp 47) rfl rfl rfl q a 114 rfl (.int .u8 ((s0.getD a 0 ^^^ byte8 y : Nat) : Int)) _ rfl rfl rfl r1 (by rw [hl0]; exact ha) ?_
 refine wpList_nil ?_
 obtain ⟨w2, hw2⟩ : ∃ w2, w2 = w1.setRow q ((bcells s0).set a (.int .u8 ((s0.getD a 0 ^^^ byte8 y : Nat) : Int))).toArray := ⟨_, rfl⟩
 rw [← hw2]
 obtain ⟨s2, hs2⟩ : ∃ s2, s2 = turned s0 a y := ⟨_, rfl⟩
 have hse2 : Sec s2 := by rw [hs2]; exact turned_sec hsec a y
 have r2 : Row w2 q 114 (bcells s2) := by
  have e : bcells s2 = (bcells s0).set a (.int .u8 ((s0.getD a 0 ^^^ byte8 y : Nat) : Int)) := by
   rw [hs2]
   unfold turned bcells
   rw [List.map_set]
  rw [hw2, e]
  exact r1.setRow _
 have b2 : Below q w w2 := by
  rw [hw2]
  exact b1.trans ⟨rfl, rfl, rfl, by simp [World.setRow], fun k hk => Go.setRow_other w1 q k _ (by omega)⟩
 have hgq : gd < q := by rw [HQ.out]; exact HR.out.lt
 have d2 : w2.cell? ⟨gd, 2, none⟩ = some (.map (some bm)) := (HR.out.later b2 hgq).at 2 _ rfl
 have HR2 : Hid (Row w2 q 114 (bcells s2)) := r2
 have HB2 : Hid (Below q w w2) := b2
 have HS2 : Hid (s2 = turned s0 a y) := hs2
 clear r1 s1 b1 r2 b2 hw2 hs2 hl0 hx256
 go_upto_region 6 with fail
 refine wp_region_head_drew 6 (by kernel_rfl) (by kernel_rfl) ?_
 simp only [List.take_succ_cons, List.take_zero, List.drop_succ_cons, List.drop_zero]
 iterate 5 (go_big_quiet_step (fail))
 refine wpQuiet_load agg84 (.tmp 12) rfl rfl q 0 rfl (bcells s2) (by rw [bcells_length]; exact hse2.1) (fun W hW => by obtain ⟨n, rfl⟩ := hW; intro j u hu; rw [Nat.zero_add]; exact HR2.out.at j u hu) ?_
 refine wpQuiet_nil ?_
 intro _ hw'
 obtain ⟨nq, hw''⟩ := hw'
 subst hw''
 simp only [Act.put, aS, aC, aZ]
 have hm2 : MapAt secs (w2.drewN nq) bm nf f := HM.out.1.kept (HB2.out.block bm (by rw [HQ.out]; exact HM.out.1.lt))
 refine wpList_putMap0 hm2 (.tmp 52) (.tmp 53) (.tmp 54) 121 114 rfl rfl rfl Tryd.underlying121 p (by omega) s2 hse2 rfl rfl rfl ?_
 intro w3 hm3 t3
 refine wpList_nil ?_
 have hch2 : Ch (fun b => c b = (t, i + 1)) w (w2.drewN nq) := (Ch.of_below (by rw [← HQ.out]; exact HB2.out)).drewN nq
 have HCH : Hid (Ch (fun b => c b = (t, i + 1)) w w3) := hch2.grown t3.grown (fun b hb => by cases hb; exact Or.inl HDV.out.2.2.1)
 have HPA : Hid (PlantAt w3 c t g db cap gs (m.rotted i p s2)) := by
  refine HP.out.device _ i rfl (fun j hj => ⟨?_, rfl⟩) ⟨rfl, rfl, rfl, rfl⟩ HCH.out (fun _ _ => rfl) (fun _ => ?_)
  ·show upd m.fl i _ j = _
   simp [upd, hj]
  ·have e : (m.rotted i p s2).fl i = (m.fl i).set p s2 := by
    show upd m.fl i _ i = _
    simp [upd]
   rw [e, ← HGD.out]
   have hd2 : DevAt (w2.drewN nq) c (t, i + 1) gd bm bl v (m.tape i) (m.size i) (m.fl i) (m.wt i) := HDV.out.kept fun b hb hk => ⟨HB2.out.block b (by rw [HQ.out]; exact hb), hk⟩
   exact (hd2.flushed t3 (FlIn.turnAt HM.out.2.1 HM.out.2.2 (by rw [← HL.out]; exact hpL) hm3)).devIn
 clear hm2 hm3 t3 hch2 d2
 go_wp2
 go_ret
 exact ⟨rfl, by rw [← HS2.out]; exact HPA.out, HCH.out⟩
end Go.Proofs.YtpkkkkomdblpoaaDoor

namespace Go.Proofs.YtpkkkkomdblpoaaDoor
open Go.RowKit Go.Maps

set_option maxHeartbeats 2000000 in
set_option maxRecDepth 100000 in
theorem rotNo_any {w : World} {c : Nat → Colour} {t g db cap : Nat} {gs : Nat → Nat} {m : Pl} (h : PlantAt w c t g db cap gs m) (hwf : m.WF) (d p a y : Int) (hno : ¬ (m.has d ∧ (0 ≤ p ∧ p < ((m.fl d.toNat).length : Int)) ∧ 0 ≤ a ∧ a < 64)) :
  Calls Tryd.prog 31 #[ptr g, .int .i64 d, .int .i64 p, .int .i64 a, .int .i64 y] w fun e w' => e = .returned (.bool false) ∧ w = w' := by
 by_cases hhas : m.has d
 case neg =>
  have C41 : Hid (Calls Tryd.prog 54 #[ptr g, .int .i64 d] w fun e w' => e = .returned (.pointer none) ∧ w = w') := (device_no h d hhas).mono fun _ _ h => ⟨h.1, h.2.symm⟩
  clear h hno hwf
  go_enter Tryd.func31, Tryd.ntmps31
  go_wp2_with (go_at_call 54; refine C41.out.mono ?_; rintro e wx ⟨rfl, rfl⟩)
  go_ret
  exact ⟨rfl, rfl⟩
 case pos =>
  obtain ⟨i, rfl⟩ : ∃ i : Nat, d = (i : Int) := ⟨d.toNat, by have := hhas.1; omega⟩
  have hi : i < m.n := by have := hhas.2; omega
  rw [show (i : Int).toNat = i by omega] at hno
  have hd := h.dev i hi
  have cs54 := lengthF_any hd
  have hLF : (if m.tape i then (m.fl i).length else m.size i) = (m.fl i).length := by
   split
   ·rfl
   ·rename_i ht
    exact (hwf.disk i hi (by simpa using ht)).symm
  rw [hLF] at cs54
  have C41 : Hid (Calls Tryd.prog 54 #[ptr g, .int .i64 (i : Int)] w fun e w' => e = .returned (ptr (gs i)) ∧ w = w') := (device_at h _ i rfl hi).mono fun _ _ h => ⟨h.1, h.2.symm⟩
  have C54 : Hid (Calls Tryd.prog 58 #[ptr (gs i)] w fun e w' => e = .returned (.int .i64 ((m.fl i).length : Int)) ∧ w = w') := cs54.mono fun _ _ h => ⟨h.1, h.2.symm⟩
  generalize (m.fl i).length = F at C54 hno
  generalize gs i = gd at C41 C54
  clear h hd cs54 hLF hwf
  by_cases hp0 : p < 0
  ·have hp0' : decide (p < 0) = true := decide_eq_true hp0
   clear hno
   go_enter Tryd.func31, Tryd.ntmps31
   go_wp2_with (first | (go_at_call 54; refine C41.out.mono ?_; rintro e wx ⟨rfl, rfl⟩) | (go_at_call 58; refine C54.out.mono ?_; rintro e wx ⟨rfl, rfl⟩))
   go_ret
   exact ⟨rfl, rfl⟩
  have hp0' : decide (p < 0) = false := decide_eq_false hp0
  by_cases hpF : (F : Int) ≤ p
  ·have hpF' : decide ((F : Int) ≤ p) = true := decide_eq_true hpF
   clear hno
   go_enter Tryd.func31, Tryd.ntmps31
   go_wp2_with (first | (go_at_call 54; refine C41.out.mono ?_; rintro e wx ⟨rfl, rfl⟩) | (go_at_call 58; refine C54.out.mono ?_; rintro e wx ⟨rfl, rfl⟩))
   go_ret
   exact ⟨rfl, rfl⟩
  have hpF' : decide ((F : Int) ≤ p) = false := decide_eq_false hpF
  by_cases ha0 : a < 0
  ·have ha0' : decide (a < 0) = true := decide_eq_true ha0
   clear hno
   go_enter Tryd.func31, Tryd.ntmps31
   go_wp2_with (first | (go_at_call 54; refine C41.out.mono ?_; rintro e wx ⟨rfl, rfl⟩) | (go_at_call 58; refine C54.out.mono ?_; rintro e wx ⟨rfl, rfl⟩))
   go_ret
   exact ⟨rfl, rfl⟩
  have ha0' : decide (a < 0) = false := decide_eq_false ha0
  have ha64 : (64 : Int) ≤ a := by
   apply Classical.byContradiction
   intro hc
   exact hno ⟨hhas, ⟨by omega, by omega⟩, by omega, by omega⟩
  have ha64' : decide ((64 : Int) ≤ a) = true := decide_eq_true ha64
  clear hno
  go_enter Tryd.func31, Tryd.ntmps31
  go_wp2_with (first | (go_at_call 54; refine C41.out.mono ?_; rintro e wx ⟨rfl, rfl⟩) | (go_at_call 58; refine C54.out.mono ?_; rintro e wx ⟨rfl, rfl⟩))
  go_ret
  exact ⟨rfl, rfl⟩
/-- Rot: the answer, and the plant behind it -/
def Pl.rot (m : Pl) (d p a y : Int) : Bool × Pl := if m.has d ∧ (0 ≤ p ∧ p < ((m.fl d.toNat).length : Int)) ∧ 0 ≤ a ∧ a < 64 then (true, m.rotted d.toNat p.toNat (turned ((m.fl d.toNat).getD p.toNat zeros) a.toNat y)) else (false, m)
theorem Pl.rotted_wf {m : Pl} (h : m.WF) (i p : Nat) (s : List Nat) (hs : Sec s) : (m.rotted i p s).WF := by
 have hl : ∀ j, ((m.rotted i p s).fl j).length = (m.fl j).length := fun j => by
  show (upd m.fl i _ j).length = _
  unfold upd
  split
  ·rename_i e; rw [e, List.length_set]
  ·rfl
 refine ⟨h.few, h.pos, h.sizes, fun j x hx => ?_, fun j hj ht => by rw [hl j]; exact h.disk j hj ht, fun j hj ht => by rw [hl j]; exact h.tapes j hj ht, h.wsec, h.wdev, h.order, h.count, h.fuse0, h.fuse1, h.clock0, h.clock1⟩
 have hx : x ∈ upd m.fl i ((m.fl i).set p s) j := hx
 unfold upd at hx
 split at hx
 ·rcases List.mem_or_eq_of_mem_set hx with hx | rfl
  ·exact h.secs i x hx
  ·exact hs
 ·exact h.secs j x hx
theorem Pl.rot_wf {m : Pl} (h : m.WF) (d p a y : Int) : (m.rot d p a y).2.WF := by
 unfold Pl.rot
 split
 ·rename_i hc
  refine Pl.rotted_wf h _ _ _ (turned_sec ?_ _ _)
  have hp : p.toNat < (m.fl d.toNat).length := by omega
  exact h.secs d.toNat _ (by rw [List.getD_eq_getElem?_getD, List.getElem?_eq_getElem hp]; exact List.getElem_mem hp)
 ·exact h
theorem Live.rot {w : World} {c : Nat → Colour} {t g : Nat} {m : Pl} (h : Live w c t g m) (d p a y : Int) : Calls Tryd.prog 31 #[ptr g, .int .i64 d, .int .i64 p, .int .i64 a, .int .i64 y] w fun e w' => e = .returned (.bool (m.rot d p a y).1) ∧ Next w c t g (m.rot d p a y).2 w' := by
 have hwf2 := Pl.rot_wf h.2.1 d p a y
 obtain ⟨⟨db, cap, gs, hP⟩, hwf, hfr⟩ := h
 by_cases hc : m.has d ∧ (0 ≤ p ∧ p < ((m.fl d.toNat).length : Int)) ∧ 0 ≤ a ∧ a < 64
 ·have e : m.rot d p a y = (true, m.rotted d.toNat p.toNat (turned ((m.fl d.toNat).getD p.toNat zeros) a.toNat y)) := if_pos hc
  rw [e] at hwf2 ⊢
  have hh := hc.1
  unfold Pl.has at hh
  have h0 := rotOk_any hP hwf d.toNat p.toNat a.toNat (by omega) (by omega) (by omega) y
  rw [show (d.toNat : Int) = d by omega, show (p.toNat : Int) = p by omega, show (a.toNat : Int) = a by omega] at h0
  exact h0.mono fun e w' ⟨he, hP', hch⟩ => ⟨he, Live.post ⟨c, fun _ _ => rfl, hP', hch.mono fun b _ hb => by rw [hb]⟩ hwf2⟩
 ·have e : m.rot d p a y = (false, m) := if_neg hc
  rw [e] at hwf2 ⊢
  exact (rotNo_any hP hwf d p a y hc).mono fun e w' ⟨he, hw⟩ => ⟨he, by rw [← hw]; exact Live.post ⟨c, fun _ _ => rfl, hP, Ch.refl _ _⟩ hwf⟩
end Go.Proofs.YtpkkkkomdblpoaaDoor

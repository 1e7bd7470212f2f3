/- Layer 14: a disk that is opened anew with what is in use on it. Layer 14: the stand opens its disk anew. -/
import Derived.Test.YthgidfoidbgnaaaDoorE50
namespace Go.Proofs.YthgidfoidbgnaaaDoor
open Go.RowKit Go.Maps

/-- a place with the mark that the law gives it -/
def bdP (i : Nat) (u : Nat × List Nat) : Pq := ⟨1, (u.1 : Nat), (costN u.2.length : Nat), decide (i % 2 = 0)⟩
/-- the last j places in use, the last one first -/
def rvP (us : List (Nat × List Nat)) : Nat → List Pq
 | 0 => []
 | j + 1 => rvP us j ++ [bdP (us.length - 1 - j) (us.getD (us.length - 1 - j) default)]
theorem rvP_length (us : List (Nat × List Nat)) : ∀ j, (rvP us j).length = j
 | 0 => rfl
 | j + 1 => by
  show (rvP us j ++ [_]).length = j + 1
  rw [List.length_append, rvP_length us j]
  rfl
theorem rvP_nat (us : List (Nat × List Nat)) : ∀ j, j ≤ us.length → (rvP us j).map natP = ((us.map plc).drop (us.length - j)).reverse
 | 0, _ => by
  show [] = _
  rw [List.drop_of_length_le (by rw [List.length_map]; omega)]
  rfl
 | j + 1, h => by
  show (rvP us j ++ [_]).map natP = _
  rw [List.map_append, rvP_nat us j (by omega)]
  have e1 : us.length - (j + 1) = us.length - 1 - j := by omega
  have e2 : us.length - 1 - j + 1 = us.length - j := by omega
  have hl : us.length - 1 - j < us.length := by omega
  have hl2 : us.length - 1 - j < (us.map plc).length := by rw [List.length_map]; exact hl
  rw [e1, List.drop_eq_getElem_cons hl2, e2, List.reverse_cons, List.getElem_map, List.getD_eq_getElem?_getD, List.getElem?_eq_getElem hl]
  rfl
theorem rvP_mem (us : List (Nat × List Nat)) : ∀ j, j ≤ us.length → ∀ x ∈ rvP us j, ∃ i u, u ∈ us ∧ x = bdP i u
 | 0, _, x, hx => by cases hx
 | j + 1, h, x, hx => by
  rcases List.mem_append.1 (show x ∈ rvP us j ++ [_] from hx) with hx | hx
  ·exact rvP_mem us j (by omega) x hx
  ·rw [List.mem_singleton] at hx
   exact ⟨_, _, getD_in us _ (by omega), hx⟩
theorem isPl_of {k : Nat} {u : Nat × Nat} (h : 1 ≤ u.2 ∧ u.1 / 16 < k ∧ u.1 % 16 + u.2 ≤ 16) : isPl 1 k 1 (u.1 : Nat) (u.2 : Nat) = true := by
 unfold isPl
 exact decide_eq_true (by omega)
theorem opr_all (d k : Nat) : ∀ (ps : List Pq) (qs : List (Nat × Nat)), (∀ x ∈ ps, isPl d k x.dv x.at_ x.ln = true) → (qs ++ ps.map natP).Pairwise (fun a b => a.1 + a.2 ≤ b.1 ∨ b.1 + b.2 ≤ a.1) → opr d k ps qs = some (qs ++ ps.map natP)
 | [], qs, _, _ => by simp [opr]
 | x :: r, qs, h1, h2 => by
  have e : opr d k (x :: r) qs = opr d k r (qs ++ [natP x]) := if_pos ⟨h1 x (by simp), fun u hu => (List.pairwise_append.1 h2).2.2 u hu (natP x) (by simp)⟩
  rw [e, opr_all d k r (qs ++ [natP x]) (fun y hy => h1 y (by simp [hy])) (by simpa using h2)]
  simp
theorem bdP_ok {k : Nat} {us : List (Nat × List Nat)} (ha : Apt k (us.map plc)) (hk : k ≤ 1000) : ∀ x ∈ rvP us us.length, x.ok ∧ isPl 1 k x.dv x.at_ x.ln = true := fun x hx => by
 obtain ⟨i, u, hu, rfl⟩ := rvP_mem us _ (Nat.le_refl _) x hx
 have h1 := ha.ok (plc u) (List.mem_map.2 ⟨u, hu, rfl⟩)
 have e1 : (plc u).1 = u.1 := rfl
 have e2 : (plc u).2 = costN u.2.length := rfl
 refine ⟨⟨⟨(by show (-9223372036854775808 : Int) ≤ 1; decide), (by show (1 : Int) ≤ 9223372036854775807; decide)⟩, ?_, ?_⟩, isPl_of h1⟩
 ·show I64 (u.1 : Nat)
  unfold I64
  omega
 ·show I64 (costN u.2.length : Nat)
  unfold I64
  omega
theorem rv_opr {k : Nat} {us : List (Nat × List Nat)} (ha : Apt k (us.map plc)) (hk : k ≤ 1000) : opr 1 k (rvP us us.length) [] = some (us.map plc).reverse := by
 have e := rvP_nat us us.length (Nat.le_refl _)
 rw [Nat.sub_self, List.drop_zero] at e
 have h := opr_all 1 k (rvP us us.length) [] (fun x hx => (bdP_ok ha hk x hx).2) (by
  rw [List.nil_append, e, List.pairwise_reverse]
  exact ha.apart.imp fun h => h.symm)
 rw [h, List.nil_append, e]
/-- what is to be opened -/
structure Cl (w W : World) (c : Nat → Colour) (gp : Nat) (m : Pl) (n : Nat) (us : List (Nat × List Nat)) (K : Nat) : Prop where
 pl : PlW w W c gp m n K
 on : m.on = true
 wt : m.wt 1 = []
 held : Held m us
 apt : Apt (n / 16) (us.map plc)
section
variable {w W W' : World} {c c' : Nat → Colour} {gp gh gf gm gs gr n K ever dims gh' gf' gm' : Nat} {m m' : Pl} {us : List (Nat × List Nat)} {vu vb : Value} {bl : List Value}
theorem Cl.bel (h : Cl w W c gp m n us K) (hb : Below W.heap.size W W') : Cl w W' c gp m n us K := ⟨h.pl.bel hb, h.on, h.wt, h.held, h.apt⟩
theorem Cl.len (h : Cl w W c gp m n us K) : us.length ≤ 4096 := by
 have h1 := h.apt.len
 have h2 := h.pl.hn
 rw [List.length_map] at h1
 omega
theorem HtW.apt (h : HtW w W c gp gh gf gm m n us K) : Apt (n / 16) (us.map plc) := by
 obtain ⟨fr, f, q, h1, h2, h3, h4, h5⟩ := h.hot
 have hok := h2.ok
 rw [h4] at hok
 exact ⟨fun u hu => ⟨(hok u hu).1, (hok u hu).2.2, (hok u hu).2.1⟩, h2.apart⟩
theorem HtW.cl (h : HtW w W c gp gh gf gm m n us K) : Cl w W c gp m n us K := ⟨h.pl, h.on, h.wt, h.held, h.apt⟩
theorem HtW.clB (h : HtW w W c gp gh gf gm m n us K) (ks : List Int) (hp : PlW w W' c' gp (m.boot ks) n K) : Cl w W' c' gp (m.boot ks) n us K :=
 ⟨hp, rfl, boot_wt m ks 1, h.held.rd fun _ _ _ _ => boot_rd m ks 1 _ h.wt, h.apt⟩
theorem Cl.open (h : Cl w W c gp m n us K) (hK : 4096 ≤ K) (vU : Value) (hu : PlsIn W vU (rvP us us.length)) : Calls Tryd.prog 18 #[ptr gp, .int .i64 1, vU] W fun e W' => ∃ gh gf gm, e = .returned (.tuple #[ptr gh, .int .i64 0]) ∧ Below W.heap.size W W' ∧ W.heap.size ≤ gh ∧ W.heap.size ≤ gf ∧ W.heap.size ≤ gm ∧ HtW w W' c gp gh gf gm m n us K := by
 have hn := h.pl.hn
 have hk : n / 16 ≤ 1000 := by omega
 refine (openH_any h.pl.live h.pl.shape (fun x hx => by simp at hx; omega) 1 (n / 16) (by simp) rfl _ _ hu).mono ?_
 have hr := rv_opr h.apt hk
 rcases opn_spec 1 (n / 16) (rvP us us.length) [] (List.replicate (n / 16) 65535) (fun _ => none) 0 (SegInv.new _) FM.nil List.length_replicate with ⟨fr', f', n', us', a1, a2, a3, a4, a5, a6⟩ | ⟨_, a2⟩
 ·rw [hr] at a2
  injection a2 with a2
  subst a2
  rintro e W' ⟨hb, ⟨h1, _⟩ | ⟨gh, gf, gm, fr, f, q, h1, h2, h3, h4, h5, h6⟩⟩
  ·rw [a1] at h1
   cases h1
  ·rw [a1] at h1
   injection h1 with h1
   injection h1 with e1 e2
   injection e2 with e2 e3
   subst e1 e2 e3
   have hz := h.pl.below.size
   have hp := List.reverse_perm (us.map plc)
   rw [rvP_length] at a6
   have hl := h.len
   exact ⟨gh, gf, gm, h2, hb, h4, h5, h6, ⟨h.pl.bel hb, ⟨_, _, _, h3, a3.perm hp, a4.perm hp, a5, by omega⟩, ⟨h.pl.live.2.2 gh h4, h.pl.live.2.2 gf h5, h.pl.live.2.2 gm h6⟩, ⟨by omega, by omega, by omega⟩, h.on, h.wt, h.held⟩⟩
 ·rw [hr] at a2
  cases a2
theorem Out.anew {q : Nat} (h : Out w W c gh gf gm q) (hs : W.heap.size ≤ W'.heap.size) (h1 : W.heap.size ≤ gh') (h2 : W.heap.size ≤ gf') (h3 : W.heap.size ≤ gm') : Out w W' c gh' gf' gm' q :=
 ⟨h.1, Nat.lt_of_lt_of_le h.2.1 hs, h.2.2.1, (fun e => by have := h.2.1; omega), (fun e => by have := h.2.1; omega), (fun e => by have := h.2.1; omega)⟩
theorem Sd.anew (d : Sd w W c gp gh gf gm gs gr n us vu vb bl ever dims) (hb : Ch (· = gs) W W') (hr : Row W' gs 38 (scells gp gh' gr (ever : Nat) (dims : Nat))) (h1 : W.heap.size ≤ gh') (h2 : W.heap.size ≤ gf') (h3 : W.heap.size ≤ gm') : Sd w W' c gp gh' gf' gm' gs gr n us vu vb bl ever dims := by
 have hk : ∀ b, (b = gr ∨ vu.ownBlock = some b ∨ vb.ownBlock = some b ∨ ∃ i, i < us.length ∧ (bl.getD i default).ownBlock = some b) → b < W.heap.size → W'.heap[b]? = W.heap[b]? := fun b hb' hlt => hb.block b hlt (d.r.ne d.row hb')
 have hs := hb.size
 refine ⟨hr, d.os.anew hs h1 h2 h3, ⟨?_, d.r.og.anew hs h1 h2 h3, d.r.u.kept fun b e => hk b (Or.inr (Or.inl e)) (d.r.u.lt e), fun b e => (d.r.uo b e).anew hs h1 h2 h3, ownK d.r.b fun b e => hk b (Or.inr (Or.inr (Or.inl e))) (World.ownsRow.lt d.r.b b e).2, fun b e => (d.r.bo b e).anew hs h1 h2 h3, fun i hi => ⟨ownK (d.r.s i hi).1 fun b e => hk b (Or.inr (Or.inr (Or.inr ⟨i, hi, e⟩))) (World.ownsRow.lt (d.r.s i hi).1 b e).2, fun b e => ((d.r.s i hi).2 b e).anew hs h1 h2 h3⟩⟩⟩
 unfold Row
 rw [hk gr (Or.inl rfl) d.r.row.lt]
 exact d.r.row
end
/-- places that may be spoilt: they lie in a block of their own, B or later, before T -/
def SplP (B T : Nat) (W : World) (v : Value) (L : Nat) : Prop := (∃ p c, v = .slice p L c) ∧ (0 < L → ∃ g cap cur, v = .slice (some ⟨g, 0, none⟩) L cap ∧ B ≤ g ∧ g < T ∧ Row W g 30 cur ∧ L * 4 ≤ cur.length)
theorem PlO.spl {B : Nat} {W : World} {v : Value} {ps : List Pq} (h : PlO W v ps) (hB : ∀ b, v.ownBlock = some b → B ≤ b) : SplP B W.heap.size W v ps.length := by
 have hlt := fun b (e : v.ownBlock = some b) => h.lt e
 rcases h.2 with ⟨rfl, h0⟩ | ⟨g, cap, cur, rfl, _, hg, hcap, hmax, hsz, htake⟩
 ·rw [h0]
  exact ⟨⟨_, _, rfl⟩, fun h => absurd h (by decide)⟩
 ·exact ⟨⟨_, _, rfl⟩, fun _ => ⟨g, cap, cur.toList, rfl, hB g rfl, hlt g rfl, (by unfold Row; rw [hg]), (by have e : cur.toList.length = cur.size := Array.length_toList; rw [e, hsz]; omega)⟩⟩
theorem SplP.keep {B T : Nat} {W W' : World} {v : Value} {L : Nat} (h : SplP B T W v L) (hk : ∀ b, B ≤ b → b < T → W'.heap[b]? = W.heap[b]?) : SplP B T W' v L := by
 refine ⟨h.1, fun hl => ?_⟩
 obtain ⟨g, cap, cur, h1, h2, h3, h4, h5⟩ := h.2 hl
 refine ⟨g, cap, cur, h1, h2, h3, ?_, h5⟩
 unfold Row
 rw [hk g h2 h3]
 exact h4
theorem splice_length {α : Type} (A X : List α) (o : Nat) (h : o + X.length ≤ A.length) : (splice A o X).length = A.length := by
 simp [splice]
 omega
theorem SplP.step {B T : Nat} {W : World} {v : Value} {L : Nat} (h : SplP B T W v L) (k : Nat) (hk : k < L) : ∃ g i cur, (∀ w', (Instr.indexAt 43 v (.int .i64 (k : Nat))).run Tryd.prog w' = .ok (.pointer (some ⟨g, i, none⟩)) w') ∧ Row W g 30 cur ∧ i + 4 ≤ cur.length ∧ B ≤ g ∧ g < T ∧ ∀ x : List Value, x.length = 4 → SplP B T (W.setRow g (splice cur i x).toArray) v L := by
 obtain ⟨g, cap, cur, e, hB, hT, hr, hl⟩ := h.2 (by omega)
 obtain ⟨i5, hi5, hsz⟩ := Option.map_eq_some_iff.1 sz30
 refine ⟨g, k * 4, cur, fun w' => ?_, hr, by omega, hB, hT, fun x hx => ⟨h.1, fun _ => ⟨g, cap, _, e, hB, hT, hr.setRow _, by rw [splice_length _ _ _ (by omega)]; exact hl⟩⟩⟩
 rw [e]
 simp [Instr.indexAt, asIntOf, run_underlying und43, hk, sizeOf, typeInfo, hi5, hsz, add_none]
theorem run_lenSplP {w w0 : World} {a : Act} {o : Oper} {B T : Nat} {v : Value} {L : Nat} (h : SplP B T w0 v L) (x : Operand) (ho : o.op = .call { callee := .builtin .len, args := #[x], argTypes := #[43] }) (hx : a.eval x = v) : (execOp a.eval o).run Tryd.prog w = .ok (.value (.int .i64 (L : Nat))) w := by
 obtain ⟨p, c, rfl⟩ := h.1
 exact run_lenZ sl43 x ho p _ _ hx
theorem run_storeO {w : World} {a : Act} {o : Oper} {t n : Nat} (ht : AggT t n) (x y : Operand) (ho : o.op = .store t x y) (g off T : Nat) (hx : a.eval x = .pointer (some ⟨g, off, none⟩)) (cs cur : List Value) (hy : a.eval y = .agg cs.toArray) (hn : cs.length = n) (hr : Row w g T cur) (hfit : off + cs.length ≤ cur.length) (h1 : ∀ v ∈ cs, v.oneCell' = true) : (execOp a.eval o).run Tryd.prog w = .ok .skip (w.setRow g (splice cur off cs).toArray) := by
 have := run_storeVar ht w g off T cur cs hn hr hfit h1
 simp [execOp, ho, hx, hy, Instr.storeAt, Instr.sureAddr, this]
theorem run_rem2 {w : World} {a : Act} {o : Oper} (x : Operand) (ho : o.op = .binOp .rem 3 x (.const (.int .i64 2)) 3) (k : Nat) (hx : a.eval x = .int .i64 (k : Nat)) : (execOp a.eval o).run Tryd.prog w = .ok (.value (.int .i64 ((k % 2 : Nat) : Int))) w := by
 have h := run_remK w (k : Int) 2 (by decide) (by omega)
 refine run_binOp' x (.const (.int .i64 2)) ho _ _ _ hx rfl rfl ?_
 rw [show ((k % 2 : Nat) : Int) = (k : Int) % ((2 : Nat) : Int) by omega]
 exact h
end Go.Proofs.YthgidfoidbgnaaaDoor

namespace Go.Proofs.YthgidfoidbgnaaaDoor
open Go.RowKit Go.Maps

theorem sz35h : (Tryd.prog.info? 35).map (·.size) = some 1 := by kernel_rfl
set_option maxHeartbeats 4000000 in
set_option maxRecDepth 100000 in
theorem opened_any {w W : World} {c : Nat → Colour} {gp gh gf gm gs gr n K : Nat} {m : Pl} {us : List (Nat × List Nat)} {vu vb : Value} {bl : List Value} {ever dims : Nat} (h : Cl w W c gp m n us K) (d : Sd w W c gp gh gf gm gs gr n us vu vb bl ever dims) (hK0 : 4096 ≤ K) (hK : K ≤ 1000000000000) : Calls Tryd.prog 16 #[ptr gs] W fun e w' => e = .returned (.bool true) ∧ ∃ gh2 gf2 gm2, HtW w w' c gp gh2 gf2 gm2 m n us K ∧ Sd w w' c gp gh2 gf2 gm2 gs gr n us vu vb bl ever dims := by
 have hul := h.len
 have HM : Hid ((Cl w W c gp m n us K) ∧ (Sd w W c gp gh gf gm gs gr n us vu vb bl ever dims) ∧ (us.map toP).length = us.length ∧ ∀ b, SdB gs gr vu vb us.length bl b → b < W.heap.size) := ⟨h, d, List.length_map _, fun b hb => (d.out hb).2.1⟩
 clear h d
 obtain ⟨PQ, HPQ⟩ := exPQ fun (e : Ending) (w' : World) => e = .returned (.bool true) ∧ ∃ gh2 gf2 gm2, HtW w w' c gp gh2 gf2 gm2 m n us K ∧ Sd w w' c gp gh2 gf2 gm2 gs gr n us vu vb bl ever dims
 rw [← HPQ.out]
 go_enter Tryd.func16, Tryd.ntmps16
 go_upto_region 0 with fail
 refine wp_region_lit ?_
 refine wl rfl (.bool false) _ (run_asZ (.const (.bool false)) rfl (.bool false) rfl) ?_
 simp only [Act.put, aS, aC, aZ]
 refine wpList_nil ?_
 go_upto_region 1 with fail
 refine wp_region_lit ?_
 refine wl rfl (.slice (some ⟨W.heap.size, 0, none⟩) 0 0) _ (run_plit0 rfl) ?_
 have hb_ := below_alloc W (.cells #[] 30)
 have p_ := plit0_row W
 obtain ⟨W1, hW_⟩ : ∃ U_ : World, U_ = W.alloc (.cells #[] 30) := ⟨_, rfl⟩
 obtain ⟨v0, hv_⟩ : ∃ v : Value, v = .slice (some ⟨W.heap.size, 0, none⟩) 0 0 := ⟨_, rfl⟩
 have ob_ : v0.ownBlock = some W.heap.size := (by rw [hv_]; rfl)
 rw [← hW_] at hb_ p_ ⊢
 rw [← hv_] at p_ ⊢
 have H1 : Hid (PlO W1 v0 [] ∧ (∀ b, v0.ownBlock = some b → W.heap.size ≤ b) ∧ Below W.heap.size W W1) := ⟨p_, fun b e => (by rw [ob_] at e; injection e with e; omega), hb_⟩
 clear hb_ p_ hW_ hv_ ob_
 simp only [Act.put, aS, aC, aZ]
 refine wl rfl v0 _ (run_asZ (.tmp 9) rfl v0 rfl) ?_
 simp only [Act.put, aS, aC, aZ]
 refine wpList_nil ?_
 have HD1 : Hid ((Sd w W1 c gp gh gf gm gs gr n us vu vb bl ever dims)) := HM.out.2.1.bel H1.out.2.2
 go_upto_region 2 with fail
 refine wp_region_lit ?_
 refine wl rfl (ptr gs) _ (run_mvZ (.tmp 0) rfl (ptr gs) rfl) ?_
 refine wl rfl (ptr gs) _ (run_nil (.tmp 10) rfl ⟨gs, 0, none⟩ rfl) ?_
 refine wl rfl (.pointer (some ⟨gs, 0 + 2, none⟩)) _ (run_fieldOp' f38_2 (.tmp 11) rfl gs (0) rfl) ?_
 refine wl rfl (ptr gr) _ (run_load1 o36 (.tmp 12) rfl gs (0 + 2) rfl (ptr gr) (HD1.out.row.at 2 _ rfl)) ?_
 simp only [Act.put, aS, aC, aZ]
 refine wl rfl (ptr gr) _ (run_nil (.tmp 13) rfl ⟨gr, 0, none⟩ rfl) ?_
 refine wl rfl (.pointer (some ⟨gr, 0 + 2, none⟩)) _ (run_fieldOp' f60_2 (.tmp 14) rfl gr (0) rfl) ?_
 refine wl rfl vu _ (run_load1 o43 (.tmp 15) rfl gr (0 + 2) rfl vu (HD1.out.r.row.at 2 _ rfl)) ?_
 refine wl rfl (.int .i64 (us.length : Nat)) _ (run_lenPI HM.out.2.1.r.u HM.out.2.2.1 (.tmp 16) rfl rfl) ?_
 simp only [Act.put, aS, aC, aZ]
 refine wl rfl (.int .i64 ((us.length : Nat) - 1 : Int)) _ (run_subZ (.tmp 17) (.const (.int .i64 1)) rfl (us.length : Nat) 1 _ rfl rfl (by omega) (by omega) (by omega)) ?_
 refine wl rfl (.int .i64 ((us.length : Nat) - 1 : Int)) _ (run_asZ (.tmp 18) rfl (.int .i64 ((us.length : Nat) - 1 : Int)) rfl) ?_
 simp only [Act.put, aS, aC, aZ]
 refine wpList_nil ?_
 go_wp2_with fail
 go_loopw [3, 4] (fun vU vi W' => ∃ i : Nat, vi = .int .i64 ((i : Nat) - 1 : Int) ∧ i ≤ us.length ∧ Hid (PlO W' vU (rvP us (us.length - i)) ∧ (∀ b, vU.ownBlock = some b → W.heap.size ≤ b) ∧ Below W.heap.size W W')) (fun _ vi _ => (intOf vi + 1).toNat)
 case atStart => exact ⟨us.length, rfl, Nat.le_refl _, ⟨(by rw [Nat.sub_self]; exact H1.out.1), H1.out.2.1, H1.out.2.2⟩⟩
 case round =>
  obtain ⟨vU, rfl⟩ : ∃ v, v = u3 := ⟨u3, rfl⟩
  obtain ⟨i, rfl, hi, HI⟩ := hrel
  cases i with
  | succ k =>
  have hkz : (((k + 1 : Nat) : Int) - 1) = (k : Nat) := (by omega)
  rw [hkz]
  have hk : k < us.length := hi
  go_upto_region 3 with fail
  refine wp_region_lit ?_
  refine wl rfl (.int .i64 (k : Nat)) _ (run_mvZ (.tmp 4) rfl (.int .i64 (k : Nat)) rfl) ?_
  refine wl rfl (.bool true) _ (run_geZ (.tmp 19) (.const (.int .i64 0)) rfl (k : Nat) 0 rfl rfl true (decide_eq_true (by omega))) ?_
  simp only [Act.put, aS, aC, aZ]
  refine wpList_nil ?_
  obtain ⟨u, hu⟩ : ∃ u, u = us.getD k default := ⟨_, rfl⟩
  obtain ⟨bu, _, hx_, hc_⟩ := HM.out.2.1.r.u.ix k (by rw [HM.out.2.2.1]; exact hk)
  rw [toP_at us k hk, ← hu] at hc_
  have HX : Hid ((∀ w', (Instr.indexAt 43 vu (.int .i64 (k : Nat))).run Tryd.prog w' = .ok (.pointer (some ⟨bu, k * 4, none⟩)) w') ∧ (∀ W' : World, PlO W' vu (us.map toP) → ∀ j x, (toP u).cells[j]? = some x → W'.cell? ⟨bu, k * 4 + j, none⟩ = some x) ∧ u = us.getD k default) := ⟨hx_, hc_, hu⟩
  have HD : Hid ((Sd w wr c gp gh gf gm gs gr n us vu vb bl ever dims)) := HM.out.2.1.bel HI.out.2.2
  clear hu hx_ hc_
  go_upto_region 5 with fail
  refine wp_region_lit ?_
  refine wl rfl (ptr gs) _ (run_mvZ (.tmp 0) rfl (ptr gs) rfl) ?_
  refine wl rfl (ptr gs) _ (run_nil (.tmp 23) rfl ⟨gs, 0, none⟩ rfl) ?_
  refine wl rfl (.pointer (some ⟨gs, 0 + 2, none⟩)) _ (run_fieldOp' f38_2 (.tmp 24) rfl gs (0) rfl) ?_
  refine wl rfl (ptr gr) _ (run_load1 o36 (.tmp 25) rfl gs (0 + 2) rfl (ptr gr) (HD.out.row.at 2 _ rfl)) ?_
  simp only [Act.put, aS, aC, aZ]
  refine wl rfl (ptr gr) _ (run_nil (.tmp 26) rfl ⟨gr, 0, none⟩ rfl) ?_
  refine wl rfl (.pointer (some ⟨gr, 0 + 2, none⟩)) _ (run_fieldOp' f60_2 (.tmp 27) rfl gr (0) rfl) ?_
  refine wl rfl vu _ (run_load1 o43 (.tmp 28) rfl gr (0 + 2) rfl vu (HD.out.r.row.at 2 _ rfl)) ?_
  refine wl rfl (.int .i64 (k : Nat)) _ (run_mvZ (.tmp 4) rfl (.int .i64 (k : Nat)) rfl) ?_
  simp only [Act.put, aS, aC, aZ]
  refine wl rfl (.pointer (some ⟨bu, k * 4, none⟩)) _ (run_idx (.tmp 29) (.tmp 30) rfl _ _ _ rfl rfl HX.out.1) ?_
  refine wl rfl (.agg ((toP u).cells).toArray) _ (run_loadA ag30 (.tmp 31) rfl bu (k * 4) rfl ((toP u).cells) rfl (HX.out.2.1 _ HD.out.r.u)) ?_
  refine wl rfl (ptr wr.heap.size) _ (run_allocA (plC 0 0 0 false) zero30 rfl) ?_
  have hb_ := below_alloc wr (.cells (plC 0 0 0 false).toArray 30)
  have r_ := Row.new wr 30 (plC 0 0 0 false)
  obtain ⟨V1, hW_⟩ : ∃ U_ : World, U_ = wr.alloc (.cells (plC 0 0 0 false).toArray 30) := ⟨_, rfl⟩
  obtain ⟨q5, hq_⟩ : ∃ q, q = wr.heap.size := ⟨_, rfl⟩
  rw [← hW_] at hb_
  rw [← hW_, ← hq_] at r_
  rw [← hW_, ← hq_]
  have HJ : Hid ((PlO V1 vU (rvP us (us.length - (k + 1))) ∧ (∀ b, vU.ownBlock = some b → W.heap.size ≤ b) ∧ Below W.heap.size W V1) ∧ Row V1 q5 30 (plC 0 0 0 false) ∧ W.heap.size ≤ q5 ∧ ∀ b, vU.ownBlock = some b → b ≠ q5) := ⟨⟨HI.out.1.kept fun b e => hb_.block b (HI.out.1.lt e), HI.out.2.1, HI.out.2.2.trans (hb_.mono HI.out.2.2.size)⟩, r_, (by have := HI.out.2.2.size; omega), fun b e => (by have := HI.out.1.lt e; omega)⟩
  clear r_ hb_ hW_ hq_ HI HD
  simp only [Act.put, aS, aC, aZ]
  refine wlS rfl rfl _ (run_storeA ag30 (.tmp 5) (.tmp 32) rfl q5 30 rfl (toP u).cells _ rfl rfl HJ.out.2.1 rfl (plC_one _ _ _ _)) ?_
  have hb_ := (Ch.setRow (S := (· = q5)) (Ch.refl _ V1) (Or.inl rfl) (toP u).cells.toArray)
  have r_ := HJ.out.2.1.setRow (toP u).cells
  obtain ⟨V2, hW_⟩ : ∃ U_ : World, U_ = V1.setRow q5 (toP u).cells.toArray := ⟨_, rfl⟩
  rw [← hW_] at hb_ r_ ⊢
  replace HJ : Hid ((PlO V2 vU (rvP us (us.length - (k + 1))) ∧ (∀ b, vU.ownBlock = some b → W.heap.size ≤ b) ∧ Below W.heap.size W V2) ∧ Row V2 q5 30 (toP u).cells ∧ W.heap.size ≤ q5 ∧ ∀ b, vU.ownBlock = some b → b ≠ q5) := ⟨⟨HJ.out.1.1.kept fun b e => hb_.block b (HJ.out.1.1.lt e) (HJ.out.2.2.2 b e), HJ.out.1.2.1, HJ.out.1.2.2.trans (hb_.below HJ.out.1.2.2.size fun k hk e => by have := HJ.out.2.2.1; omega)⟩, r_, HJ.out.2.2⟩
  clear r_ hb_ hW_
  refine wpList_nil ?_
  go_upto_region 6 with fail
  refine wp_region_lit ?_
  refine wl rfl (.int .i64 (k : Nat)) _ (run_mvZ (.tmp 4) rfl (.int .i64 (k : Nat)) rfl) ?_
  refine wl rfl (.int .i64 ((k % 2 : Nat) : Int)) _ (run_rem2 (.tmp 33) rfl k rfl) ?_
  refine wl rfl (.bool (decide (k % 2 = 0))) _ (run_eqZ (.tmp 34) (.const (.int .i64 0)) rfl ((k % 2 : Nat) : Int) 0 rfl rfl _ (decide_eq_decide.2 (by omega))) ?_
  refine wl rfl (.pointer (some ⟨q5, 0 + 3, none⟩)) _ (run_fieldOp' f30_3 (.tmp 5) rfl q5 (0) rfl) ?_
  simp only [Act.put, aS, aC, aZ]
  refine wlS rfl rfl _ (run_putRow (t := 4) sz4b (.tmp 36) (.tmp 35) rfl q5 (0 + 3) 30 _ rfl (.bool (decide (k % 2 = 0))) rfl ⟨rfl, rfl⟩ HJ.out.2.1 (by decide : 0 + 3 < 4)) ?_
  have hb_ := (Ch.refl (· = q5) V2).setCell (Or.inl rfl) (0 + 3) (.bool (decide (k % 2 = 0)))
  have r_ := HJ.out.2.1.setCell (0 + 3) (.bool (decide (k % 2 = 0)))
  obtain ⟨V3, hW_⟩ : ∃ U_ : World, U_ = V2.setCell ⟨q5, 0 + 3, none⟩ (.bool (decide (k % 2 = 0))) := ⟨_, rfl⟩
  rw [← hW_] at hb_ r_ ⊢
  replace HJ : Hid ((PlO V3 vU (rvP us (us.length - (k + 1))) ∧ (∀ b, vU.ownBlock = some b → W.heap.size ≤ b) ∧ Below W.heap.size W V3) ∧ Row V3 q5 30 (bdP k u).cells ∧ W.heap.size ≤ q5 ∧ ∀ b, vU.ownBlock = some b → b ≠ q5) := ⟨⟨HJ.out.1.1.kept fun b e => hb_.block b (HJ.out.1.1.lt e) (HJ.out.2.2.2 b e), HJ.out.1.2.1, HJ.out.1.2.2.trans (hb_.below HJ.out.1.2.2.size fun k hk e => by have := HJ.out.2.2.1; omega)⟩, r_, HJ.out.2.2⟩
  clear r_ hb_ hW_
  refine wpList_nil ?_
  go_upto_region 7 with fail
  refine wp_region_lit ?_
  refine wl rfl vU _ (run_mvZ (.tmp 3) rfl vU rfl) ?_
  refine wl rfl (.agg ((bdP k u).cells).toArray) _ (run_loadA ag30 (.tmp 5) rfl q5 (0) rfl ((bdP k u).cells) rfl (rows_one HJ.out.2.1)) ?_
  refine wl rfl (whole V3.heap.size 1) _ (run_lit43 (.tmp 38) rfl 1 (u.1 : Nat) (costN u.2.length : Nat) (decide (k % 2 = 0)) rfl) ?_
  have hb_ := below_alloc V3 (.cells (bdP k u).cells.toArray 30)
  have r_ := Row.new V3 30 (bdP k u).cells
  obtain ⟨V4, hW_⟩ : ∃ U_ : World, U_ = V3.alloc (.cells (bdP k u).cells.toArray 30) := ⟨_, rfl⟩
  obtain ⟨ql, hq_⟩ : ∃ q, q = V3.heap.size := ⟨_, rfl⟩
  replace hW_ : V4 = V3.alloc (.cells (plC 1 (u.1 : Nat) (costN u.2.length : Nat) (decide (k % 2 = 0))).toArray 30) := hW_
  rw [← hW_, ← hq_]
  replace hW_ : V4 = V3.alloc (.cells (bdP k u).cells.toArray 30) := hW_
  rw [← hW_] at hb_
  rw [← hW_, ← hq_] at r_
  have HL : Hid ((PlO V4 vU (rvP us (us.length - (k + 1))) ∧ (∀ b, vU.ownBlock = some b → W.heap.size ≤ b) ∧ Below W.heap.size W V4) ∧ Row V4 ql 30 (bdP k u).cells) := ⟨⟨HJ.out.1.1.kept fun b e => hb_.block b (HJ.out.1.1.lt e), HJ.out.1.2.1, HJ.out.1.2.2.trans (hb_.mono HJ.out.1.2.2.size)⟩, r_⟩
  clear r_ hb_ hW_ hq_ HJ
  simp only [Act.put, aS, aC, aZ]
  obtain ⟨vN, V5, hr_, hp_, hg_, hat_⟩ := papp_one (w := V4) 43 vU _ HL.out.1.1 HL.out.2 (by rw [rvP_length]; omega)
  refine wl rfl vN V5 (run_append (.tmp 37) (.tmp 39) rfl vU (whole ql 1) vN rfl rfl ((appTy _ 43 _ _).trans hr_)) ?_
  have hc_ : Ch (fun b => vU.ownBlock = some b) V4 V5 := (Ch.refl _ V4).grown hg_ fun k e => Or.inl e
  have HN : Hid (PlO V5 vN (rvP us (us.length - k)) ∧ (∀ b, vN.ownBlock = some b → W.heap.size ≤ b) ∧ Below W.heap.size W V5) := ⟨(by rw [show us.length - k = (us.length - (k + 1)) + 1 by omega, rvP, show us.length - 1 - (us.length - (k + 1)) = k by omega, ← HX.out.2.2]; exact hp_), fun b e => (by rcases hat_ with h | h; exact HL.out.1.2.1 b (h ▸ e); (rw [h] at e; injection e with e; have := HL.out.1.2.2.size; omega)), HL.out.1.2.2.trans (hc_.below HL.out.1.2.2.size fun k hk e => by have := HL.out.1.2.1 k e; omega)⟩
  clear hr_ hp_ hg_ hat_ hc_ HL
  simp only [Act.put, aS, aC, aZ]
  refine wl rfl vN _ (run_asZ (.tmp 40) rfl vN rfl) ?_
  simp only [Act.put, aS, aC, aZ]
  refine wpList_nil ?_
  go_wp2_with fail
  refine ⟨⟨k, by go_num, by omega, HN⟩, ?_⟩
  simp [intOf]; try omega
  | zero =>
  go_upto_region 3 with fail
  refine wp_region_lit ?_
  refine wl rfl (.int .i64 (((0 : Nat) : Int) - 1)) _ (run_mvZ (.tmp 4) rfl (.int .i64 (((0 : Nat) : Int) - 1)) rfl) ?_
  refine wl rfl (.bool false) _ (run_geZ (.tmp 19) (.const (.int .i64 0)) rfl (((0 : Nat) : Int) - 1) 0 rfl rfl false rfl) ?_
  simp only [Act.put, aS, aC, aZ]
  refine wpList_nil ?_
  obtain ⟨W8, hW8⟩ : ∃ U_ : World, U_ = wr := ⟨_, rfl⟩
  rw [← hW8]
  have HU : Hid ((PlO W8 vU (rvP us us.length) ∧ (∀ b, vU.ownBlock = some b → W.heap.size ≤ b) ∧ Below W.heap.size W W8) ∧ (Cl w W8 c gp m n us K) ∧ (Sd w W8 c gp gh gf gm gs gr n us vu vb bl ever dims)) := (by rw [hW8]; have hi_ := HI.out; rw [Nat.sub_zero] at hi_; exact ⟨hi_, HM.out.1.bel hi_.2.2, HM.out.2.1.bel hi_.2.2⟩)
  clear HI hW8
  go_upto_region 8 with fail
  refine wp_region_lit ?_
  refine wl rfl (ptr gs) _ (run_mvZ (.tmp 0) rfl (ptr gs) rfl) ?_
  refine wl rfl (ptr gs) _ (run_nil (.tmp 42) rfl ⟨gs, 0, none⟩ rfl) ?_
  refine wl rfl (.pointer (some ⟨gs, 0 + 0, none⟩)) _ (run_fieldOp' f38_0 (.tmp 43) rfl gs (0) rfl) ?_
  refine wl rfl (ptr gp) _ (run_load1 o34 (.tmp 44) rfl gs (0 + 0) rfl (ptr gp) (HU.out.2.2.row.at 0 _ rfl)) ?_
  simp only [Act.put, aS, aC, aZ]
  refine wl rfl vU _ (run_mvZ (.tmp 3) rfl vU rfl) ?_
  simp only [Act.put, aS, aC, aZ]
  refine wpList_callW eN18 [.tmp 45, .const (.int .i64 1), .tmp 46] _ rfl rfl [(ptr gp), .int .i64 1, vU] rfl ?_
  refine (HU.out.2.1.open hK0 vU (plo_pls HU.out.1.1 (fun x hx => (bdP_ok HM.out.1.apt (by have := HM.out.1.pl.hn; omega) x hx).1) (by rw [rvP_length]; omega))).mono ?_
  rintro e Y1 ⟨gh2, gf2, gm2, rfl, hb_, h1_, h2_, h3_, hh_⟩
  refine ⟨_, rfl, ?_⟩
  have HY : Hid ((HtW w Y1 c gp gh2 gf2 gm2 m n us K) ∧ (Sd w Y1 c gp gh gf gm gs gr n us vu vb bl ever dims) ∧ W8.heap.size ≤ gh2 ∧ W8.heap.size ≤ gf2 ∧ W8.heap.size ≤ gm2 ∧ Below W8.heap.size W8 Y1 ∧ Out w Y1 c gh2 gf2 gm2 gs) := ⟨hh_, HU.out.2.2.bel hb_, h1_, h2_, h3_, hb_, HU.out.2.2.os.anew hb_.size h1_ h2_ h3_⟩
  clear hb_ h1_ h2_ h3_ hh_
  simp only [Act.put, aS, aC, aZ]
  refine wl rfl (.tuple #[(ptr gh2), (.int .i64 0)]) _ (run_mvZ (.tmp 47) rfl (.tuple #[(ptr gh2), (.int .i64 0)]) rfl) ?_
  refine wl rfl (ptr gh2) _ (run_extZ (.tmp 41) 0 rfl #[(ptr gh2), (.int .i64 0)] rfl (ptr gh2) rfl) ?_
  refine wl rfl (.int .i64 0) _ (run_extZ (.tmp 41) 1 rfl #[(ptr gh2), (.int .i64 0)] rfl (.int .i64 0) rfl) ?_
  refine wl rfl (ptr gh2) _ (run_asZ (.tmp 48) rfl (ptr gh2) rfl) ?_
  simp only [Act.put, aS, aC, aZ]
  refine wl rfl (.int .i64 0) _ (run_asZ (.tmp 49) rfl (.int .i64 0) rfl) ?_
  simp only [Act.put, aS, aC, aZ]
  refine wpList_nil ?_
  go_upto_region 9 with fail
  refine wp_region_lit ?_
  refine wl rfl (ptr gh2) _ (run_mvZ (.tmp 6) rfl (ptr gh2) rfl) ?_
  refine wl rfl (.bool false) _ (run_binOp' (.tmp 50) (.const (.pointer none)) rfl _ _ _ rfl rfl rfl (by kernel_rfl)) ?_
  refine wl rfl (.bool false) _ (run_mvZ (.tmp 51) rfl (.bool false) rfl) ?_
  refine wl (by kernel_rfl) (.int .i64 0) _ (run_mvZ (.tmp 7) rfl (.int .i64 0) rfl) ?_
  simp only [Act.put, aS, aC, aZ]
  refine wl (by kernel_rfl) (.bool false) _ (run_neZ (.tmp 53) (.const (.int .i64 0)) rfl (0) (0) rfl rfl false rfl) ?_
  refine wl rfl (.bool false) _ (run_pickZ (.tmp 52) (.const (.bool true)) (.tmp 54) rfl false (.bool false) rfl rfl) ?_
  simp only [Act.put, aS, aC, aZ]
  refine wpList_nil ?_
  go_upto_region 11 with fail
  refine wp_region_lit ?_
  refine wl rfl (ptr gs) _ (run_mvZ (.tmp 0) rfl (ptr gs) rfl) ?_
  refine wl rfl (ptr gh2) _ (run_mvZ (.tmp 6) rfl (ptr gh2) rfl) ?_
  refine wl rfl (ptr gs) _ (run_nil (.tmp 56) rfl ⟨gs, 0, none⟩ rfl) ?_
  refine wl rfl (.pointer (some ⟨gs, 0 + 1, none⟩)) _ (run_fieldOp' f38_1 (.tmp 58) rfl gs (0) rfl) ?_
  simp only [Act.put, aS, aC, aZ]
  refine wlS rfl rfl _ (run_putRow (t := 35) sz35h (.tmp 59) (.tmp 57) rfl gs (0 + 1) 38 _ rfl (ptr gh2) rfl ⟨rfl, rfl⟩ HY.out.2.1.row (by decide : 0 + 1 < 5)) ?_
  have hb_ := (Ch.refl (· = gs) Y1).setCell (Or.inl rfl) (0 + 1) (ptr gh2)
  have r_ := HY.out.2.1.row.setCell (0 + 1) (ptr gh2)
  obtain ⟨Y2, hW_⟩ : ∃ U_ : World, U_ = Y1.setCell ⟨gs, 0 + 1, none⟩ (ptr gh2) := ⟨_, rfl⟩
  rw [← hW_] at hb_ r_ ⊢
  have hc8 : Ch (· = gs) W8 Y2 := (Ch.of_below HY.out.2.2.2.2.2.1).trans hb_
  have hw8 := HU.out.1.2.2.size
  have HZ : Hid ((HtW w Y2 c gp gh2 gf2 gm2 m n us K) ∧ (Sd w Y2 c gp gh2 gf2 gm2 gs gr n us vu vb bl ever dims) ∧ SplP W.heap.size W8.heap.size Y2 vU us.length) := ⟨HY.out.1.own hb_ (fun _ _ e => e ▸ HY.out.2.2.2.2.2.2), HU.out.2.2.anew hc8 r_ HY.out.2.2.1 HY.out.2.2.2.1 HY.out.2.2.2.2.1, (by have hs_ := HU.out.1.1.spl HU.out.1.2.1; rw [rvP_length] at hs_; exact hs_.keep fun b h1 h2 => hc8.block b h2 (fun e => by have := HM.out.2.2.2 gs (Or.inl rfl); omega))⟩
  have HG : Hid (W8.heap.size ≤ gh2 ∧ W8.heap.size ≤ gf2 ∧ W8.heap.size ≤ gm2 ∧ w.heap.size ≤ W.heap.size ∧ ∀ b, W.heap.size ≤ b → (c b).1 ≠ 2) := ⟨HY.out.2.2.1, HY.out.2.2.2.1, HY.out.2.2.2.2.1, HM.out.1.pl.below.size, HM.out.1.pl.live.2.2⟩
  clear r_ hb_ hW_ hc8 HY HU hw8
  refine wpList_nil ?_
  go_upto_region 12 with fail
  refine wp_region_lit ?_
  refine wl rfl (.int .i64 0) _ (run_asZ (.const (.int .i64 0)) rfl (.int .i64 0) rfl) ?_
  simp only [Act.put, aS, aC, aZ]
  refine wpList_nil ?_
  go_wp2_with fail
  go_loopw [8] (fun vk W' => ∃ k : Nat, vk = .int .i64 (k : Nat) ∧ k ≤ us.length ∧ Hid ((HtW w W' c gp gh2 gf2 gm2 m n us K) ∧ (Sd w W' c gp gh2 gf2 gm2 gs gr n us vu vb bl ever dims) ∧ SplP W.heap.size W8.heap.size W' vU us.length)) (fun vk _ => us.length - (intOf vk).toNat)
  case atStart => exact ⟨0, rfl, Nat.zero_le _, HZ⟩
  case round =>
   obtain ⟨k, rfl, hk, HJ⟩ := hrel
   by_cases hlk : k < us.length
   ·go_upto_region 13 with fail
    refine wp_region_lit ?_
    refine wl rfl (.int .i64 (k : Nat)) _ (run_mvZ (.tmp 8) rfl (.int .i64 (k : Nat)) rfl) ?_
    refine wl rfl vU _ (run_mvZ (.tmp 3) rfl vU rfl) ?_
    refine wl rfl (.int .i64 (us.length : Nat)) _ (run_lenSplP HJ.out.2.2 (.tmp 61) rfl rfl) ?_
    refine wl rfl (.bool true) _ (run_lssZ (.tmp 60) (.tmp 62) rfl (k : Nat) (us.length : Nat) rfl rfl true (decide_eq_true (by omega))) ?_
    simp only [Act.put, aS, aC, aZ]
    refine wpList_nil ?_
    obtain ⟨sb, si, cur, hix, hrow, hcl, hsB, hsT, hset⟩ := HJ.out.2.2.step k hlk
    have HSP : Hid ((∀ w', (Instr.indexAt 43 vU (.int .i64 (k : Nat))).run Tryd.prog w' = .ok (.pointer (some ⟨sb, si, none⟩)) w') ∧ Row wr sb 30 cur) := ⟨hix, hrow⟩
    have hc_ : Ch (· = sb) wr (wr.setRow sb (splice cur si (plC 0 0 0 false)).toArray) := Ch.setRow (S := (· = sb)) (Ch.refl _ wr) (Or.inl rfl) _
    have HZ2 : Hid ((HtW w (wr.setRow sb (splice cur si (plC 0 0 0 false)).toArray) c gp gh2 gf2 gm2 m n us K) ∧ (Sd w (wr.setRow sb (splice cur si (plC 0 0 0 false)).toArray) c gp gh2 gf2 gm2 gs gr n us vu vb bl ever dims) ∧ SplP W.heap.size W8.heap.size (wr.setRow sb (splice cur si (plC 0 0 0 false)).toArray) vU us.length) := ⟨HJ.out.1.own hc_ (fun q hq e => e ▸ ⟨(by have := HG.out; omega), (by rw [← e]; exact hq), HG.out.2.2.2.2 sb hsB, (by have := HG.out; omega), (by have := HG.out; omega), (by have := HG.out; omega)⟩), HJ.out.2.1.ch hc_ (fun b hb e => by have := HM.out.2.2.2 b hb; omega), hset _ rfl⟩
    clear hix hrow hset hc_
    go_upto_region 15 with fail
    refine wp_region_lit ?_
    refine wl rfl vU _ (run_mvZ (.tmp 3) rfl vU rfl) ?_
    refine wl rfl (.int .i64 (k : Nat)) _ (run_mvZ (.tmp 8) rfl (.int .i64 (k : Nat)) rfl) ?_
    refine wl rfl (.agg (plC 0 0 0 false).toArray) _ (run_build30z rfl) ?_
    refine wl rfl (.pointer (some ⟨sb, si, none⟩)) _ (run_idx (.tmp 66) (.tmp 67) rfl _ _ _ rfl rfl HSP.out.1) ?_
    simp only [Act.put, aS, aC, aZ]
    refine wlS rfl rfl _ (run_storeO ag30 (.tmp 69) (.tmp 68) rfl sb si 30 rfl (plC 0 0 0 false) cur rfl rfl HSP.out.2 hcl (plC_one _ _ _ _)) ?_
    obtain ⟨wz, hW_⟩ : ∃ U_ : World, U_ = wr.setRow sb (splice cur si (plC 0 0 0 false)).toArray := ⟨_, rfl⟩
    rw [← hW_] at HZ2 ⊢
    clear hW_
    refine wpList_nil ?_
    go_wp2_with fail
    refine ⟨⟨k + 1, by go_num, by omega, HZ2⟩, ?_⟩
    simp [intOf]; omega
   ·go_upto_region 13 with fail
    refine wp_region_lit ?_
    refine wl rfl (.int .i64 (k : Nat)) _ (run_mvZ (.tmp 8) rfl (.int .i64 (k : Nat)) rfl) ?_
    refine wl rfl vU _ (run_mvZ (.tmp 3) rfl vU rfl) ?_
    refine wl rfl (.int .i64 (us.length : Nat)) _ (run_lenSplP HJ.out.2.2 (.tmp 61) rfl rfl) ?_
    refine wl rfl (.bool false) _ (run_lssZ (.tmp 60) (.tmp 62) rfl (k : Nat) (us.length : Nat) rfl rfl false (decide_eq_false (by omega))) ?_
    simp only [Act.put, aS, aC, aZ]
    refine wpList_nil ?_
    go_upto_region 16 with fail
    refine wp_region_lit ?_
    refine wl rfl (ptr gs) _ (run_mvZ (.tmp 0) rfl (ptr gs) rfl) ?_
    simp only [Act.put, aS, aC, aZ]
    refine wpList_callW eN14 [.tmp 70] _ rfl rfl [(ptr gs)] rfl ?_
    refine (sall_any HJ.out.1 HJ.out.2.1 hK).mono ?_
    rintro e Y3 ⟨rfl, hb_⟩
    refine ⟨_, rfl, ?_⟩
    have HE : Hid ((HtW w Y3 c gp gh2 gf2 gm2 m n us K) ∧ (Sd w Y3 c gp gh2 gf2 gm2 gs gr n us vu vb bl ever dims)) := ⟨HJ.out.1.bel hb_, HJ.out.2.1.bel hb_⟩
    clear hb_
    simp only [Act.put, aS, aC, aZ]
    refine wl rfl (.bool true) _ (run_asZ (.tmp 71) rfl (.bool true) rfl) ?_
    simp only [Act.put, aS, aC, aZ]
    refine wpList_nil ?_
    go_wp2_with fail
    rw [HPQ.out]
    exact ⟨rfl, gh2, gf2, gm2, HE.out.1, HE.out.2⟩

end Go.Proofs.YthgidfoidbgnaaaDoor

/- For all bytes, chunk.Check holds each chunk of chunk.Split with its own number, chunk.Proof and chunk.Root, and refuses it with a byte less or more; no chunk is empty or too long, none but the last is shorter, and put together they are the bytes: the law ChunkWhole returns true and changes nothing that was there. Condition: the tables sha.start and sha.constants start as the program's text lays them (the card ties them). -/
import Derived.Test.YtfnncccioipjcaaDoorCShown
import Derived.Test.YtfnncccioipjcaaDoorTxt
import Derived.Test.YtfnncccioipjcaaDoorOpenC
namespace Go.Proofs.YtfnncccioipjcaaDoor
open Go.RowKit

section
variable {w : World} {ops : Array Oper} {rest : List Oper} {o : Oper} {a : Act} {Q : Exit → Act → World → Prop}
theorem rx_bsub (x : Operand) (lo hi mx : Option Operand) (ho : o.op = .slice 39 x lo hi mx) (v v' : Value) (hx : a.eval x = v) (hr : ∀ w', (Instr.slice 39 v (lo.map a.eval) (hi.map a.eval) (mx.map a.eval)).run Tryd.prog w' = .ok v' w') : (execOp a.eval o).run Tryd.prog w = .ok (.value v') w := by
  simp [execOp, ho, hx, run_sliceAt_slice _ _ _ _ _ _ under22, hr]
theorem rx_blenW {w0 : World} (x : Operand) (ho : o.op = .call { callee := .builtin .len, args := #[x], argTypes := #[39] }) (v : Value) (cs : List Nat) (hx : a.eval x = v) (hin : SliceIn w0 v cs) (N : Nat) (hN : cs.length = N) : (execOp a.eval o).run Tryd.prog w = .ok (.value (.int .i64 (N : Nat))) w := by
  subst hN
  obtain ⟨p, cap, rfl, hl, _⟩ := hin
  have hr : (Builtin.len_ #[39] o.type #[.slice p cs.length cap]).run Tryd.prog w = .ok (goInt cs.length) w := run_len_slice w _ _ _ _ _ under22
  simp only [execOp, ho, resolve, invoke, builtin, Sem.run_bind, Sem.run_pure, Result.andThen_ok, List.map_toArray, List.map_cons, List.map_nil, hx, hr]
  rfl
theorem opLit0b {i : Nat} (d : Option Tmp) {K : Act → World → Prop} (hi : ops[i]? = some o) (hd : o.dst = d) (hw : Region.wanted o (yielded ops a.tmps) = true) (ho : o.op = .buildSlice 39 0 #[]) (C : Nat) (hC : C ≤ w.heap.size)
    (h : ∀ v' w', BOwn w' C v' [] → v'.ownBlock = some w.heap.size → Below w.heap.size w w' → K (a.put d v') w') : wpOp Tryd.prog ops Q i K a w := by
  have hr : (Instr.buildSlice 39 0 #[]).run Tryd.prog w = .ok (.slice (some ⟨w.heap.size, 0, none⟩) 0 0) (w.alloc (.cells #[] 5)) := by kernel_rfl
  exact opValW d hi hd hw _ _ (by simp [execOp, ho, hr]) (h _ _ (BOwn.new w C hC) rfl (below_alloc w _))
theorem opLit1b {i : Nat} (d : Option Tmp) {K : Act → World → Prop} (hi : ops[i]? = some o) (hd : o.dst = d) (hw : Region.wanted o (yielded ops a.tmps) = true) (x : Operand) (ho : o.op = .buildSlice 39 1 #[(0, x)]) (y : Nat) (X : Int) (hx : a.eval x = .int .u8 X) (hX : X = (y : Int)) (C : Nat) (hC : C ≤ w.heap.size)
    (h : ∀ v' w', BOwn w' C v' [y] → v'.ownBlock = some w.heap.size → Below w.heap.size w w' → K (a.put d v') w') : wpOp Tryd.prog ops Q i K a w := by
  subst hX
  exact opValW d hi hd hw _ _ (by simp only [execOp, ho, List.map_toArray, List.map_cons, List.map_nil, hx, run_blit1, Sem.run_bind, Sem.run_pure, Result.andThen_ok]; rfl) (h _ _ (blit_own w C hC [y] (by simp)) rfl (below_alloc w _))
theorem opApp {i : Nat} (d : Option Tmp) {K : Act → World → Prop} (hi : ops[i]? = some o) (hd : o.dst = d) (hw : Region.wanted o (yielded ops a.tmps) = true) (sv x : Operand) (ho : o.op = .call { callee := .builtin .append, args := #[sv, x], argTypes := #[39, 39] })
    (C : Nat) (v vx : Value) (cs ys : List Nat) (hs : a.eval sv = v) (hown : BOwn w C v cs) (hx : a.eval x = vx) (hin : SliceIn w vx ys) (hsz : cs.length + ys.length ≤ 140737488355328) (hC : C ≤ w.heap.size)
    (h : ∀ v' w', BOwn w' C v' (cs ++ ys) → Below C w w' → w.heap.size ≤ w'.heap.size → (∀ u us, BOwn w C u us → u.ownBlock = none ∨ u.ownBlock ≠ v.ownBlock → BOwn w' C u us) → K (a.put d v') w') : wpOp Tryd.prog ops Q i K a w := by
  obtain ⟨v', w', hr, ho', hg⟩ := run_bappend C o.type v vx cs ys hown hin hsz hC
  refine opValW d hi hd hw v' w' ?_ (h v' w' ho' (hown.belowG hg hC) hg.size (fun u us hu hne => hu.kept hg hne))
  simp only [execOp, ho, resolve, invoke, builtin, Sem.run_bind, Sem.run_pure, Result.andThen_ok, List.map_toArray, List.map_cons, List.map_nil, hs, hx, hr]
end
/-- chunks and a root, below block BA -/
def WhS (w : World) (B gr BA : Nat) (b r : List Nat) (W : World) : Prop := spS w B gr b r W ∧ B + 1 + Cut.count b.length ≤ BA ∧ gr < BA ∧ w.heap.size ≤ BA ∧ BA ≤ W.heap.size
theorem WhS.next {w W W' : World} {B gr BA : Nat} {b r : List Nat} (h : WhS w B gr BA b r W) (hb : Below BA W W') : WhS w B gr BA b r W' :=
  ⟨⟨⟨h.1.1.1.later hb (by have := h.2.1; omega), fun i hi => (h.1.1.2 i hi).later hb (by have := h.2.1; omega)⟩, h.1.2.1.later hb h.2.2.1, h.1.2.2.trans (hb.mono h.2.2.2.1)⟩, h.2.1, h.2.2.1, h.2.2.2.1, Nat.le_trans h.2.2.2.2 hb.size⟩
theorem WhS.later {w W W' : World} {B gr BA : Nat} {b r : List Nat} (h : WhS w B gr BA b r W) (hb : Below W.heap.size W W') : WhS w B gr BA b r W' := h.next (hb.mono h.2.2.2.2)
def WhTo (w W : World) (B gr BA : Nat) (b r : List Nat) (x : Value) (k : Nat) : Prop := WhS w B gr BA b r W ∧ BOwn W BA x (b.take (k * 64))
theorem take_next (b : List Nat) (k : Nat) : b.take (k * 64) ++ Cut.piece b k = b.take ((k + 1) * 64) := by
  rw [show (k + 1) * 64 = k * 64 + 64 by omega, List.take_add]
  rfl
theorem mem_take_lt {b : List Nat} (h : ∀ c ∈ b, c < 256) (n : Nat) : ∀ c ∈ b.take n, c < 256 := fun c hc => h c (List.mem_of_mem_take hc)
set_option maxHeartbeats 16000000 in
set_option maxRecDepth 100000 in
theorem chunkWhole_any (vb : Value) (b : List Nat) (w : World) (hb : SliceIn w vb b) (ht : TabIn w) (hst : StartIn w) (hlb : b.length ≤ 140737488355328) :
    Calls Tryd.prog 6 #[vb] w fun e w' => e = .returned (.bool true) ∧ Below w.heap.size w w' := by
  have HBM : Hid (∀ c ∈ b, c < 256) := hb.mem
  obtain ⟨N, hN⟩ : ∃ N, b.length = N := ⟨_, rfl⟩
  have HN : Hid (b.length = N) := hN
  obtain ⟨n, hn⟩ : ∃ n, Cut.count b.length = n := ⟨_, rfl⟩
  have Hn : Hid (Cut.count b.length = n) := hn
  have hcm : n ≤ 140737488355328 := by rw [← hn]; have := Cut.count_le b.length; omega
  have hNm : N ≤ 140737488355328 := by omega
  have HRH : Hid (IsH (Cut.root b)) := (leaves_allH b).root
  have HLB : Hid (b.length ≤ 140737488355328) := hlb
  have HNO : Hid (Cut.check [] 0 (N : Nat) [] (Cut.root b) = false) := Cut.check_none N [] _
  have HOWN : Hid (∀ k, k < n → Cut.check (Cut.piece b k) (k : Nat) (N : Nat) (proofAns b (k : Nat)) (Cut.root b) = true ∧ proofErr b (k : Nat) = 0 ∧ ∀ c : List Nat, c.length ≠ (Cut.piece b k).length → Cut.check c (k : Nat) (N : Nat) (proofAns b (k : Nat)) (Cut.root b) = false) := by
    intro k hk
    have hk' : k < Cut.count b.length := by omega
    have e1 : proofAns b (k : Nat) = Tree.incl (Cut.leaves b) k := by
      unfold proofAns inclAns
      rw [Cut.leaves_length, if_pos ⟨by omega, by omega⟩, Int.toNat_natCast]
    have e2 : proofErr b (k : Nat) = 0 := by
      unfold proofErr inclErr
      rw [Cut.leaves_length, if_pos ⟨by omega, by omega⟩]
    refine ⟨?_, e2, fun c hc => ?_⟩
    · rw [e1, ← hN]
      exact Cut.check_own b k hk'
    · rw [← hN]
      exact Cut.check_len b c k hk' hc _ _
  generalize hr : Cut.root b = r at HRH HNO HOWN
  have HRE : Hid (Cut.root b = r) := hr
  clear hr hN hn hlb
  go_enter Tryd.func6, Tryd.ntmps6
  go_wp2_with ((first
    | (go_at_call 18; refine (cshown_any w ht hst).mono ?_; rintro e w1 ⟨rfl, b1⟩; have R1 : Hid (Below w.heap.size w w1) := b1; clear b1)
    | (go_at_call 19; refine (split_at vb b w1 (hb.later R1.out) HLB.out).mono ?_; rw [Hn.out]; rintro e w2 ⟨rfl, p2, z2, b2⟩; generalize w1.heap.size = B at p2 z2 ⊢; have R2 : Hid (SpIn w2 B b ∧ w2.heap.size = B + 1 + n ∧ Below w.heap.size w w2) := ⟨p2, z2, below_append R1.out (by assumption)⟩; clear p2 z2)
    | (go_at_call 23; refine (croot_any vb b w2 (hb.later R2.out.2.2) (ht.later R2.out.2.2) (hst.later R2.out.2.2) HLB.out).mono ?_; rw [HRE.out]; rintro e w3 ⟨rfl, b3⟩; have R3 : Hid (SpIn w3 B b ∧ B + 1 + n ≤ w3.heap.size ∧ Below w.heap.size w w3) := ⟨R2.out.1.later b3, by have := R2.out.2.1; have := b3.size; omega, below_append R2.out.2.2 b3⟩; clear b3)
    | (refine wl_new rfl rfl rfl rfl rfl (.tmp 20) rfl r HRH.out (fun _ => rfl) (fun _ => rfl) ?_; intro w4 r4 s4 b4; have R4 : Hid (WhS w B w3.heap.size w4.heap.size b r w4) := ⟨⟨R3.out.1.later b4, r4, below_append R3.out.2.2 b4⟩, by rw [Hn.out]; have := R3.out.2.1; omega, by omega, Nat.le_trans R3.out.2.2.size b4.size, Nat.le_refl _⟩; generalize w3.heap.size = gr at R4 ⊢; clear r4 s4 b4)
    | (refine wl_blit0 rfl rfl ?_; intro w5 r5 s5 b5; have R5 : Hid (WhTo w w5 B gr w4.heap.size b r (whole w4.heap.size 0) 0) := ⟨R4.out.later b5, by rw [Nat.zero_mul, List.take_zero]; exact whole_own (cs := []) r5 (Nat.le_refl _) (by simp)⟩; generalize whole w4.heap.size 0 = x5 at R5 ⊢; generalize w4.heap.size = BA at R5 ⊢; clear r5 s5 b5)); try simp only [Act.put, List.setIfInBounds_toArray, List.set_cons_succ, List.set_cons_zero])
  clear R1 R2 R3 R4
  go_loopw [6, 7] (fun x i W => ∃ k : Nat, k ≤ n ∧ i = .int .i64 (k : Nat) ∧ WhTo w W B gr BA b r x k) (fun _ i _ => n - (intOf i).toNat)
  case atStart => exact ⟨0, Nat.zero_le _, rfl, R5.out⟩
  case round =>
    clear R5
    obtain ⟨k, hk, rfl, hwh⟩ := hrel
    have HV : Hid (WhTo w wr B gr BA b r u6 k) := hwh
    clear hwh
    by_cases hlt : k < n
    · have hlt' : (k : Int) < (n : Int) := by omega
      have HKX : Hid (k < Cut.count b.length) := by rw [Hn.out]; exact hlt
      have HBC : Hid (∀ c ∈ Cut.piece b k, c < 256) := fun c hc => HBM.out c (Cut.piece_mem b k c hc)
      have hc1 := Cut.piece_pos b k HKX.out
      have hc64 := Cut.piece_le b k
      have HFU : Hid (k + 1 < n → (Cut.piece b k).length = 64) := fun h => Cut.piece_full b k (by rw [Hn.out]; exact h)
      have HTK : Hid (b.take (k * 64) ++ Cut.piece b k = b.take ((k + 1) * 64)) := take_next b k
      have HTL : Hid ((b.take (k * 64)).length + (Cut.piece b k).length ≤ 140737488355328) := by
        show _ ≤ _
        rw [← List.length_append, HTK.out, List.length_take]
        have := HLB.out
        omega
      have HCX : Hid (∀ W, WhS w B gr BA b r W → W.cell? ⟨B, k, none⟩ = some (whole (B + 1 + k) (Cut.piece b k).length) ∧ SliceIn W (whole (B + 1 + k) (Cut.piece b k).length) (Cut.piece b k)) := fun W hW => ⟨hW.1.1.cell k HKX.out, hW.1.1.slice HBM.out k HKX.out⟩
      obtain ⟨hk1, hk2, hk3⟩ := HOWN.out k hlt
      have HK1 : Hid (Cut.check (Cut.piece b k) (k : Nat) (N : Nat) (proofAns b (k : Nat)) r = true) := hk1
      have HK2 : Hid (proofErr b (k : Nat) = 0) := hk2
      have HK3 : Hid (∀ c : List Nat, c.length ≠ (Cut.piece b k).length → Cut.check c (k : Nat) (N : Nat) (proofAns b (k : Nat)) r = false) := hk3
      clear hk1 hk2 hk3
      generalize hpa : proofAns b (k : Nat) = pr at HK1 HK3
      have HPA : Hid (proofAns b (k : Nat) = pr) := hpa
      clear hpa
      generalize Cut.piece b k = c at HBC hc1 hc64 HFU HTK HTL HCX HK1 HK3
      obtain ⟨m, hm⟩ : ∃ m, c.length = m := ⟨_, rfl⟩
      have HML : Hid (c.length = m) := hm
      rw [hm] at hc1 hc64 HCX HFU
      clear hm
      have hm0 : ((m : Int) == 0) = false := by simp; omega
      have hm0' : ¬ ((m : Int) = 0) := by omega
      have hm64 : decide ((64 : Int) < (m : Int)) = false := by simp; omega
      have hm64' : ¬ ((64 : Int) < (m : Int)) := by omega
      generalize hvc : whole (B + 1 + k) m = vc at HCX
      clear hvc
      go_wp2_with ((first
        | (refine wl_wlen (.tmp 23) rfl rfl B n rfl ?_)
        | (refine wl_wslot (.tmp 29) (.tmp 30) rfl rfl B n k rfl _ rfl rfl hlt ?_)
        | (refine wl_load1' one39 (.tmp 31) rfl rfl B k rfl vc (HCX.out wr HV.out.1).1 ?_)
        | (refine wl_bgrow (.tmp 28) (.tmp 32) rfl rfl BA u6 vc (b.take (k * 64)) c rfl HV.out.2 rfl (HCX.out wr HV.out.1).2 HTL.out HV.out.1.2.2.2.2 ?_; intro x1 w1 o1 g1; rw [HTK.out] at o1; have R1 : Hid (WhTo w w1 B gr BA b r x1 (k + 1)) := ⟨HV.out.1.next (HV.out.2.belowG g1 HV.out.1.2.2.2.2), o1⟩; clear o1 g1)
        | (go_at_call 21; refine (cproof_any vb b (k : Nat) w1 (hb.later R1.out.1.1.2.2) (ht.later R1.out.1.1.2.2) (hst.later R1.out.1.1.2.2) HLB.out).mono ?_; rw [HK2.out, HPA.out]; rintro e w2 ⟨v2, rfl, o2, b2⟩; have R2 : Hid (WhTo w w2 B gr BA b r x1 (k + 1) ∧ HIn w2 v2 pr) := ⟨⟨R1.out.1.later b2, R1.out.2.later b2 (Nat.le_refl _)⟩, o2.hin⟩; clear o2 b2)); try simp only [Act.put, List.setIfInBounds_toArray, List.set_cons_succ, List.set_cons_zero])
      refine wp_region_held (S := fun X => WhTo w X B gr BA b r x1 (k + 1) ∧ HIn X v2 pr) (by kernel_rfl) ?_
      show wpAnyH _ _ _ _ _ 11 (Array.replicate 11 false) _ _
      have hS : WhTo w { w2 with drawn := w2.drawn + 1 } B gr BA b r x1 (k + 1) ∧ HIn { w2 with drawn := w2.drawn + 1 } v2 pr := ⟨⟨R2.out.1.1.later (below_drawn w2 _), R2.out.1.2.later (below_drawn w2 _) (Nat.le_refl _)⟩, R2.out.2.later (below_drawn w2 _)⟩
      refine takeH (i := 0) (some 40) rfl rfl (by kernel_rfl) (by kernel_rfl) (by kernel_rfl) (fun _ _ _ h => h) (yMove rfl (.tmp 4) rfl (whole B n) rfl) hS ?_
      simp only [Act.put, List.setIfInBounds_toArray, List.set_cons_succ, List.set_cons_zero]
      refine takeH (i := 1) (some 41) rfl rfl (by kernel_rfl) (by kernel_rfl) (by kernel_rfl) (fun _ _ _ h => h) (yMove rfl (.tmp 7) rfl (.int .i64 (k : Nat)) rfl) hS ?_
      simp only [Act.put, List.setIfInBounds_toArray, List.set_cons_succ, List.set_cons_zero]
      refine takeH (i := 2) (some 42) rfl rfl (by kernel_rfl) (by kernel_rfl) (by kernel_rfl) (fun _ _ _ h => h) (yRunW rfl _ (fun _ _ => rx_wslot (.tmp 40) (.tmp 41) rfl B n k rfl _ rfl rfl hlt)) hS ?_
      simp only [Act.put, List.setIfInBounds_toArray, List.set_cons_succ, List.set_cons_zero]
      refine takeH (i := 3) (some 43) rfl rfl (by kernel_rfl) (by kernel_rfl) (by kernel_rfl) (fun _ _ _ h => h) (yRunW rfl _ (fun X hX => rx_load1 one39 (.tmp 42) rfl B k rfl vc (HCX.out X hX.1.1).1)) hS ?_
      simp only [Act.put, List.setIfInBounds_toArray, List.set_cons_succ, List.set_cons_zero]
      refine takeH (i := 4) (some 44) rfl rfl (by kernel_rfl) (by kernel_rfl) (by kernel_rfl) (fun _ _ _ h => h) (yMove rfl (.tmp 7) rfl (.int .i64 (k : Nat)) rfl) hS ?_
      simp only [Act.put, List.setIfInBounds_toArray, List.set_cons_succ, List.set_cons_zero]
      refine takeH (i := 5) (some 45) rfl rfl (by kernel_rfl) (by kernel_rfl) (by kernel_rfl) (fun _ _ _ h => h) (yMove rfl (.tmp 0) rfl (vb) rfl) hS ?_
      simp only [Act.put, List.setIfInBounds_toArray, List.set_cons_succ, List.set_cons_zero]
      refine takeH (i := 6) (some 46) rfl rfl (by kernel_rfl) (by kernel_rfl) (by kernel_rfl) (fun _ _ _ h => h) (yRunW rfl _ (fun _ _ => rx_blenW (.tmp 45) rfl vb b rfl hb N HN.out)) hS ?_
      simp only [Act.put, List.setIfInBounds_toArray, List.set_cons_succ, List.set_cons_zero]
      refine takeH (i := 7) (some 47) rfl rfl (by kernel_rfl) (by kernel_rfl) (by kernel_rfl) (fun _ _ _ h => h) (yMove rfl (.tmp 8) rfl (v2) rfl) hS ?_
      simp only [Act.put, List.setIfInBounds_toArray, List.set_cons_succ, List.set_cons_zero]
      refine takeH (i := 8) (some 48) rfl rfl (by kernel_rfl) (by kernel_rfl) (by kernel_rfl) (fun _ _ _ h => h) (yLoad rfl (.tmp 5) rfl (.pointer (some ⟨gr, 0, none⟩)) rfl r (fun _ h => h.1.1.1.2.1.at)) hS ?_
      simp only [Act.put, List.setIfInBounds_toArray, List.set_cons_succ, List.set_cons_zero]
      refine oneH (i := 9) (by kernel_rfl) ?_
      refine opCallA (some 49) rfl rfl rfl 25 _ (run_call en25c [.tmp 43, .tmp 44, .tmp 46, .tmp 47, .tmp 48] _ rfl [vc, .int .i64 (k : Nat), .int .i64 (N : Nat), v2, hv r] rfl) ?_
      refine (ccheck_any vc v2 c (k : Nat) (N : Nat) pr r _ (HCX.out _ hS.1.1).2 hS.2 HRH.out (ht.later hS.1.1.1.2.2) (hst.later hS.1.1.1.2.2) (by omega) (by omega)).mono ?_
      rw [HK1.out]
      rintro e w3 ⟨rfl, bz⟩
      have hSz : WhTo w w3 B gr BA b r x1 (k + 1) ∧ HIn w3 v2 pr := ⟨⟨hS.1.1.later bz, hS.1.2.later bz (Nat.le_refl _)⟩, hS.2.later bz⟩
      refine ⟨_, rfl, hSz, ?_⟩
      clear hS bz
      simp only [Act.put, List.setIfInBounds_toArray, List.set_cons_succ, List.set_cons_zero]
      refine takeH (i := 10) (some 10) rfl rfl (by kernel_rfl) (by kernel_rfl) (by kernel_rfl) (fun _ _ _ h => h) (yAssign rfl (.tmp 49) rfl (.bool true) rfl) hSz ?_
      simp only [Act.put, List.setIfInBounds_toArray, List.set_cons_succ, List.set_cons_zero]
      refine wpAnyH_done (by kernel_rfl) ?_ _
      have R3 : Hid (WhTo w w3 B gr BA b r x1 (k + 1) ∧ HIn w3 v2 pr) := hSz
      clear hSz
      obtain ⟨vs, hrun, hvs⟩ := run_bsub (HCX.out w3 R3.out.1.1).2 (lo := some (.int .i64 1)) (hi := none) (mx := none) (l := 1) (h := c.length) ⟨Or.inr ⟨_, rfl, rfl⟩, Or.inl ⟨rfl, rfl, rfl⟩, by rw [HML.out]; exact hc1, Nat.le_refl _⟩
      have HRUN : Hid (∀ w', (Instr.slice 39 vc (some (.int .i64 1)) none none).run Tryd.prog w' = .ok vs w') := hrun
      have HVS : Hid (SliceIn w3 vs ((c.take c.length).drop 1)) := hvs
      have HSH : Hid (Cut.check ((c.take c.length).drop 1) (k : Nat) (N : Nat) pr r = false) := HK3.out _ (by simp; have := HML.out; omega)
      generalize (c.take c.length).drop 1 = csh at HVS HSH
      clear hrun hvs
      have HLG : Hid (∀ z, z = c ++ [0] → Cut.check z (k : Nat) (N : Nat) pr r = false) := fun z hz => HK3.out _ (by rw [hz]; simp)
      by_cases hlast : k + 1 < n
      · have hlast' : (k : Int) + 1 < (n : Int) := by omega
        go_wp2_with ((first
          | (refine wl_wlen (.tmp 75) rfl rfl B n rfl ?_)
          | (refine wl_wslot (.tmp 57) (.tmp 58) rfl rfl B n k rfl _ rfl rfl hlt ?_)
          | (refine wl_load1' one39 (.tmp 59) rfl rfl B k rfl vc (HCX.out w3 R3.out.1.1).1 ?_)
          | (refine wl_blenN (.tmp 60) rfl rfl vc c rfl (HCX.out w3 R3.out.1.1).2 m HML.out ?_)
          | (refine wl_wslot (.tmp 65) (.tmp 66) rfl rfl B n k rfl _ rfl rfl hlt ?_)
          | (refine wl_load1' one39 (.tmp 67) rfl rfl B k rfl vc (HCX.out w3 R3.out.1.1).1 ?_)
          | (refine wl_blenN (.tmp 68) rfl rfl vc c rfl (HCX.out w3 R3.out.1.1).2 m HML.out ?_)
          | (refine wl_wslot (.tmp 79) (.tmp 80) rfl rfl B n k rfl _ rfl rfl hlt ?_)
          | (refine wl_load1' one39 (.tmp 81) rfl rfl B k rfl vc (HCX.out w3 R3.out.1.1).1 ?_)
          | (refine wl_blenN (.tmp 82) rfl rfl vc c rfl (HCX.out w3 R3.out.1.1).2 64 (by rw [HML.out]; exact HFU.out hlast) ?_)); try simp only [Act.put, List.setIfInBounds_toArray, List.set_cons_succ, List.set_cons_zero])
        refine wp_region_held (S := fun X => WhTo w X B gr BA b r x1 (k + 1) ∧ HIn X v2 pr) (by kernel_rfl) ?_
        show wpAnyH _ _ _ _ _ 12 (Array.replicate 12 false) _ _
        have hS : WhTo w { w3 with drawn := w3.drawn + 1 } B gr BA b r x1 (k + 1) ∧ HIn { w3 with drawn := w3.drawn + 1 } v2 pr := ⟨⟨R3.out.1.1.later (below_drawn w3 _), R3.out.1.2.later (below_drawn w3 _) (Nat.le_refl _)⟩, R3.out.2.later (below_drawn w3 _)⟩
        refine takeH (i := 0) (some 87) rfl rfl (by kernel_rfl) (by kernel_rfl) (by kernel_rfl) (fun _ _ _ h => h) (yMove rfl (.tmp 4) rfl (whole B n) rfl) hS ?_
        simp only [Act.put, List.setIfInBounds_toArray, List.set_cons_succ, List.set_cons_zero]
        refine takeH (i := 1) (some 88) rfl rfl (by kernel_rfl) (by kernel_rfl) (by kernel_rfl) (fun _ _ _ h => h) (yMove rfl (.tmp 7) rfl (.int .i64 (k : Nat)) rfl) hS ?_
        simp only [Act.put, List.setIfInBounds_toArray, List.set_cons_succ, List.set_cons_zero]
        refine takeH (i := 2) (some 89) rfl rfl (by kernel_rfl) (by kernel_rfl) (by kernel_rfl) (fun _ _ _ h => h) (yRunW rfl _ (fun _ _ => rx_wslot (.tmp 87) (.tmp 88) rfl B n k rfl _ rfl rfl hlt)) hS ?_
        simp only [Act.put, List.setIfInBounds_toArray, List.set_cons_succ, List.set_cons_zero]
        refine takeH (i := 3) (some 90) rfl rfl (by kernel_rfl) (by kernel_rfl) (by kernel_rfl) (fun _ _ _ h => h) (yRunW rfl _ (fun X hX => rx_load1 one39 (.tmp 89) rfl B k rfl vc (HCX.out X hX.1.1).1)) hS ?_
        simp only [Act.put, List.setIfInBounds_toArray, List.set_cons_succ, List.set_cons_zero]
        refine takeH (i := 4) (some 91) rfl rfl (by kernel_rfl) (by kernel_rfl) (by kernel_rfl) (fun _ _ _ h => h) (yRunW rfl _ (fun _ _ => rx_bsub (.tmp 90) (some (.const (.int .i64 1))) none none rfl vc vs rfl HRUN.out)) hS ?_
        simp only [Act.put, List.setIfInBounds_toArray, List.set_cons_succ, List.set_cons_zero]
        refine takeH (i := 5) (some 92) rfl rfl (by kernel_rfl) (by kernel_rfl) (by kernel_rfl) (fun _ _ _ h => h) (yMove rfl (.tmp 7) rfl (.int .i64 (k : Nat)) rfl) hS ?_
        simp only [Act.put, List.setIfInBounds_toArray, List.set_cons_succ, List.set_cons_zero]
        refine takeH (i := 6) (some 93) rfl rfl (by kernel_rfl) (by kernel_rfl) (by kernel_rfl) (fun _ _ _ h => h) (yMove rfl (.tmp 0) rfl (vb) rfl) hS ?_
        simp only [Act.put, List.setIfInBounds_toArray, List.set_cons_succ, List.set_cons_zero]
        refine takeH (i := 7) (some 94) rfl rfl (by kernel_rfl) (by kernel_rfl) (by kernel_rfl) (fun _ _ _ h => h) (yRunW rfl _ (fun _ _ => rx_blenW (.tmp 93) rfl vb b rfl hb N HN.out)) hS ?_
        simp only [Act.put, List.setIfInBounds_toArray, List.set_cons_succ, List.set_cons_zero]
        refine takeH (i := 8) (some 95) rfl rfl (by kernel_rfl) (by kernel_rfl) (by kernel_rfl) (fun _ _ _ h => h) (yMove rfl (.tmp 8) rfl (v2) rfl) hS ?_
        simp only [Act.put, List.setIfInBounds_toArray, List.set_cons_succ, List.set_cons_zero]
        refine takeH (i := 9) (some 96) rfl rfl (by kernel_rfl) (by kernel_rfl) (by kernel_rfl) (fun _ _ _ h => h) (yLoad rfl (.tmp 5) rfl (.pointer (some ⟨gr, 0, none⟩)) rfl r (fun _ h => h.1.1.1.2.1.at)) hS ?_
        simp only [Act.put, List.setIfInBounds_toArray, List.set_cons_succ, List.set_cons_zero]
        refine oneH (i := 10) (by kernel_rfl) ?_
        refine opCallA (some 97) rfl rfl rfl 25 _ (run_call en25c [.tmp 91, .tmp 92, .tmp 94, .tmp 95, .tmp 96] _ rfl [vs, .int .i64 (k : Nat), .int .i64 (N : Nat), v2, hv r] rfl) ?_
        refine (ccheck_any vs v2 csh (k : Nat) (N : Nat) pr r _ (HVS.out.later (below_drawn w3 _)) hS.2 HRH.out (ht.later hS.1.1.1.2.2) (hst.later hS.1.1.1.2.2) (by omega) (by omega)).mono ?_
        rw [HSH.out]
        rintro e w4 ⟨rfl, bz⟩
        have hSz : WhTo w w4 B gr BA b r x1 (k + 1) ∧ HIn w4 v2 pr := ⟨⟨hS.1.1.later bz, hS.1.2.later bz (Nat.le_refl _)⟩, hS.2.later bz⟩
        refine ⟨_, rfl, hSz, ?_⟩
        clear hS bz
        simp only [Act.put, List.setIfInBounds_toArray, List.set_cons_succ, List.set_cons_zero]
        refine takeH (i := 11) (some 11) rfl rfl (by kernel_rfl) (by kernel_rfl) (by kernel_rfl) (fun _ _ _ h => h) (yAssign rfl (.tmp 97) rfl (.bool false) rfl) hSz ?_
        simp only [Act.put, List.setIfInBounds_toArray, List.set_cons_succ, List.set_cons_zero]
        refine wpAnyH_done (by kernel_rfl) ?_ _
        have R4 : Hid (WhTo w w4 B gr BA b r x1 (k + 1) ∧ HIn w4 v2 pr) := hSz
        clear hSz
        go_wp2_with fail
        refine wp_region_held (S := fun X => WhTo w X B gr BA b r x1 (k + 1) ∧ HIn X v2 pr ∧ Below w4.heap.size w4 X) (by kernel_rfl) ?_
        show wpAnyH _ _ _ _ _ 15 (Array.replicate 15 false) _ _
        have hS : WhTo w { w4 with drawn := w4.drawn + 1 } B gr BA b r x1 (k + 1) ∧ HIn { w4 with drawn := w4.drawn + 1 } v2 pr ∧ Below w4.heap.size w4 { w4 with drawn := w4.drawn + 1 } := ⟨⟨R4.out.1.1.later (below_drawn w4 _), R4.out.1.2.later (below_drawn w4 _) (Nat.le_refl _)⟩, R4.out.2.later (below_drawn w4 _), below_drawn w4 _⟩
        have HSN : Hid (∀ X Y, (WhTo w X B gr BA b r x1 (k + 1) ∧ HIn X v2 pr ∧ Below w4.heap.size w4 X) → Below w4.heap.size X Y → (WhTo w Y B gr BA b r x1 (k + 1) ∧ HIn Y v2 pr ∧ Below w4.heap.size w4 Y)) := fun X Y hX hb => by
          have b' : Below w4.heap.size w4 Y := hX.2.2.trans hb
          exact ⟨⟨R4.out.1.1.later b', R4.out.1.2.later b' (Nat.le_refl _)⟩, R4.out.2.later b', b'⟩
        refine takeH (i := 1) (some 99) rfl rfl (by kernel_rfl) (by kernel_rfl) (by kernel_rfl) (fun _ _ _ h => h) (yMove rfl (.tmp 4) rfl (whole B n) rfl) hS ?_
        simp only [Act.put, List.setIfInBounds_toArray, List.set_cons_succ, List.set_cons_zero]
        refine takeH (i := 2) (some 100) rfl rfl (by kernel_rfl) (by kernel_rfl) (by kernel_rfl) (fun _ _ _ h => h) (yMove rfl (.tmp 7) rfl (.int .i64 (k : Nat)) rfl) hS ?_
        simp only [Act.put, List.setIfInBounds_toArray, List.set_cons_succ, List.set_cons_zero]
        refine takeH (i := 3) (some 101) rfl rfl (by kernel_rfl) (by kernel_rfl) (by kernel_rfl) (fun _ _ _ h => h) (yRunW rfl _ (fun _ _ => rx_wslot (.tmp 99) (.tmp 100) rfl B n k rfl _ rfl rfl hlt)) hS ?_
        simp only [Act.put, List.setIfInBounds_toArray, List.set_cons_succ, List.set_cons_zero]
        refine takeH (i := 4) (some 102) rfl rfl (by kernel_rfl) (by kernel_rfl) (by kernel_rfl) (fun _ _ _ h => h) (yRunW rfl _ (fun X hX => rx_load1 one39 (.tmp 101) rfl B k rfl vc (HCX.out X hX.1.1).1)) hS ?_
        simp only [Act.put, List.setIfInBounds_toArray, List.set_cons_succ, List.set_cons_zero]
        refine takeH (i := 8) (some 106) rfl rfl (by kernel_rfl) (by kernel_rfl) (by kernel_rfl) (fun _ _ _ h => h) (yMove rfl (.tmp 7) rfl (.int .i64 (k : Nat)) rfl) hS ?_
        simp only [Act.put, List.setIfInBounds_toArray, List.set_cons_succ, List.set_cons_zero]
        refine takeH (i := 9) (some 107) rfl rfl (by kernel_rfl) (by kernel_rfl) (by kernel_rfl) (fun _ _ _ h => h) (yMove rfl (.tmp 0) rfl (vb) rfl) hS ?_
        simp only [Act.put, List.setIfInBounds_toArray, List.set_cons_succ, List.set_cons_zero]
        refine takeH (i := 10) (some 108) rfl rfl (by kernel_rfl) (by kernel_rfl) (by kernel_rfl) (fun _ _ _ h => h) (yRunW rfl _ (fun _ _ => rx_blenW (.tmp 107) rfl vb b rfl hb N HN.out)) hS ?_
        simp only [Act.put, List.setIfInBounds_toArray, List.set_cons_succ, List.set_cons_zero]
        refine takeH (i := 11) (some 109) rfl rfl (by kernel_rfl) (by kernel_rfl) (by kernel_rfl) (fun _ _ _ h => h) (yMove rfl (.tmp 8) rfl (v2) rfl) hS ?_
        simp only [Act.put, List.setIfInBounds_toArray, List.set_cons_succ, List.set_cons_zero]
        refine takeH (i := 12) (some 110) rfl rfl (by kernel_rfl) (by kernel_rfl) (by kernel_rfl) (fun _ _ _ h => h) (yLoad rfl (.tmp 5) rfl (.pointer (some ⟨gr, 0, none⟩)) rfl r (fun _ h => h.1.1.1.2.1.at)) hS ?_
        simp only [Act.put, List.setIfInBounds_toArray, List.set_cons_succ, List.set_cons_zero]
        have hC : w4.heap.size ≤ ({ w4 with drawn := w4.drawn + 1 } : World).heap.size := Nat.le_refl _
        generalize ({ w4 with drawn := w4.drawn + 1 } : World) = y0 at hS hC ⊢
        refine twoH (i := 0) (j := 6) (by kernel_rfl) ?_ ?_
        · refine opLit0b (some 98) rfl rfl rfl rfl w4.heap.size hC ?_
          intro v98 y1 F0 o0 bl
          clear o0
          have hS' := HSN.out _ y1 hS (bl.mono hC)
          replace hC : w4.heap.size ≤ y1.heap.size := Nat.le_trans hC bl.size
          clear hS bl
          have hS := hS'
          clear hS'
          refine ⟨hS, ?_⟩
          simp only [Act.put, List.setIfInBounds_toArray, List.set_cons_succ, List.set_cons_zero]
          refine twoH (i := 5) (j := 6) (by kernel_rfl) ?_ ?_
          · refine opApp (some 103) rfl rfl rfl (.tmp 98) (.tmp 102) rfl w4.heap.size v98 vc [] c rfl F0 rfl (HCX.out _ hS.1.1).2 (by have := HML.out; simp; omega) hC ?_
            intro v103 y2 F5 bl sl _
            rw [List.nil_append] at F5
            have hS' := HSN.out _ y2 hS (bl)
            replace hC : w4.heap.size ≤ y2.heap.size := Nat.le_trans hC sl
            clear hS bl sl
            have hS := hS'
            clear hS'
            refine ⟨hS, ?_⟩
            simp only [Act.put, List.setIfInBounds_toArray, List.set_cons_succ, List.set_cons_zero]
            refine oneH (i := 6) (by kernel_rfl) ?_
            refine opLit1b (some 104) rfl rfl rfl (.const (.int .u8 0)) rfl 0 _ rfl rfl w4.heap.size hC ?_
            intro v104 y3 F6 o6 bl
            replace F5 := F5.later bl (Nat.le_refl _)
            clear o6
            have hS' := HSN.out _ y3 hS (bl.mono hC)
            replace hC : w4.heap.size ≤ y3.heap.size := Nat.le_trans hC bl.size
            clear hS bl
            have hS := hS'
            clear hS'
            refine ⟨hS, ?_⟩
            simp only [Act.put, List.setIfInBounds_toArray, List.set_cons_succ, List.set_cons_zero]
            refine oneH (i := 7) (by kernel_rfl) ?_
            refine opApp (some 105) rfl rfl rfl (.tmp 103) (.tmp 104) rfl w4.heap.size v103 v104 c [0] rfl F5 rfl (F6.slice (lt256 _ (by simp))) (by have := HML.out; simp; omega) hC ?_
            intro v105 y4 F7 bl sl _
            have hS' := HSN.out _ y4 hS (bl)
            replace hC : w4.heap.size ≤ y4.heap.size := Nat.le_trans hC sl
            clear hS bl sl
            have hS := hS'
            clear hS'
            refine ⟨hS, ?_⟩
            simp only [Act.put, List.setIfInBounds_toArray, List.set_cons_succ, List.set_cons_zero]
            refine oneH (i := 13) (by kernel_rfl) ?_
            refine opCallA (some 111) rfl rfl rfl 25 _ (run_call en25c [.tmp 105, .tmp 106, .tmp 108, .tmp 109, .tmp 110] _ rfl [v105, .int .i64 (k : Nat), .int .i64 (N : Nat), v2, hv r] rfl) ?_
            refine (ccheck_any v105 v2 (c ++ [0]) (k : Nat) (N : Nat) pr r _ (F7.slice (lt256 _ (by intro y hy; rcases List.mem_append.1 hy with hy | hy; (exact HBC.out y hy); (rw [List.mem_singleton.1 hy]; decide)))) hS.2.1 HRH.out (ht.later hS.1.1.1.2.2) (hst.later hS.1.1.1.2.2) (by omega) (by omega)).mono ?_
            rw [HLG.out _ rfl]
            rintro e w5 ⟨rfl, bz⟩
            have hSz := HSN.out _ w5 hS (bz.mono hC)
            refine ⟨_, rfl, hSz, ?_⟩
            clear hS bz
            simp only [Act.put, List.setIfInBounds_toArray, List.set_cons_succ, List.set_cons_zero]
            refine takeH (i := 14) (some 12) rfl rfl (by kernel_rfl) (by kernel_rfl) (by kernel_rfl) (fun _ _ _ h => h) (yAssign rfl (.tmp 111) rfl (.bool false) rfl) hSz ?_
            simp only [Act.put, List.setIfInBounds_toArray, List.set_cons_succ, List.set_cons_zero]
            refine wpAnyH_done (by kernel_rfl) ?_ _
            have R5 : Hid (WhTo w w5 B gr BA b r x1 (k + 1)) := hSz.1
            clear hSz
            go_wp2_with fail
            exact ⟨⟨k + 1, by omega, by go_num, R5.out⟩, by simp [intOf]; omega⟩
          · refine opLit1b (some 104) rfl rfl rfl (.const (.int .u8 0)) rfl 0 _ rfl rfl w4.heap.size hC ?_
            intro v104 y5 F6 o6 bl
            have AP : v104.ownBlock = none ∨ v104.ownBlock ≠ v98.ownBlock := Or.inr (fun e => by rw [o6] at e; have := (F0.lt _ e.symm).2; omega)
            replace F0 := F0.later bl (Nat.le_refl _)
            clear o6
            have hS' := HSN.out _ y5 hS (bl.mono hC)
            replace hC : w4.heap.size ≤ y5.heap.size := Nat.le_trans hC bl.size
            clear hS bl
            have hS := hS'
            clear hS'
            refine ⟨hS, ?_⟩
            simp only [Act.put, List.setIfInBounds_toArray, List.set_cons_succ, List.set_cons_zero]
            refine oneH (i := 5) (by kernel_rfl) ?_
            refine opApp (some 103) rfl rfl rfl (.tmp 98) (.tmp 102) rfl w4.heap.size v98 vc [] c rfl F0 rfl (HCX.out _ hS.1.1).2 (by have := HML.out; simp; omega) hC ?_
            intro v103 y6 F5 bl sl kp
            rw [List.nil_append] at F5
            replace F6 := kp v104 [0] F6 AP
            clear kp AP
            have hS' := HSN.out _ y6 hS (bl)
            replace hC : w4.heap.size ≤ y6.heap.size := Nat.le_trans hC sl
            clear hS bl sl
            have hS := hS'
            clear hS'
            refine ⟨hS, ?_⟩
            simp only [Act.put, List.setIfInBounds_toArray, List.set_cons_succ, List.set_cons_zero]
            refine oneH (i := 7) (by kernel_rfl) ?_
            refine opApp (some 105) rfl rfl rfl (.tmp 103) (.tmp 104) rfl w4.heap.size v103 v104 c [0] rfl F5 rfl (F6.slice (lt256 _ (by simp))) (by have := HML.out; simp; omega) hC ?_
            intro v105 y7 F7 bl sl _
            have hS' := HSN.out _ y7 hS (bl)
            replace hC : w4.heap.size ≤ y7.heap.size := Nat.le_trans hC sl
            clear hS bl sl
            have hS := hS'
            clear hS'
            refine ⟨hS, ?_⟩
            simp only [Act.put, List.setIfInBounds_toArray, List.set_cons_succ, List.set_cons_zero]
            refine oneH (i := 13) (by kernel_rfl) ?_
            refine opCallA (some 111) rfl rfl rfl 25 _ (run_call en25c [.tmp 105, .tmp 106, .tmp 108, .tmp 109, .tmp 110] _ rfl [v105, .int .i64 (k : Nat), .int .i64 (N : Nat), v2, hv r] rfl) ?_
            refine (ccheck_any v105 v2 (c ++ [0]) (k : Nat) (N : Nat) pr r _ (F7.slice (lt256 _ (by intro y hy; rcases List.mem_append.1 hy with hy | hy; (exact HBC.out y hy); (rw [List.mem_singleton.1 hy]; decide)))) hS.2.1 HRH.out (ht.later hS.1.1.1.2.2) (hst.later hS.1.1.1.2.2) (by omega) (by omega)).mono ?_
            rw [HLG.out _ rfl]
            rintro e w5 ⟨rfl, bz⟩
            have hSz := HSN.out _ w5 hS (bz.mono hC)
            refine ⟨_, rfl, hSz, ?_⟩
            clear hS bz
            simp only [Act.put, List.setIfInBounds_toArray, List.set_cons_succ, List.set_cons_zero]
            refine takeH (i := 14) (some 12) rfl rfl (by kernel_rfl) (by kernel_rfl) (by kernel_rfl) (fun _ _ _ h => h) (yAssign rfl (.tmp 111) rfl (.bool false) rfl) hSz ?_
            simp only [Act.put, List.setIfInBounds_toArray, List.set_cons_succ, List.set_cons_zero]
            refine wpAnyH_done (by kernel_rfl) ?_ _
            have R5 : Hid (WhTo w w5 B gr BA b r x1 (k + 1)) := hSz.1
            clear hSz
            go_wp2_with fail
            exact ⟨⟨k + 1, by omega, by go_num, R5.out⟩, by simp [intOf]; omega⟩
        · refine opLit1b (some 104) rfl rfl rfl (.const (.int .u8 0)) rfl 0 _ rfl rfl w4.heap.size hC ?_
          intro v104 y8 F6 o6 bl
          clear o6
          have hS' := HSN.out _ y8 hS (bl.mono hC)
          replace hC : w4.heap.size ≤ y8.heap.size := Nat.le_trans hC bl.size
          clear hS bl
          have hS := hS'
          clear hS'
          refine ⟨hS, ?_⟩
          simp only [Act.put, List.setIfInBounds_toArray, List.set_cons_succ, List.set_cons_zero]
          refine oneH (i := 0) (by kernel_rfl) ?_
          refine opLit0b (some 98) rfl rfl rfl rfl w4.heap.size hC ?_
          intro v98 y9 F0 o0 bl
          have AP : v104.ownBlock = none ∨ v104.ownBlock ≠ v98.ownBlock := Or.inr (fun e => by rw [o0] at e; have := (F6.lt _ e).2; omega)
          replace F6 := F6.later bl (Nat.le_refl _)
          clear o0
          have hS' := HSN.out _ y9 hS (bl.mono hC)
          replace hC : w4.heap.size ≤ y9.heap.size := Nat.le_trans hC bl.size
          clear hS bl
          have hS := hS'
          clear hS'
          refine ⟨hS, ?_⟩
          simp only [Act.put, List.setIfInBounds_toArray, List.set_cons_succ, List.set_cons_zero]
          refine oneH (i := 5) (by kernel_rfl) ?_
          refine opApp (some 103) rfl rfl rfl (.tmp 98) (.tmp 102) rfl w4.heap.size v98 vc [] c rfl F0 rfl (HCX.out _ hS.1.1).2 (by have := HML.out; simp; omega) hC ?_
          intro v103 y10 F5 bl sl kp
          rw [List.nil_append] at F5
          replace F6 := kp v104 [0] F6 AP
          clear kp AP
          have hS' := HSN.out _ y10 hS (bl)
          replace hC : w4.heap.size ≤ y10.heap.size := Nat.le_trans hC sl
          clear hS bl sl
          have hS := hS'
          clear hS'
          refine ⟨hS, ?_⟩
          simp only [Act.put, List.setIfInBounds_toArray, List.set_cons_succ, List.set_cons_zero]
          refine oneH (i := 7) (by kernel_rfl) ?_
          refine opApp (some 105) rfl rfl rfl (.tmp 103) (.tmp 104) rfl w4.heap.size v103 v104 c [0] rfl F5 rfl (F6.slice (lt256 _ (by simp))) (by have := HML.out; simp; omega) hC ?_
          intro v105 y11 F7 bl sl _
          have hS' := HSN.out _ y11 hS (bl)
          replace hC : w4.heap.size ≤ y11.heap.size := Nat.le_trans hC sl
          clear hS bl sl
          have hS := hS'
          clear hS'
          refine ⟨hS, ?_⟩
          simp only [Act.put, List.setIfInBounds_toArray, List.set_cons_succ, List.set_cons_zero]
          refine oneH (i := 13) (by kernel_rfl) ?_
          refine opCallA (some 111) rfl rfl rfl 25 _ (run_call en25c [.tmp 105, .tmp 106, .tmp 108, .tmp 109, .tmp 110] _ rfl [v105, .int .i64 (k : Nat), .int .i64 (N : Nat), v2, hv r] rfl) ?_
          refine (ccheck_any v105 v2 (c ++ [0]) (k : Nat) (N : Nat) pr r _ (F7.slice (lt256 _ (by intro y hy; rcases List.mem_append.1 hy with hy | hy; (exact HBC.out y hy); (rw [List.mem_singleton.1 hy]; decide)))) hS.2.1 HRH.out (ht.later hS.1.1.1.2.2) (hst.later hS.1.1.1.2.2) (by omega) (by omega)).mono ?_
          rw [HLG.out _ rfl]
          rintro e w5 ⟨rfl, bz⟩
          have hSz := HSN.out _ w5 hS (bz.mono hC)
          refine ⟨_, rfl, hSz, ?_⟩
          clear hS bz
          simp only [Act.put, List.setIfInBounds_toArray, List.set_cons_succ, List.set_cons_zero]
          refine takeH (i := 14) (some 12) rfl rfl (by kernel_rfl) (by kernel_rfl) (by kernel_rfl) (fun _ _ _ h => h) (yAssign rfl (.tmp 111) rfl (.bool false) rfl) hSz ?_
          simp only [Act.put, List.setIfInBounds_toArray, List.set_cons_succ, List.set_cons_zero]
          refine wpAnyH_done (by kernel_rfl) ?_ _
          have R5 : Hid (WhTo w w5 B gr BA b r x1 (k + 1)) := hSz.1
          clear hSz
          go_wp2_with fail
          exact ⟨⟨k + 1, by omega, by go_num, R5.out⟩, by simp [intOf]; omega⟩
      · have hlast' : ¬ (k : Int) + 1 < (n : Int) := by omega
        go_wp2_with ((first
          | (refine wl_wlen (.tmp 75) rfl rfl B n rfl ?_)
          | (refine wl_wslot (.tmp 57) (.tmp 58) rfl rfl B n k rfl _ rfl rfl hlt ?_)
          | (refine wl_load1' one39 (.tmp 59) rfl rfl B k rfl vc (HCX.out w3 R3.out.1.1).1 ?_)
          | (refine wl_blenN (.tmp 60) rfl rfl vc c rfl (HCX.out w3 R3.out.1.1).2 m HML.out ?_)
          | (refine wl_wslot (.tmp 65) (.tmp 66) rfl rfl B n k rfl _ rfl rfl hlt ?_)
          | (refine wl_load1' one39 (.tmp 67) rfl rfl B k rfl vc (HCX.out w3 R3.out.1.1).1 ?_)
          | (refine wl_blenN (.tmp 68) rfl rfl vc c rfl (HCX.out w3 R3.out.1.1).2 m HML.out ?_)); try simp only [Act.put, List.setIfInBounds_toArray, List.set_cons_succ, List.set_cons_zero])
        refine wp_region_held (S := fun X => WhTo w X B gr BA b r x1 (k + 1) ∧ HIn X v2 pr) (by kernel_rfl) ?_
        show wpAnyH _ _ _ _ _ 12 (Array.replicate 12 false) _ _
        have hS : WhTo w { w3 with drawn := w3.drawn + 1 } B gr BA b r x1 (k + 1) ∧ HIn { w3 with drawn := w3.drawn + 1 } v2 pr := ⟨⟨R3.out.1.1.later (below_drawn w3 _), R3.out.1.2.later (below_drawn w3 _) (Nat.le_refl _)⟩, R3.out.2.later (below_drawn w3 _)⟩
        refine takeH (i := 0) (some 87) rfl rfl (by kernel_rfl) (by kernel_rfl) (by kernel_rfl) (fun _ _ _ h => h) (yMove rfl (.tmp 4) rfl (whole B n) rfl) hS ?_
        simp only [Act.put, List.setIfInBounds_toArray, List.set_cons_succ, List.set_cons_zero]
        refine takeH (i := 1) (some 88) rfl rfl (by kernel_rfl) (by kernel_rfl) (by kernel_rfl) (fun _ _ _ h => h) (yMove rfl (.tmp 7) rfl (.int .i64 (k : Nat)) rfl) hS ?_
        simp only [Act.put, List.setIfInBounds_toArray, List.set_cons_succ, List.set_cons_zero]
        refine takeH (i := 2) (some 89) rfl rfl (by kernel_rfl) (by kernel_rfl) (by kernel_rfl) (fun _ _ _ h => h) (yRunW rfl _ (fun _ _ => rx_wslot (.tmp 87) (.tmp 88) rfl B n k rfl _ rfl rfl hlt)) hS ?_
        simp only [Act.put, List.setIfInBounds_toArray, List.set_cons_succ, List.set_cons_zero]
        refine takeH (i := 3) (some 90) rfl rfl (by kernel_rfl) (by kernel_rfl) (by kernel_rfl) (fun _ _ _ h => h) (yRunW rfl _ (fun X hX => rx_load1 one39 (.tmp 89) rfl B k rfl vc (HCX.out X hX.1.1).1)) hS ?_
        simp only [Act.put, List.setIfInBounds_toArray, List.set_cons_succ, List.set_cons_zero]
        refine takeH (i := 4) (some 91) rfl rfl (by kernel_rfl) (by kernel_rfl) (by kernel_rfl) (fun _ _ _ h => h) (yRunW rfl _ (fun _ _ => rx_bsub (.tmp 90) (some (.const (.int .i64 1))) none none rfl vc vs rfl HRUN.out)) hS ?_
        simp only [Act.put, List.setIfInBounds_toArray, List.set_cons_succ, List.set_cons_zero]
        refine takeH (i := 5) (some 92) rfl rfl (by kernel_rfl) (by kernel_rfl) (by kernel_rfl) (fun _ _ _ h => h) (yMove rfl (.tmp 7) rfl (.int .i64 (k : Nat)) rfl) hS ?_
        simp only [Act.put, List.setIfInBounds_toArray, List.set_cons_succ, List.set_cons_zero]
        refine takeH (i := 6) (some 93) rfl rfl (by kernel_rfl) (by kernel_rfl) (by kernel_rfl) (fun _ _ _ h => h) (yMove rfl (.tmp 0) rfl (vb) rfl) hS ?_
        simp only [Act.put, List.setIfInBounds_toArray, List.set_cons_succ, List.set_cons_zero]
        refine takeH (i := 7) (some 94) rfl rfl (by kernel_rfl) (by kernel_rfl) (by kernel_rfl) (fun _ _ _ h => h) (yRunW rfl _ (fun _ _ => rx_blenW (.tmp 93) rfl vb b rfl hb N HN.out)) hS ?_
        simp only [Act.put, List.setIfInBounds_toArray, List.set_cons_succ, List.set_cons_zero]
        refine takeH (i := 8) (some 95) rfl rfl (by kernel_rfl) (by kernel_rfl) (by kernel_rfl) (fun _ _ _ h => h) (yMove rfl (.tmp 8) rfl (v2) rfl) hS ?_
        simp only [Act.put, List.setIfInBounds_toArray, List.set_cons_succ, List.set_cons_zero]
        refine takeH (i := 9) (some 96) rfl rfl (by kernel_rfl) (by kernel_rfl) (by kernel_rfl) (fun _ _ _ h => h) (yLoad rfl (.tmp 5) rfl (.pointer (some ⟨gr, 0, none⟩)) rfl r (fun _ h => h.1.1.1.2.1.at)) hS ?_
        simp only [Act.put, List.setIfInBounds_toArray, List.set_cons_succ, List.set_cons_zero]
        refine oneH (i := 10) (by kernel_rfl) ?_
        refine opCallA (some 97) rfl rfl rfl 25 _ (run_call en25c [.tmp 91, .tmp 92, .tmp 94, .tmp 95, .tmp 96] _ rfl [vs, .int .i64 (k : Nat), .int .i64 (N : Nat), v2, hv r] rfl) ?_
        refine (ccheck_any vs v2 csh (k : Nat) (N : Nat) pr r _ (HVS.out.later (below_drawn w3 _)) hS.2 HRH.out (ht.later hS.1.1.1.2.2) (hst.later hS.1.1.1.2.2) (by omega) (by omega)).mono ?_
        rw [HSH.out]
        rintro e w4 ⟨rfl, bz⟩
        have hSz : WhTo w w4 B gr BA b r x1 (k + 1) ∧ HIn w4 v2 pr := ⟨⟨hS.1.1.later bz, hS.1.2.later bz (Nat.le_refl _)⟩, hS.2.later bz⟩
        refine ⟨_, rfl, hSz, ?_⟩
        clear hS bz
        simp only [Act.put, List.setIfInBounds_toArray, List.set_cons_succ, List.set_cons_zero]
        refine takeH (i := 11) (some 11) rfl rfl (by kernel_rfl) (by kernel_rfl) (by kernel_rfl) (fun _ _ _ h => h) (yAssign rfl (.tmp 97) rfl (.bool false) rfl) hSz ?_
        simp only [Act.put, List.setIfInBounds_toArray, List.set_cons_succ, List.set_cons_zero]
        refine wpAnyH_done (by kernel_rfl) ?_ _
        have R4 : Hid (WhTo w w4 B gr BA b r x1 (k + 1) ∧ HIn w4 v2 pr) := hSz
        clear hSz
        go_wp2_with fail
        refine wp_region_held (S := fun X => WhTo w X B gr BA b r x1 (k + 1) ∧ HIn X v2 pr ∧ Below w4.heap.size w4 X) (by kernel_rfl) ?_
        show wpAnyH _ _ _ _ _ 15 (Array.replicate 15 false) _ _
        have hS : WhTo w { w4 with drawn := w4.drawn + 1 } B gr BA b r x1 (k + 1) ∧ HIn { w4 with drawn := w4.drawn + 1 } v2 pr ∧ Below w4.heap.size w4 { w4 with drawn := w4.drawn + 1 } := ⟨⟨R4.out.1.1.later (below_drawn w4 _), R4.out.1.2.later (below_drawn w4 _) (Nat.le_refl _)⟩, R4.out.2.later (below_drawn w4 _), below_drawn w4 _⟩
        have HSN : Hid (∀ X Y, (WhTo w X B gr BA b r x1 (k + 1) ∧ HIn X v2 pr ∧ Below w4.heap.size w4 X) → Below w4.heap.size X Y → (WhTo w Y B gr BA b r x1 (k + 1) ∧ HIn Y v2 pr ∧ Below w4.heap.size w4 Y)) := fun X Y hX hb => by
          have b' : Below w4.heap.size w4 Y := hX.2.2.trans hb
          exact ⟨⟨R4.out.1.1.later b', R4.out.1.2.later b' (Nat.le_refl _)⟩, R4.out.2.later b', b'⟩
        refine takeH (i := 1) (some 99) rfl rfl (by kernel_rfl) (by kernel_rfl) (by kernel_rfl) (fun _ _ _ h => h) (yMove rfl (.tmp 4) rfl (whole B n) rfl) hS ?_
        simp only [Act.put, List.setIfInBounds_toArray, List.set_cons_succ, List.set_cons_zero]
        refine takeH (i := 2) (some 100) rfl rfl (by kernel_rfl) (by kernel_rfl) (by kernel_rfl) (fun _ _ _ h => h) (yMove rfl (.tmp 7) rfl (.int .i64 (k : Nat)) rfl) hS ?_
        simp only [Act.put, List.setIfInBounds_toArray, List.set_cons_succ, List.set_cons_zero]
        refine takeH (i := 3) (some 101) rfl rfl (by kernel_rfl) (by kernel_rfl) (by kernel_rfl) (fun _ _ _ h => h) (yRunW rfl _ (fun _ _ => rx_wslot (.tmp 99) (.tmp 100) rfl B n k rfl _ rfl rfl hlt)) hS ?_
        simp only [Act.put, List.setIfInBounds_toArray, List.set_cons_succ, List.set_cons_zero]
        refine takeH (i := 4) (some 102) rfl rfl (by kernel_rfl) (by kernel_rfl) (by kernel_rfl) (fun _ _ _ h => h) (yRunW rfl _ (fun X hX => rx_load1 one39 (.tmp 101) rfl B k rfl vc (HCX.out X hX.1.1).1)) hS ?_
        simp only [Act.put, List.setIfInBounds_toArray, List.set_cons_succ, List.set_cons_zero]
        refine takeH (i := 8) (some 106) rfl rfl (by kernel_rfl) (by kernel_rfl) (by kernel_rfl) (fun _ _ _ h => h) (yMove rfl (.tmp 7) rfl (.int .i64 (k : Nat)) rfl) hS ?_
        simp only [Act.put, List.setIfInBounds_toArray, List.set_cons_succ, List.set_cons_zero]
        refine takeH (i := 9) (some 107) rfl rfl (by kernel_rfl) (by kernel_rfl) (by kernel_rfl) (fun _ _ _ h => h) (yMove rfl (.tmp 0) rfl (vb) rfl) hS ?_
        simp only [Act.put, List.setIfInBounds_toArray, List.set_cons_succ, List.set_cons_zero]
        refine takeH (i := 10) (some 108) rfl rfl (by kernel_rfl) (by kernel_rfl) (by kernel_rfl) (fun _ _ _ h => h) (yRunW rfl _ (fun _ _ => rx_blenW (.tmp 107) rfl vb b rfl hb N HN.out)) hS ?_
        simp only [Act.put, List.setIfInBounds_toArray, List.set_cons_succ, List.set_cons_zero]
        refine takeH (i := 11) (some 109) rfl rfl (by kernel_rfl) (by kernel_rfl) (by kernel_rfl) (fun _ _ _ h => h) (yMove rfl (.tmp 8) rfl (v2) rfl) hS ?_
        simp only [Act.put, List.setIfInBounds_toArray, List.set_cons_succ, List.set_cons_zero]
        refine takeH (i := 12) (some 110) rfl rfl (by kernel_rfl) (by kernel_rfl) (by kernel_rfl) (fun _ _ _ h => h) (yLoad rfl (.tmp 5) rfl (.pointer (some ⟨gr, 0, none⟩)) rfl r (fun _ h => h.1.1.1.2.1.at)) hS ?_
        simp only [Act.put, List.setIfInBounds_toArray, List.set_cons_succ, List.set_cons_zero]
        have hC : w4.heap.size ≤ ({ w4 with drawn := w4.drawn + 1 } : World).heap.size := Nat.le_refl _
        generalize ({ w4 with drawn := w4.drawn + 1 } : World) = y0 at hS hC ⊢
        refine twoH (i := 0) (j := 6) (by kernel_rfl) ?_ ?_
        · refine opLit0b (some 98) rfl rfl rfl rfl w4.heap.size hC ?_
          intro v98 y1 F0 o0 bl
          clear o0
          have hS' := HSN.out _ y1 hS (bl.mono hC)
          replace hC : w4.heap.size ≤ y1.heap.size := Nat.le_trans hC bl.size
          clear hS bl
          have hS := hS'
          clear hS'
          refine ⟨hS, ?_⟩
          simp only [Act.put, List.setIfInBounds_toArray, List.set_cons_succ, List.set_cons_zero]
          refine twoH (i := 5) (j := 6) (by kernel_rfl) ?_ ?_
          · refine opApp (some 103) rfl rfl rfl (.tmp 98) (.tmp 102) rfl w4.heap.size v98 vc [] c rfl F0 rfl (HCX.out _ hS.1.1).2 (by have := HML.out; simp; omega) hC ?_
            intro v103 y2 F5 bl sl _
            rw [List.nil_append] at F5
            have hS' := HSN.out _ y2 hS (bl)
            replace hC : w4.heap.size ≤ y2.heap.size := Nat.le_trans hC sl
            clear hS bl sl
            have hS := hS'
            clear hS'
            refine ⟨hS, ?_⟩
            simp only [Act.put, List.setIfInBounds_toArray, List.set_cons_succ, List.set_cons_zero]
            refine oneH (i := 6) (by kernel_rfl) ?_
            refine opLit1b (some 104) rfl rfl rfl (.const (.int .u8 0)) rfl 0 _ rfl rfl w4.heap.size hC ?_
            intro v104 y3 F6 o6 bl
            replace F5 := F5.later bl (Nat.le_refl _)
            clear o6
            have hS' := HSN.out _ y3 hS (bl.mono hC)
            replace hC : w4.heap.size ≤ y3.heap.size := Nat.le_trans hC bl.size
            clear hS bl
            have hS := hS'
            clear hS'
            refine ⟨hS, ?_⟩
            simp only [Act.put, List.setIfInBounds_toArray, List.set_cons_succ, List.set_cons_zero]
            refine oneH (i := 7) (by kernel_rfl) ?_
            refine opApp (some 105) rfl rfl rfl (.tmp 103) (.tmp 104) rfl w4.heap.size v103 v104 c [0] rfl F5 rfl (F6.slice (lt256 _ (by simp))) (by have := HML.out; simp; omega) hC ?_
            intro v105 y4 F7 bl sl _
            have hS' := HSN.out _ y4 hS (bl)
            replace hC : w4.heap.size ≤ y4.heap.size := Nat.le_trans hC sl
            clear hS bl sl
            have hS := hS'
            clear hS'
            refine ⟨hS, ?_⟩
            simp only [Act.put, List.setIfInBounds_toArray, List.set_cons_succ, List.set_cons_zero]
            refine oneH (i := 13) (by kernel_rfl) ?_
            refine opCallA (some 111) rfl rfl rfl 25 _ (run_call en25c [.tmp 105, .tmp 106, .tmp 108, .tmp 109, .tmp 110] _ rfl [v105, .int .i64 (k : Nat), .int .i64 (N : Nat), v2, hv r] rfl) ?_
            refine (ccheck_any v105 v2 (c ++ [0]) (k : Nat) (N : Nat) pr r _ (F7.slice (lt256 _ (by intro y hy; rcases List.mem_append.1 hy with hy | hy; (exact HBC.out y hy); (rw [List.mem_singleton.1 hy]; decide)))) hS.2.1 HRH.out (ht.later hS.1.1.1.2.2) (hst.later hS.1.1.1.2.2) (by omega) (by omega)).mono ?_
            rw [HLG.out _ rfl]
            rintro e w5 ⟨rfl, bz⟩
            have hSz := HSN.out _ w5 hS (bz.mono hC)
            refine ⟨_, rfl, hSz, ?_⟩
            clear hS bz
            simp only [Act.put, List.setIfInBounds_toArray, List.set_cons_succ, List.set_cons_zero]
            refine takeH (i := 14) (some 12) rfl rfl (by kernel_rfl) (by kernel_rfl) (by kernel_rfl) (fun _ _ _ h => h) (yAssign rfl (.tmp 111) rfl (.bool false) rfl) hSz ?_
            simp only [Act.put, List.setIfInBounds_toArray, List.set_cons_succ, List.set_cons_zero]
            refine wpAnyH_done (by kernel_rfl) ?_ _
            have R5 : Hid (WhTo w w5 B gr BA b r x1 (k + 1)) := hSz.1
            clear hSz
            go_wp2_with fail
            exact ⟨⟨k + 1, by omega, by go_num, R5.out⟩, by simp [intOf]; omega⟩
          · refine opLit1b (some 104) rfl rfl rfl (.const (.int .u8 0)) rfl 0 _ rfl rfl w4.heap.size hC ?_
            intro v104 y5 F6 o6 bl
            have AP : v104.ownBlock = none ∨ v104.ownBlock ≠ v98.ownBlock := Or.inr (fun e => by rw [o6] at e; have := (F0.lt _ e.symm).2; omega)
            replace F0 := F0.later bl (Nat.le_refl _)
            clear o6
            have hS' := HSN.out _ y5 hS (bl.mono hC)
            replace hC : w4.heap.size ≤ y5.heap.size := Nat.le_trans hC bl.size
            clear hS bl
            have hS := hS'
            clear hS'
            refine ⟨hS, ?_⟩
            simp only [Act.put, List.setIfInBounds_toArray, List.set_cons_succ, List.set_cons_zero]
            refine oneH (i := 5) (by kernel_rfl) ?_
            refine opApp (some 103) rfl rfl rfl (.tmp 98) (.tmp 102) rfl w4.heap.size v98 vc [] c rfl F0 rfl (HCX.out _ hS.1.1).2 (by have := HML.out; simp; omega) hC ?_
            intro v103 y6 F5 bl sl kp
            rw [List.nil_append] at F5
            replace F6 := kp v104 [0] F6 AP
            clear kp AP
            have hS' := HSN.out _ y6 hS (bl)
            replace hC : w4.heap.size ≤ y6.heap.size := Nat.le_trans hC sl
            clear hS bl sl
            have hS := hS'
            clear hS'
            refine ⟨hS, ?_⟩
            simp only [Act.put, List.setIfInBounds_toArray, List.set_cons_succ, List.set_cons_zero]
            refine oneH (i := 7) (by kernel_rfl) ?_
            refine opApp (some 105) rfl rfl rfl (.tmp 103) (.tmp 104) rfl w4.heap.size v103 v104 c [0] rfl F5 rfl (F6.slice (lt256 _ (by simp))) (by have := HML.out; simp; omega) hC ?_
            intro v105 y7 F7 bl sl _
            have hS' := HSN.out _ y7 hS (bl)
            replace hC : w4.heap.size ≤ y7.heap.size := Nat.le_trans hC sl
            clear hS bl sl
            have hS := hS'
            clear hS'
            refine ⟨hS, ?_⟩
            simp only [Act.put, List.setIfInBounds_toArray, List.set_cons_succ, List.set_cons_zero]
            refine oneH (i := 13) (by kernel_rfl) ?_
            refine opCallA (some 111) rfl rfl rfl 25 _ (run_call en25c [.tmp 105, .tmp 106, .tmp 108, .tmp 109, .tmp 110] _ rfl [v105, .int .i64 (k : Nat), .int .i64 (N : Nat), v2, hv r] rfl) ?_
            refine (ccheck_any v105 v2 (c ++ [0]) (k : Nat) (N : Nat) pr r _ (F7.slice (lt256 _ (by intro y hy; rcases List.mem_append.1 hy with hy | hy; (exact HBC.out y hy); (rw [List.mem_singleton.1 hy]; decide)))) hS.2.1 HRH.out (ht.later hS.1.1.1.2.2) (hst.later hS.1.1.1.2.2) (by omega) (by omega)).mono ?_
            rw [HLG.out _ rfl]
            rintro e w5 ⟨rfl, bz⟩
            have hSz := HSN.out _ w5 hS (bz.mono hC)
            refine ⟨_, rfl, hSz, ?_⟩
            clear hS bz
            simp only [Act.put, List.setIfInBounds_toArray, List.set_cons_succ, List.set_cons_zero]
            refine takeH (i := 14) (some 12) rfl rfl (by kernel_rfl) (by kernel_rfl) (by kernel_rfl) (fun _ _ _ h => h) (yAssign rfl (.tmp 111) rfl (.bool false) rfl) hSz ?_
            simp only [Act.put, List.setIfInBounds_toArray, List.set_cons_succ, List.set_cons_zero]
            refine wpAnyH_done (by kernel_rfl) ?_ _
            have R5 : Hid (WhTo w w5 B gr BA b r x1 (k + 1)) := hSz.1
            clear hSz
            go_wp2_with fail
            exact ⟨⟨k + 1, by omega, by go_num, R5.out⟩, by simp [intOf]; omega⟩
        · refine opLit1b (some 104) rfl rfl rfl (.const (.int .u8 0)) rfl 0 _ rfl rfl w4.heap.size hC ?_
          intro v104 y8 F6 o6 bl
          clear o6
          have hS' := HSN.out _ y8 hS (bl.mono hC)
          replace hC : w4.heap.size ≤ y8.heap.size := Nat.le_trans hC bl.size
          clear hS bl
          have hS := hS'
          clear hS'
          refine ⟨hS, ?_⟩
          simp only [Act.put, List.setIfInBounds_toArray, List.set_cons_succ, List.set_cons_zero]
          refine oneH (i := 0) (by kernel_rfl) ?_
          refine opLit0b (some 98) rfl rfl rfl rfl w4.heap.size hC ?_
          intro v98 y9 F0 o0 bl
          have AP : v104.ownBlock = none ∨ v104.ownBlock ≠ v98.ownBlock := Or.inr (fun e => by rw [o0] at e; have := (F6.lt _ e).2; omega)
          replace F6 := F6.later bl (Nat.le_refl _)
          clear o0
          have hS' := HSN.out _ y9 hS (bl.mono hC)
          replace hC : w4.heap.size ≤ y9.heap.size := Nat.le_trans hC bl.size
          clear hS bl
          have hS := hS'
          clear hS'
          refine ⟨hS, ?_⟩
          simp only [Act.put, List.setIfInBounds_toArray, List.set_cons_succ, List.set_cons_zero]
          refine oneH (i := 5) (by kernel_rfl) ?_
          refine opApp (some 103) rfl rfl rfl (.tmp 98) (.tmp 102) rfl w4.heap.size v98 vc [] c rfl F0 rfl (HCX.out _ hS.1.1).2 (by have := HML.out; simp; omega) hC ?_
          intro v103 y10 F5 bl sl kp
          rw [List.nil_append] at F5
          replace F6 := kp v104 [0] F6 AP
          clear kp AP
          have hS' := HSN.out _ y10 hS (bl)
          replace hC : w4.heap.size ≤ y10.heap.size := Nat.le_trans hC sl
          clear hS bl sl
          have hS := hS'
          clear hS'
          refine ⟨hS, ?_⟩
          simp only [Act.put, List.setIfInBounds_toArray, List.set_cons_succ, List.set_cons_zero]
          refine oneH (i := 7) (by kernel_rfl) ?_
          refine opApp (some 105) rfl rfl rfl (.tmp 103) (.tmp 104) rfl w4.heap.size v103 v104 c [0] rfl F5 rfl (F6.slice (lt256 _ (by simp))) (by have := HML.out; simp; omega) hC ?_
          intro v105 y11 F7 bl sl _
          have hS' := HSN.out _ y11 hS (bl)
          replace hC : w4.heap.size ≤ y11.heap.size := Nat.le_trans hC sl
          clear hS bl sl
          have hS := hS'
          clear hS'
          refine ⟨hS, ?_⟩
          simp only [Act.put, List.setIfInBounds_toArray, List.set_cons_succ, List.set_cons_zero]
          refine oneH (i := 13) (by kernel_rfl) ?_
          refine opCallA (some 111) rfl rfl rfl 25 _ (run_call en25c [.tmp 105, .tmp 106, .tmp 108, .tmp 109, .tmp 110] _ rfl [v105, .int .i64 (k : Nat), .int .i64 (N : Nat), v2, hv r] rfl) ?_
          refine (ccheck_any v105 v2 (c ++ [0]) (k : Nat) (N : Nat) pr r _ (F7.slice (lt256 _ (by intro y hy; rcases List.mem_append.1 hy with hy | hy; (exact HBC.out y hy); (rw [List.mem_singleton.1 hy]; decide)))) hS.2.1 HRH.out (ht.later hS.1.1.1.2.2) (hst.later hS.1.1.1.2.2) (by omega) (by omega)).mono ?_
          rw [HLG.out _ rfl]
          rintro e w5 ⟨rfl, bz⟩
          have hSz := HSN.out _ w5 hS (bz.mono hC)
          refine ⟨_, rfl, hSz, ?_⟩
          clear hS bz
          simp only [Act.put, List.setIfInBounds_toArray, List.set_cons_succ, List.set_cons_zero]
          refine takeH (i := 14) (some 12) rfl rfl (by kernel_rfl) (by kernel_rfl) (by kernel_rfl) (fun _ _ _ h => h) (yAssign rfl (.tmp 111) rfl (.bool false) rfl) hSz ?_
          simp only [Act.put, List.setIfInBounds_toArray, List.set_cons_succ, List.set_cons_zero]
          refine wpAnyH_done (by kernel_rfl) ?_ _
          have R5 : Hid (WhTo w w5 B gr BA b r x1 (k + 1)) := hSz.1
          clear hSz
          go_wp2_with fail
          exact ⟨⟨k + 1, by omega, by go_num, R5.out⟩, by simp [intOf]; omega⟩
    · have hlt' : ¬ (k : Int) < (n : Int) := by omega
      have HE : Hid (b.take (k * 64) = b) := by
        have e : k = n := by omega
        refine List.take_of_length_le ?_
        rw [e, ← Hn.out]
        exact Cut.count_mul _
      have HVX : Hid (SliceIn wr u6 b) := by
        have := HV.out.2
        rw [HE.out] at this
        exact this.slice (lt256 _ HBM.out)
      go_wp2_with ((first
        | (refine wl_wlen (.tmp 23) rfl rfl B n rfl ?_)
        | (refine wl_blenN (.tmp 116) rfl rfl vb b rfl hb N HN.out ?_)
        | (refine wl_load (.tmp 5) rfl rfl _ rfl r HV.out.1.1.2.1.at ?_)
        | (go_at_call 25; refine (ccheck_any (.slice none 0 0) (.slice none 0 0) [] 0 (N : Nat) [] r wr ⟨none, 0, rfl, ⟨Nat.le_refl _, by decide⟩, Or.inl rfl⟩ (HIn.nil _) HRH.out (ht.later HV.out.1.1.2.2) (hst.later HV.out.1.1.2.2) (by omega) (by omega)).mono ?_; rw [HNO.out]; rintro e w1 ⟨rfl, b1⟩; have R1 : Hid (Below w.heap.size w w1 ∧ SliceIn w1 u6 b) := ⟨below_append HV.out.1.1.2.2 b1, HVX.out.later b1⟩; clear b1)
        | (refine wl rfl _ w1 (rx_string (.tmp 120) rfl u6 b rfl R1.out.2) ?_)
        | (refine wl rfl _ w1 (rx_string (.tmp 122) rfl vb b rfl (hb.later R1.out.1)) ?_)
        | (refine wl rfl _ w1 (rx_seq (.tmp 121) (.tmp 123) rfl b b rfl rfl HBM.out HBM.out true (decide_eq_true rfl)) ?_)); try simp only [Act.put, List.setIfInBounds_toArray, List.set_cons_succ, List.set_cons_zero])
      go_ret
      exact ⟨rfl, R1.out.1⟩
end Go.Proofs.YtfnncccioipjcaaDoor

namespace Go.Proofs.YtfnncccioipjcaaDoor.chunkWhole
open Go.ChangeShapes Go.WideShapes Go.ChangeAt Go.RowKit

set_option maxRecDepth 100000 in
/-- WHAT THE WALK GIVES, FOR EVERY ARGUMENT AND EVERY WORLD THAT HOLDS THE TABLE -/
theorem contract (H : Type) (enc : TypeId × Value → H) (W : World) (base : Nat) (args : Array Value) (ds gs : List (DataW H)) (before : List MemPlace)
    (hval : ∀ (j : Nat) t v, Tryd.f6.params[j]? = some t → args[j]? = some v → Value.okWide Tryd.prog W .any base t v)
    (hW : DataW.Whole enc Tryd.prog Tryd.f6.params.toList Rows.chunkWholeSpec.vars false W args.toList ds gs before)
    (hsz : (DataW.weightsEach Tryd.prog (Tryd.f6.params.toList ++ (Rows.chunkWholeSpec.plain.varTypes Tryd.prog)) (ds ++ gs)).all (· ≤ reachBytes) = true)
    (hL : laidMetH Tryd.prog Rows.chunkWholeRow.laid W) :
    Calls Tryd.prog 6 args W fun e W' => ∃ v, e = .returned v ∧ Rows.chunkWholeSpec.post enc Tryd.prog Tryd.f6 false true false false W args v W' := by
  have hW' := hW
  obtain ⟨p, q, hA0, hV, rfl, hfz, hnd⟩ := hW
  have hA : DataW.TrodAll enc Tryd.prog W 0 (fun _ => true) true Tryd.f6.params.toList args.toList ds p := hA0
  rw [Tryd.params6] at hA hval hsz
  obtain ⟨v0, vs0, d0, ds0, p0, q0, hargs, rfl, rfl, h0, r0⟩ := trodAll_cons hA
  obtain ⟨rfl, rfl, rfl⟩ := trodAll_nil r0
  obtain rfl : args = #[v0] := by cases args; simp_all
  obtain ⟨rfl, rfl⟩ := trodVars_none hV
  have lt0 : ∀ x ∈ p0, x.block < W.heap.size := by obtain ⟨m, hm⟩ := h0; exact DataW.trod_lt m _ _ _ hm
  obtain ⟨cs0, hs0, hd0⟩ := open_bytes (hval 0 39 v0 rfl rfl) h0
  clear hA0
  have hr0 := reach hsz (j := 0) rfl rfl hd0
  have walk := chunkWhole_any v0 cs0 W hs0 (tabs_of hL).2 (tabs_of hL).1 (by omega)
  refine walk.mono fun e W' ⟨he, bel⟩ => ?_
  subst he
  exact ⟨_, rfl, _, _, _, [], _, [], hW', trodAll_mk1 (shut_bool Tryd.underlying4 _), (trodAll_cons_mk (Below.trod laidOut (by kernel_rfl) (of_decide_eq_true (by kernel_rfl)) h0 bel lt0) trodAll_mk0), rfl, bel.frame _, fun h => by cases h⟩

theorem laid_met (os : Os) : laidMet Tryd.prog Rows.chunkWholeRow.laid ((laidOn (World.holding Tryd.prog os ⟨#[], #[], []⟩)).forCall (fun _ _ => 0) ⟨#[], #[.slice none 0 0], []⟩).memory :=
  laidMet_of_run' 8 (by kernel_rfl) (by kernel_rfl)
theorem reads (os : Os) {H : Type} (enc : TypeId × Value → H) : ∃ places, DataW.whole enc Tryd.prog ((laidOn (World.holding Tryd.prog os ⟨#[], #[], []⟩)).forCall (fun _ _ => 0) ⟨#[], #[.slice none 0 0], []⟩).memory Tryd.f6.params.toList Rows.chunkWholeSpec.vars false #[Value.slice none 0 0].toList 8 = some ([.nil], [], places) :=
  ⟨[], by kernel_rfl⟩

set_option maxRecDepth 100000 in
theorem lifted (os : Os) (started : os.Started) (H : Type) (enc : TypeId × Value → H) (F : Stop.Interp) :
    ReturnsInHanded {} Tryd.checked os 6 .any ((OpenSpec.ofChange Rows.chunkWholeSpec).preRow enc Tryd.prog Tryd.f6 Rows.chunkWholeRow.domain false Rows.chunkWholeRow.laid) (((OpenSpec.ofChange Rows.chunkWholeSpec).at F).post enc Tryd.prog Tryd.f6 false true false false) := by
  obtain ⟨places, hx⟩ := reads os enc
  refine returnsInHanded_of_row (C := Tryd.checked) (s := OpenSpec.ofChange Rows.chunkWholeSpec) own started (by kernel_rfl) Tryd.func6
    (witness_row_at (enc := enc) (C := Tryd.checked) false (laidOn (World.holding Tryd.prog os ⟨#[], #[], []⟩)) #[.slice none 0 0] rfl (by kernel_rfl) (by kernel_rfl) (by kernel_rfl)
      (OpenSpec.preRow_of_cond 8 hx (by kernel_rfl) (fun k hk => by cases hk) (by kernel_rfl) (laid_met os))) ?_
  intro W base args ds gs before hval hW _ _ hsz hL _ _
  exact contract H enc W base args ds gs before hval hW hsz hL

theorem said : Rows.ChunkWholeSaid :=
  OpenClaim.holds_of_cond 6 Tryd.f6 rfl rfl rfl rfl rfl rfl rfl ⟨rfl, rfl, rfl, rfl, rfl⟩ rfl rfl rfl rfl rfl (by kernel_rfl) Tryd.func6 (by kernel_rfl)
    (of_decide_eq_true (by kernel_rfl)) (by unfold Func.isWrapper; first | (rw [if_pos (by decide +kernel)]; kernel_rfl) | (rw [if_neg (by decide +kernel)]; exact ⟨rfl, rfl⟩))
    (fun os started H enc _ F => by rw [OpenClaim.pre_eq_preRow]; exact lifted os started H enc F)

theorem plain (f : FuncId) (fn : Func) (hf : Tryd.pinned.checked.prog.funcNamed "muniment/munimentlaw07.ChunkWhole" = some f) (hfn : Tryd.pinned.checked.prog.funcs[f]? = some fn) :
    false = Tryd.pinned.checked.prog.looks [] ∧ ∀ (j : Nat) t, fn.params[j]? = some t → Tryd.pinned.checked.prog.wantsStandIn t = false := by
  obtain rfl : f = 6 := Option.some.inj ((show Tryd.prog.funcNamed "muniment/munimentlaw07.ChunkWhole" = some 6 by kernel_rfl).symm.trans hf) |>.symm
  obtain rfl : fn = Tryd.f6 := (Option.some.inj (Tryd.func6.symm.trans hfn)).symm
  refine ⟨by kernel_rfl, fun j t ht => ?_⟩
  rw [Tryd.params6] at ht
  have hm := Array.mem_of_getElem? ht
  have : t = 39 := by simpa using hm
  subst this
  exact (show Tryd.prog.wantsStandIn 39 = false by kernel_rfl)

end Go.Proofs.YtfnncccioipjcaaDoor.chunkWhole
namespace Go.Proofs.YtfnncccioipjcaaDoor
/-- THE CARD -/
theorem chunkWhole_card : Rows.ChunkWholeCardSaid :=
  Claim7.holds_tied_plain_at .later [] _ _ _ _ chunkWhole.said (fun _ h => by cases h) (by kernel_rfl) (fun _ h => by cases h) chunkWhole_row_tie rfl ⟨rfl, rfl⟩ (by kernel_rfl) rfl chunkWhole.plain (by kernel_rfl)
end Go.Proofs.YtfnncccioipjcaaDoor

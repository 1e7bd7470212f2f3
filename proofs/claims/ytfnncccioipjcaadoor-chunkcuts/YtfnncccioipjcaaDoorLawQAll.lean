/- For all bytes and every number, chunk.Split, chunk.Proof and chunk.Root answer what the document's own answer, and what is done to the chunks that were told does not reach the bytes: the law ChunkCuts returns true and changes nothing that was there. Condition: the tables sha.start and sha.constants start as the program's text lays them (the card ties them). -/
import Derived.Test.YtfnncccioipjcaaDoorCShown
import Derived.Test.YtfnncccioipjcaaDoorTxt
import Derived.Test.YtfnncccioipjcaaDoorRSplit
import Derived.Test.YtfnncccioipjcaaDoorOpenC
namespace Go.Proofs.YtfnncccioipjcaaDoor
open Go.RowKit

theorem list_at {w : World} {v : Value} {L : List (List Nat)} (h : ListIn w v L) (k : Nat) (hk : k < L.length) : ∃ g j vi, (∀ w', (Instr.indexAt 22 v (.int .i64 (k : Nat))).run Tryd.prog w' = .ok (.pointer (some ⟨g, j, none⟩)) w') ∧ w.cell? ⟨g, j, none⟩ = some vi ∧ SliceIn w vi (L.getD k []) := by
  obtain ⟨p, cap, rfl, hl, hin⟩ := h
  rcases hin with rfl | ⟨b, off, rfl, hc⟩
  · simp at hk
  obtain ⟨i5, hi5, hsz⟩ := Option.map_eq_some_iff.1 size39
  obtain ⟨vi, h1, h2⟩ := hc k hk
  exact ⟨b, off + k, vi, fun w' => by simp [Instr.indexAt, asIntOf, run_underlying Tryd.underlying22, hk, sizeOf, typeInfo, hi5, hsz, add_none], h1, h2⟩
section
variable {w : World} {ops : Array Oper} {rest : List Oper} {o : Oper} {a : Act} {Q : Exit → Act → World → Prop}
theorem rx_rindex (x i : Operand) (ho : o.op = .indexAddr 22 x i) (v p : Value) (hx : a.eval x = v) (I : Value) (hi : a.eval i = I) (hr : ∀ w', (Instr.indexAt 22 v I).run Tryd.prog w' = .ok p w') : (execOp a.eval o).run Tryd.prog w = .ok (.value p) w := by
  simp only [execOp, ho, hx, hi, hr, Sem.run_bind, Sem.run_pure, Result.andThen_ok]
theorem wl_bslot (x i : Operand) (hgd : Region.wanted o (yielded ops a.tmps) = true) (ho : o.op = .indexAddr 39 x i) (g n k : Nat) (hx : a.eval x = whole g n) (hi : a.eval i = .int .i64 (k : Nat)) (hk : k < n)
    (h : wpList Tryd.prog ops Q rest (a.put o.dst (.pointer (some ⟨g, k, none⟩))) w) : wpList Tryd.prog ops Q (o :: rest) a w := by
  obtain ⟨i5, hi5, hsz⟩ := Option.map_eq_some_iff.1 size5
  have hr : (Instr.indexAt 39 (whole g n) (.int .i64 (k : Nat))).run Tryd.prog w = .ok (.pointer (some ⟨g, k, none⟩)) w := by
    simp [whole, Instr.indexAt, asIntOf, run_underlying Tryd.underlying39, hk, sizeOf, typeInfo, hi5, hsz, add_none]
  refine wl hgd _ w ?_ h
  simp only [execOp, ho, hx, hi, hr, Sem.run_bind, Sem.run_pure, Result.andThen_ok]
theorem wl_wholeLen (x : Operand) (hgd : Region.wanted o (yielded ops a.tmps) = true) (ho : o.op = .call { callee := .builtin .len, args := #[x], argTypes := #[39] }) (g n : Nat) (hx : a.eval x = whole g n)
    (h : wpList Tryd.prog ops Q rest (a.put o.dst (.int .i64 (n : Nat))) w) : wpList Tryd.prog ops Q (o :: rest) a w := by
  have hr : (Builtin.len_ #[39] o.type #[whole g n]).run Tryd.prog w = .ok (goInt n) w := run_len_slice w _ _ _ _ _ under22
  refine wl hgd _ w ?_ h
  simp only [execOp, ho, resolve, invoke, builtin, Sem.run_bind, Sem.run_pure, Result.andThen_ok, List.map_toArray, List.map_cons, List.map_nil, hx, hr]
  rfl
end
/-- what lies around the chunks: all that was there ahead of them, and the document's own -/
def Around (w2 W : World) (B : Nat) (b : List Nat) (vy : Value) (n : Nat) : Prop := Below B w2 W ∧ B + 1 + n ≤ W.heap.size ∧ RowsOwn W (B + 1 + n) vy (Cut.cut b)
/-- the chunks from number k on, as they were made -/
def From (W : World) (B : Nat) (b : List Nat) (n : Nat) (hs : List Value) (k : Nat) : Prop := ∀ i, k ≤ i → i < n → hs[i]? = some (whole (B + 1 + i) (Cut.piece b i).length) ∧ Row W (B + 1 + i) 5 (bcells (Cut.piece b i))
def CutTo (w2 W : World) (B : Nat) (b : List Nat) (vy : Value) (n k : Nat) : Prop := Around w2 W B b vy n ∧ ∃ hs : List Value, (hs.length = n ∧ Row W B 39 hs) ∧ From W B b n hs k
def InAt (w2 W : World) (B : Nat) (b : List Nat) (vy : Value) (n k m : Nat) (hs : List Value) (zs : List Nat) : Prop :=
  Around w2 W B b vy n ∧ (hs.length = n ∧ Row W B 39 hs ∧ hs[k]? = some (whole (B + 1 + k) m)) ∧ (zs.length = m ∧ (∀ c ∈ zs, c < 256) ∧ Row W (B + 1 + k) 5 (bcells zs)) ∧ From W B b n hs (k + 1)
def InTo (w2 W : World) (B : Nat) (b : List Nat) (vy : Value) (n k m : Nat) : Prop := ∃ hs zs, InAt w2 W B b vy n k m hs zs
theorem Around.only {w2 W W' : World} {B n g : Nat} {b : List Nat} {vy : Value} (h : Around w2 W B b vy n) (ho : Only g W W') (h1 : B ≤ g) (h2 : g < B + 1 + n) : Around w2 W' B b vy n :=
  ⟨h.1.trans (ho.below h1 (by have := h.2.1; omega)), Nat.le_trans h.2.1 ho.size, h.2.2.same fun j hj hj' => ho.block j hj' (by omega)⟩
theorem From.only {W W' : World} {B n g k : Nat} {b : List Nat} {hs : List Value} (h : From W B b n hs k) (ho : Only g W W') (hg : ∀ i, k ≤ i → i < n → B + 1 + i ≠ g) : From W' B b n hs k :=
  fun i hi hi' => ⟨(h i hi hi').1, ho.row (hg i hi hi') (h i hi hi').2⟩
theorem bcells_set (zs : List Nat) (j c : Nat) : (bcells zs).set j (.int .u8 (c : Nat)) = bcells (zs.set j c) := by simp [bcells, List.map_set]
theorem InAt.put {w2 W W' : World} {B n k m : Nat} {b : List Nat} {vy : Value} {hs : List Value} {zs : List Nat} (h : InAt w2 W B b vy n k m hs zs) (hk : k < n) (j : Nat) (hr : Row W' (B + 1 + k) 5 ((bcells zs).set j (.int .u8 99))) (ho : Only (B + 1 + k) W W') : InAt w2 W' B b vy n k m hs (zs.set j 99) := by
  refine ⟨h.1.only ho (by omega) (by omega), ⟨h.2.1.1, ho.row (by omega) h.2.1.2.1, h.2.1.2.2⟩, ⟨by rw [List.length_set]; exact h.2.2.1.1, fun c hc => ?_, ?_⟩, h.2.2.2.only ho (fun i hi _ => by omega)⟩
  · rcases List.mem_or_eq_of_mem_set hc with hc | rfl
    · exact h.2.2.1.2.1 c hc
    · decide
  · rw [← bcells_set]
    exact hr
theorem InAt.later {w2 W W' : World} {B n k m : Nat} {b : List Nat} {vy : Value} {hs : List Value} {zs : List Nat} (h : InAt w2 W B b vy n k m hs zs) (hb : Below W.heap.size W W') : InAt w2 W' B b vy n k m hs zs :=
  ⟨⟨h.1.1.trans (hb.mono (by have := h.1.2.1; omega)), Nat.le_trans h.1.2.1 hb.size, h.1.2.2.later hb⟩, ⟨h.2.1.1, h.2.1.2.1.later hb h.2.1.2.1.lt, h.2.1.2.2⟩, ⟨h.2.2.1.1, h.2.2.1.2.1, h.2.2.1.2.2.later hb h.2.2.1.2.2.lt⟩, fun i hi hi' => ⟨(h.2.2.2 i hi hi').1, (h.2.2.2 i hi hi').2.later hb (h.2.2.2 i hi hi').2.lt⟩⟩
theorem grown_only {w w' : World} {g : Nat} (h : w.grownBy w' (some g)) : Only g w w' := ⟨h.os, h.tape, h.output, h.size, fun k hk hne => h.block k hk (fun e => hne (by injection e))⟩
/-- behind the last write at number k -/
theorem InAt.done {w2 W W1 W2 : World} {B n k m : Nat} {b : List Nat} {vy v' : Value} {hs : List Value} {zs : List Nat} (h : InAt w2 W B b vy n k m hs zs) (hk : k < n) (hg : Only (B + 1 + k) W W1) (hr : Row W2 B 39 (hs.set k v')) (ho : Only B W1 W2) : CutTo w2 W2 B b vy n (k + 1) := by
  refine ⟨(h.1.only hg (by omega) (by omega)).only ho (Nat.le_refl _) (by omega), hs.set k v', ⟨by rw [List.length_set]; exact h.2.1.1, hr⟩, fun i hi hi' => ?_⟩
  have h4 := (h.2.2.2.only hg (fun i hi _ => by omega)).only ho (fun i _ _ => by omega) i hi hi'
  exact ⟨by rw [List.getElem?_set_ne (by omega)]; exact h4.1, h4.2⟩
theorem CutTo.into {w2 W : World} {B n k : Nat} {b : List Nat} {vy : Value} (h : CutTo w2 W B b vy n k) (hk : k < n) (hb : ∀ c ∈ b, c < 256) : InTo w2 W B b vy n k (Cut.piece b k).length := by
  obtain ⟨ha, hs, ⟨h1, h2⟩, h3⟩ := h
  exact ⟨hs, Cut.piece b k, ha, ⟨h1, h2, (h3 k (Nat.le_refl _) hk).1⟩, ⟨rfl, fun c hc => hb c (Cut.piece_mem b k c hc), (h3 k (Nat.le_refl _) hk).2⟩, fun i hi hi' => h3 i (by omega) hi'⟩
theorem CutTo.start {w2 W W' : World} {B : Nat} {b : List Nat} {vy : Value} (h : SpIn W B b) (hb : Below B w2 W) (hz : W.heap.size = B + 1 + Cut.count b.length) (hy : RowsOwn W' W.heap.size vy (Cut.cut b)) (hb' : Below W.heap.size W W') : CutTo w2 W' B b vy (Cut.count b.length) 0 := by
  have h' := h.later hb'
  refine ⟨⟨hb.trans (hb'.mono (by omega)), by rw [← hz]; exact hb'.size, by rw [← hz]; exact hy⟩, _, ⟨hdrs_length B b _ _ (Nat.le_refl _), h'.1⟩, fun i _ hi => ⟨hdrs_at B b _ i hi, h'.2 i hi⟩⟩
set_option maxHeartbeats 16000000 in
set_option maxRecDepth 100000 in
theorem chunkCuts_any (vb : Value) (b : List Nat) (i : Int) (w : World) (hb : SliceIn w vb b) (ht : TabIn w) (hst : StartIn w) (hlb : b.length ≤ 140737488355328) :
    Calls Tryd.prog 4 #[vb, .int .i64 i] w fun e w' => e = .returned (.bool true) ∧ Below w.heap.size w w' := by
  have HBM : Hid (∀ c ∈ b, c < 256) := hb.mem
  obtain ⟨n, hn⟩ : ∃ n, Cut.count b.length = n := ⟨_, rfl⟩
  have Hn : Hid (Cut.count b.length = n) := hn
  have hcm : n ≤ 140737488355328 := by rw [← hn]; have := Cut.count_le b.length; omega
  have HRH : Hid (IsH (Cut.root b)) := (leaves_allH b).root
  have HLB : Hid (b.length ≤ 140737488355328) := hlb
  have HCL : Hid ((Cut.cut b).length = n) := by rw [Cut.cut_length, hn]; exact rfl
  have HCB : Hid (∀ c ∈ Cut.cut b, ∀ y ∈ c, y < 256) := cut_bytes HBM.out
  generalize hr : Cut.root b = r at HRH
  have HRE : Hid (Cut.root b = r) := hr
  generalize hpa : proofAns b i = pa
  generalize hpe : proofErr b i = er
  have HPA : Hid (proofAns b i = pa) := hpa
  have HPE : Hid (proofErr b i = er) := hpe
  clear hr hn hlb hpa hpe
  go_enter Tryd.func4, Tryd.ntmps4
  go_wp2_with ((first
    | (go_at_call 18; refine (cshown_any w ht hst).mono ?_; rintro e w0 ⟨rfl, b0⟩; have R0 : Hid (Below w.heap.size w w0) := b0; clear b0)
    | (refine wl_blit0 rfl rfl ?_; intro w1 r1 s1 b1; have R1 : Hid (BOwn w1 w0.heap.size (whole w0.heap.size 0) [] ∧ Below w.heap.size w w1 ∧ w.heap.size ≤ w0.heap.size ∧ w0.heap.size ≤ w1.heap.size) := ⟨whole_own (cs := []) r1 (Nat.le_refl _) (by simp), below_append R0.out b1, R0.out.size, b1.size⟩; generalize whole w0.heap.size 0 = vl at R1 ⊢; clear r1 s1 b1)
    | (refine wl_bgrow (.tmp 17) (.tmp 18) rfl rfl w0.heap.size vl vb [] b rfl R1.out.1 rfl (hb.later R1.out.2.1) (by have := HLB.out; simp; omega) R1.out.2.2.2 ?_; intro vo w2 o2 g2; rw [List.nil_append] at o2; have R2 : Hid (SliceIn w2 vo b ∧ Below w.heap.size w w2) := ⟨o2.slice (lt256 _ HBM.out), R1.out.2.1.trans ((R1.out.1.belowG g2 R1.out.2.2.2).mono R1.out.2.2.1)⟩; clear o2 g2)
    | (go_at_call 19; refine (split_at vo b w2 R2.out.1 HLB.out).mono ?_; rw [Hn.out]; rintro e w3 ⟨rfl, p3, z3, b3⟩; obtain ⟨B, hB⟩ : ∃ B, B = w2.heap.size := ⟨_, rfl⟩; rw [← hB] at p3 z3 b3 ⊢; have R3 : Hid (SpIn w3 B b ∧ w3.heap.size = B + 1 + n ∧ Below B w2 w3 ∧ B = w2.heap.size ∧ Below w.heap.size w w3) := ⟨p3, z3, b3, hB, R2.out.2.trans (b3.mono (by rw [hB]; exact R2.out.2.size))⟩; clear p3 z3 b3 hB)
    | (go_at_call 20; refine (rsplit_any vb b w3 (hb.later R3.out.2.2.2.2) HLB.out).mono ?_; rintro e w4 ⟨vy, rfl, o4, b4⟩; have R4 : Hid (CutTo w2 w4 B b vy n 0 ∧ B = w2.heap.size ∧ ListIn w4 vy (Cut.cut b)) := ⟨Hn.out ▸ CutTo.start R3.out.1 R3.out.2.2.1 (by rw [Hn.out]; exact R3.out.2.1) o4 b4, R3.out.2.2.2.1, o4.list HCB.out⟩; clear o4 b4)
    | (refine wl_wlen (.tmp 27) rfl rfl B n rfl ?_)
    | (refine wl_rlen (.tmp 29) rfl rfl vy (Cut.cut b) rfl R4.out.2.2 n HCL.out ?_)); try simp only [Act.put, List.setIfInBounds_toArray, List.set_cons_succ, List.set_cons_zero])
  have HB2 : Hid (∀ W, Below B w2 W → SliceIn W vo b ∧ SliceIn W vb b ∧ TabIn W ∧ StartIn W ∧ Below w.heap.size w W) := fun W hW => by
    have hW' : Below w2.heap.size w2 W := R4.out.2.1 ▸ hW
    exact ⟨R2.out.1.later hW', (hb.later R2.out.2).later hW', (ht.later R2.out.2).later hW', (hst.later R2.out.2).later hW', below_append R2.out.2 hW'⟩
  clear R0 R1 R2 R3
  go_loopw [9] (fun j W => ∃ k : Nat, k ≤ n ∧ j = .int .i64 (k : Nat) ∧ CutTo w2 W B b vy n k) (fun j _ => n - (intOf j).toNat)
  case atStart => exact ⟨0, Nat.zero_le _, rfl, R4.out.1⟩
  case round =>
    clear R4
    obtain ⟨k, hk, rfl, hct⟩ := hrel
    have HV : Hid (CutTo w2 wr B b vy n k) := hct
    clear hct
    by_cases hlt : k < n
    · have hlt' : (k : Int) < (n : Int) := by omega
      have HKX : Hid (k < Cut.count b.length) := by rw [Hn.out]; exact hlt
      have HIN : Hid (InTo w2 wr B b vy n k (Cut.piece b k).length) := HV.out.into hlt HBM.out
      obtain ⟨gy, jy, vi, hry, hcy, hsy⟩ := list_at (HV.out.1.2.2.list HCB.out) k (by rw [HCL.out]; exact hlt)
      rw [Cut.cut_getD b k HKX.out] at hsy
      have HRY : Hid (∀ w', (Instr.indexAt 22 vy (.int .i64 (k : Nat))).run Tryd.prog w' = .ok (.pointer (some ⟨gy, jy, none⟩)) w') := hry
      have HCY : Hid (∀ X, Below wr.heap.size wr X → X.cell? ⟨gy, jy, none⟩ = some vi ∧ SliceIn X vi (Cut.piece b k)) := fun X hX => ⟨cell_later hX hcy, hsy.later hX⟩
      have HCX : Hid (∀ X, Below wr.heap.size wr X → X.cell? ⟨B, k, none⟩ = some (whole (B + 1 + k) (Cut.piece b k).length) ∧ SliceIn X (whole (B + 1 + k) (Cut.piece b k).length) (Cut.piece b k)) := fun X hX => by
        obtain ⟨_, hs, ⟨h1, h2⟩, h3⟩ := HV.out
        exact ⟨cell_later hX (h2.at k _ (h3 k (Nat.le_refl _) hlt).1), (whole_slice (h3 k (Nat.le_refl _) hlt).2 (fun c hc => HBM.out c (Cut.piece_mem b k c hc)) (by have := Cut.piece_le b k; omega)).later hX⟩
      have HBC : Hid (∀ c ∈ Cut.piece b k, c < 256) := fun c hc => HBM.out c (Cut.piece_mem b k c hc)
      have hc64 := Cut.piece_le b k
      clear hry hcy hsy
      generalize hcc : Cut.piece b k = c at HIN HCY HCX HBC hc64
      clear hcc
      obtain ⟨m, hm⟩ : ∃ m, c.length = m := ⟨_, rfl⟩
      rw [hm] at HIN HCX hc64
      clear hm
      go_wp2_with ((first
        | (refine wl_wlen (.tmp 34) rfl rfl B n rfl ?_)); try simp only [Act.put, List.setIfInBounds_toArray, List.set_cons_succ, List.set_cons_zero])
      refine wp_region_held (S := fun X => Below wr.heap.size wr X) (by kernel_rfl) ?_
      show wpAnyH _ _ _ _ _ 11 (Array.replicate 11 false) _ _
      have hS : Below wr.heap.size wr { wr with drawn := wr.drawn + 1 } := below_drawn wr _
      refine takeH (i := 0) (some 39) rfl rfl (by kernel_rfl) (by kernel_rfl) (by kernel_rfl) (fun _ _ _ h => h) (yMove rfl (.tmp 7) rfl (whole B n) rfl) hS ?_
      simp only [Act.put, List.setIfInBounds_toArray, List.set_cons_succ, List.set_cons_zero]
      refine takeH (i := 1) (some 40) rfl rfl (by kernel_rfl) (by kernel_rfl) (by kernel_rfl) (fun _ _ _ h => h) (yMove rfl (.tmp 9) rfl (.int .i64 (k : Nat)) rfl) hS ?_
      simp only [Act.put, List.setIfInBounds_toArray, List.set_cons_succ, List.set_cons_zero]
      refine takeH (i := 2) (some 41) rfl rfl (by kernel_rfl) (by kernel_rfl) (by kernel_rfl) (fun _ _ _ h => h) (yRunW rfl _ (fun _ _ => rx_wslot (.tmp 39) (.tmp 40) rfl B n k rfl _ rfl rfl hlt)) hS ?_
      simp only [Act.put, List.setIfInBounds_toArray, List.set_cons_succ, List.set_cons_zero]
      refine takeH (i := 3) (some 42) rfl rfl (by kernel_rfl) (by kernel_rfl) (by kernel_rfl) (fun _ _ _ h => h) (yRunW rfl _ (fun X hX => rx_load1 one39 (.tmp 41) rfl B k rfl (whole (B + 1 + k) m) (HCX.out X hX).1)) hS ?_
      simp only [Act.put, List.setIfInBounds_toArray, List.set_cons_succ, List.set_cons_zero]
      refine takeH (i := 4) (some 43) rfl rfl (by kernel_rfl) (by kernel_rfl) (by kernel_rfl) (fun _ _ _ h => h) (yRunW rfl _ (fun X hX => rx_string (.tmp 42) rfl (whole (B + 1 + k) m) c rfl (HCX.out X hX).2)) hS ?_
      simp only [Act.put, List.setIfInBounds_toArray, List.set_cons_succ, List.set_cons_zero]
      refine takeH (i := 5) (some 44) rfl rfl (by kernel_rfl) (by kernel_rfl) (by kernel_rfl) (fun _ _ _ h => h) (yMove rfl (.tmp 8) rfl (vy) rfl) hS ?_
      simp only [Act.put, List.setIfInBounds_toArray, List.set_cons_succ, List.set_cons_zero]
      refine takeH (i := 6) (some 45) rfl rfl (by kernel_rfl) (by kernel_rfl) (by kernel_rfl) (fun _ _ _ h => h) (yMove rfl (.tmp 9) rfl (.int .i64 (k : Nat)) rfl) hS ?_
      simp only [Act.put, List.setIfInBounds_toArray, List.set_cons_succ, List.set_cons_zero]
      refine takeH (i := 7) (some 46) rfl rfl (by kernel_rfl) (by kernel_rfl) (by kernel_rfl) (fun _ _ _ h => h) (yRunW rfl _ (fun _ _ => rx_rindex (.tmp 44) (.tmp 45) rfl vy _ rfl _ rfl HRY.out)) hS ?_
      simp only [Act.put, List.setIfInBounds_toArray, List.set_cons_succ, List.set_cons_zero]
      refine takeH (i := 8) (some 47) rfl rfl (by kernel_rfl) (by kernel_rfl) (by kernel_rfl) (fun _ _ _ h => h) (yRunW rfl _ (fun X hX => rx_load1 one39 (.tmp 46) rfl gy jy rfl vi (HCY.out X hX).1)) hS ?_
      simp only [Act.put, List.setIfInBounds_toArray, List.set_cons_succ, List.set_cons_zero]
      refine takeH (i := 9) (some 48) rfl rfl (by kernel_rfl) (by kernel_rfl) (by kernel_rfl) (fun _ _ _ h => h) (yRunW rfl _ (fun X hX => rx_string (.tmp 47) rfl vi c rfl (HCY.out X hX).2)) hS ?_
      simp only [Act.put, List.setIfInBounds_toArray, List.set_cons_succ, List.set_cons_zero]
      refine takeH (i := 10) (some 49) rfl rfl (by kernel_rfl) (by kernel_rfl) (by kernel_rfl) (fun _ _ _ h => h) (yRunW rfl _ (fun _ _ => rx_sne (.tmp 43) (.tmp 48) rfl c c rfl rfl HBC.out HBC.out true (decide_eq_true rfl))) hS ?_
      simp only [Act.put, List.setIfInBounds_toArray, List.set_cons_succ, List.set_cons_zero]
      refine wpAnyH_done (by kernel_rfl) ?_ _
      have HI0 : Hid (InTo w2 { wr with drawn := wr.drawn + 1 } B b vy n k m) := by
        obtain ⟨hs, zs, h⟩ := HIN.out
        exact ⟨hs, zs, h.later (below_drawn wr _)⟩
      clear hS HIN HCX HCY HV
      generalize ({ wr with drawn := wr.drawn + 1 } : World) = wa at HI0 ⊢
      go_wp2_with fail
      go_loopw [10] (fun j W => ∃ q : Nat, q ≤ m ∧ j = .int .i64 (q : Nat) ∧ InTo w2 W B b vy n k m) (fun j _ => m - (intOf j).toNat)
      case atStart => exact ⟨0, Nat.zero_le _, rfl, HI0.out⟩
      case round =>
        clear HI0
        obtain ⟨q, hq, rfl, hs, zs, hin⟩ := hrel
        have HI : Hid (InAt w2 wr B b vy n k m hs zs) := hin
        have HHD : Hid (wr.cell? ⟨B, k, none⟩ = some (whole (B + 1 + k) m)) := hin.2.1.2.1.at k _ hin.2.1.2.2
        clear hin
        by_cases hqm : q < m
        · have hqm' : (q : Int) < (m : Int) := by omega
          go_wp2_with ((first
            | (refine wl_wslot (.tmp 51) (.tmp 52) rfl rfl B n k rfl _ rfl rfl hlt ?_)
            | (refine wl_load1' one39 (.tmp 53) rfl rfl B k rfl (whole (B + 1 + k) m) HHD.out ?_)
            | (refine wl_wholeLen (.tmp 54) rfl rfl (B + 1 + k) m rfl ?_)
            | (refine wl_wslot (.tmp 59) (.tmp 60) rfl rfl B n k rfl _ rfl rfl hlt ?_)
            | (refine wl_load1' one39 (.tmp 61) rfl rfl B k rfl (whole (B + 1 + k) m) HHD.out ?_)
            | (refine wl_bslot (.tmp 62) (.tmp 63) rfl rfl (B + 1 + k) m q rfl rfl hqm ?_)
            | (refine wl_put1 sizeS5 (.tmp 64) (.const (.int .u8 99)) rfl rfl rfl (B + 1 + k) q 5 (bcells zs) (.int .u8 99) rfl rfl ⟨rfl, rfl⟩ HI.out.2.2.1.2.2 (by rw [bcells_length, HI.out.2.2.1.1]; exact hqm) ?_; intro w5 r5 o5 s5; have R5 : Hid (InTo w2 w5 B b vy n k m) := ⟨hs, _, HI.out.put hlt q r5 o5⟩; clear r5 o5 s5)); try simp only [Act.put, List.setIfInBounds_toArray, List.set_cons_succ, List.set_cons_zero])
          exact ⟨⟨q + 1, by omega, by go_num, R5.out⟩, by simp [intOf]; omega⟩
        · have hqm' : ¬ (q : Int) < (m : Int) := by omega
          have HOB : Hid (∀ W, InAt w2 W B b vy n k m hs zs → BOwn W (B + 1 + k) (whole (B + 1 + k) m) zs) := fun W h => by
            have := whole_own h.2.2.1.2.2 (Nat.le_refl _) (by rw [h.2.2.1.1]; omega)
            rw [h.2.2.1.1] at this
            exact this
          have HZL : Hid (zs.length = m) := HI.out.2.2.1.1
          go_wp2_with ((first
            | (refine wl_wslot (.tmp 51) (.tmp 52) rfl rfl B n k rfl _ rfl rfl hlt ?_)
            | (refine wl_load1' one39 (.tmp 53) rfl rfl B k rfl (whole (B + 1 + k) m) HHD.out ?_)
            | (refine wl_wholeLen (.tmp 54) rfl rfl (B + 1 + k) m rfl ?_)
            | (refine wl_wslot (.tmp 67) (.tmp 68) rfl rfl B n k rfl _ rfl rfl hlt ?_)
            | (refine wl_load1' one39 (.tmp 69) rfl rfl B k rfl (whole (B + 1 + k) m) HHD.out ?_)
            | (refine wl_blit1 (.const (.int .u8 98)) rfl rfl 98 (by decide) _ rfl rfl ?_; intro w5 s5 _ b5; have R5 : Hid (SliceIn w5 (.slice (some ⟨wr.heap.size, 0, none⟩) 1 1) [98] ∧ InAt w2 w5 B b vy n k m hs zs) := ⟨s5, HI.out.later b5⟩; generalize Value.slice (some ⟨wr.heap.size, 0, none⟩) 1 1 = v98 at R5 ⊢; clear s5 b5)
            | (refine wl_bgrow (.tmp 70) (.tmp 71) rfl rfl (B + 1 + k) (whole (B + 1 + k) m) v98 zs [98] rfl (HOB.out w5 R5.out.2) rfl R5.out.1 (by have := HZL.out; simp; omega) (by have := R5.out.2.1.2.1; omega) ?_; intro v6 w6 o6 g6; have R6 : Hid (OneV v6 ∧ Only (B + 1 + k) w5 w6) := ⟨by obtain ⟨_, _, _, rfl⟩ := o6.isSlice; exact ⟨rfl, rfl⟩, grown_only g6⟩; clear o6 g6)
            | (refine wl_wslot (.tmp 65) (.tmp 66) rfl rfl B n k rfl _ rfl rfl hlt ?_)
            | (refine wl_put1 sizeS39 (.tmp 73) (.tmp 72) rfl rfl rfl B k 39 hs v6 rfl rfl R6.out.1 (R6.out.2.row (by omega) R5.out.2.2.1.2.1) (by rw [R5.out.2.2.1.1]; exact hlt) ?_; intro w7 r7 o7 s7; have R7 : Hid (CutTo w2 w7 B b vy n (k + 1)) := R5.out.2.done hlt R6.out.2 r7 o7; clear r7 o7 s7)); try simp only [Act.put, List.setIfInBounds_toArray, List.set_cons_succ, List.set_cons_zero])
          exact ⟨⟨k + 1, by omega, by go_num, R7.out⟩, by simp [intOf]; omega⟩
    · have hlt' : ¬ (k : Int) < (n : Int) := by omega
      have HB3 : Hid (SliceIn wr vo b ∧ SliceIn wr vb b ∧ TabIn wr ∧ StartIn wr ∧ Below w.heap.size w wr) := HB2.out wr HV.out.1.1
      obtain ⟨P, hP⟩ : ∃ P, pa.length = P := ⟨_, rfl⟩
      have HP : Hid (pa.length = P) := hP
      clear hP HV HB2
      go_wp2_with ((first
        | (refine wl_wlen (.tmp 34) rfl rfl B n rfl ?_)
        | (go_at_call 21; refine (cproof_any vo b i wr HB3.out.1 HB3.out.2.2.1 HB3.out.2.2.2.1 HLB.out).mono ?_; rw [HPA.out, HPE.out]; rintro e w5 ⟨v5, rfl, o5, b5⟩; have R5 : Hid (HIn w5 v5 pa ∧ Below wr.heap.size wr w5) := ⟨o5.hin, b5⟩; clear o5 b5)
        | (go_at_call 22; refine (rproof_any vb b i w5 (HB3.out.2.1.later R5.out.2) HLB.out).mono ?_; rw [HPA.out, HPE.out]; rintro e w6 ⟨v6, rfl, o6, b6⟩; have R6 : Hid (HIn w6 v5 pa ∧ HIn w6 v6 pa ∧ Below wr.heap.size wr w6) := ⟨R5.out.1.later b6, o6.hin, below_append R5.out.2 b6⟩; clear o6 b6)
        | (refine wl rfl _ w6 (rx_string (.tmp 86) rfl vo b rfl (HB3.out.1.later R6.out.2.2)) ?_)
        | (refine wl rfl _ w6 (rx_string (.tmp 88) rfl vb b rfl (HB3.out.2.1.later R6.out.2.2)) ?_)
        | (refine wl rfl _ w6 (rx_sne (.tmp 87) (.tmp 89) rfl b b rfl rfl HBM.out HBM.out true (decide_eq_true rfl)) ?_)
        | (refine wl_lenN (.tmp 97) rfl rfl v5 pa rfl R6.out.1 P HP.out ?_)
        | (refine wl_lenN (.tmp 99) rfl rfl v6 pa rfl R6.out.2.1 P HP.out ?_)); try simp only [Act.put, List.setIfInBounds_toArray, List.set_cons_succ, List.set_cons_zero])
      have HPM : Hid (P ≤ 9223372036854775807) := by rw [← HP.out]; exact R6.out.1.max
      have HQ : Hid (∀ X, Below wr.heap.size wr X → SliceIn X vo b ∧ SliceIn X vb b ∧ TabIn X ∧ StartIn X ∧ Below w.heap.size w X) := fun X hX => ⟨HB3.out.1.later hX, HB3.out.2.1.later hX, HB3.out.2.2.1.later hX, HB3.out.2.2.2.1.later hX, below_append HB3.out.2.2.2.2 hX⟩
      clear R5 HB3
      go_loopw [15] (fun j W => ∃ q : Nat, q ≤ P ∧ j = .int .i64 (q : Nat) ∧ Below w6.heap.size w6 W) (fun j _ => P - (intOf j).toNat)
      case atStart => exact ⟨0, Nat.zero_le _, rfl, Below.refl _ _⟩
      case round =>
        obtain ⟨q, hq, rfl, hbw⟩ := hrel
        have HBW : Hid (Below w6.heap.size w6 wr) := hbw
        clear hbw
        by_cases hqp : q < P
        · have hqp' : (q : Int) < (P : Int) := by omega
          have hPM := HPM.out
          obtain ⟨p1, r1, h1⟩ := run_hindex (R6.out.1.later HBW.out) q (by rw [HP.out]; exact hqp)
          obtain ⟨p2, r2, h2⟩ := run_hindex (R6.out.2.1.later HBW.out) q (by rw [HP.out]; exact hqp)
          have HP1 : Hid ((∀ w', (Instr.indexAt 24 v5 (.int .i64 (q : Nat))).run Tryd.prog w' = .ok p1 w') ∧ HAt wr p1 (pa.getD q [])) := ⟨r1, h1⟩
          have HP2 : Hid ((∀ w', (Instr.indexAt 24 v6 (.int .i64 (q : Nat))).run Tryd.prog w' = .ok p2 w') ∧ HAt wr p2 (pa.getD q [])) := ⟨r2, h2⟩
          have HH : Hid (IsH (pa.getD q [])) := h1.1
          clear r1 h1 r2 h2
          generalize pa.getD q [] = x at HP1 HP2 HH
          go_wp2_with ((first
            | (refine wl_lenN (.tmp 104) rfl rfl v5 pa rfl R6.out.1 P HP.out ?_)); try simp only [Act.put, List.setIfInBounds_toArray, List.set_cons_succ, List.set_cons_zero])
          refine wp_region_held (S := fun W => HAt W p1 x ∧ HAt W p2 x) (by kernel_rfl) ?_
          show wpAnyH _ _ _ _ _ 9 (Array.replicate 9 false) _ _
          have hS : HAt { wr with drawn := wr.drawn + 1 } p1 x ∧ HAt { wr with drawn := wr.drawn + 1 } p2 x := ⟨HP1.out.2, HP2.out.2⟩
          refine takeH (i := 0) (some 109) rfl rfl (by kernel_rfl) (by kernel_rfl) (by kernel_rfl) (fun _ _ _ h => h) (yMove rfl (.tmp 11) rfl (v5) rfl) hS ?_
          simp only [Act.put, List.setIfInBounds_toArray, List.set_cons_succ, List.set_cons_zero]
          refine takeH (i := 1) (some 110) rfl rfl (by kernel_rfl) (by kernel_rfl) (by kernel_rfl) (fun _ _ _ h => h) (yMove rfl (.tmp 15) rfl (.int .i64 (q : Nat)) rfl) hS ?_
          simp only [Act.put, List.setIfInBounds_toArray, List.set_cons_succ, List.set_cons_zero]
          refine takeH (i := 2) (some 111) rfl rfl (by kernel_rfl) (by kernel_rfl) (by kernel_rfl) (fun _ _ _ h => h) (yIndex rfl (.tmp 109) (.tmp 110) rfl v5 p1 rfl _ rfl HP1.out.1) hS ?_
          simp only [Act.put, List.setIfInBounds_toArray, List.set_cons_succ, List.set_cons_zero]
          refine takeH (i := 3) (some 112) rfl rfl (by kernel_rfl) (by kernel_rfl) (by kernel_rfl) (fun _ _ _ h => h) (yLoad rfl (.tmp 111) rfl p1 rfl x (fun _ h => h.1)) hS ?_
          simp only [Act.put, List.setIfInBounds_toArray, List.set_cons_succ, List.set_cons_zero]
          refine takeH (i := 4) (some 113) rfl rfl (by kernel_rfl) (by kernel_rfl) (by kernel_rfl) (fun _ _ _ h => h) (yMove rfl (.tmp 13) rfl (v6) rfl) hS ?_
          simp only [Act.put, List.setIfInBounds_toArray, List.set_cons_succ, List.set_cons_zero]
          refine takeH (i := 5) (some 114) rfl rfl (by kernel_rfl) (by kernel_rfl) (by kernel_rfl) (fun _ _ _ h => h) (yMove rfl (.tmp 15) rfl (.int .i64 (q : Nat)) rfl) hS ?_
          simp only [Act.put, List.setIfInBounds_toArray, List.set_cons_succ, List.set_cons_zero]
          refine takeH (i := 6) (some 115) rfl rfl (by kernel_rfl) (by kernel_rfl) (by kernel_rfl) (fun _ _ _ h => h) (yIndex rfl (.tmp 113) (.tmp 114) rfl v6 p2 rfl _ rfl HP2.out.1) hS ?_
          simp only [Act.put, List.setIfInBounds_toArray, List.set_cons_succ, List.set_cons_zero]
          refine takeH (i := 7) (some 116) rfl rfl (by kernel_rfl) (by kernel_rfl) (by kernel_rfl) (fun _ _ _ h => h) (yLoad rfl (.tmp 115) rfl p2 rfl x (fun _ h => h.2)) hS ?_
          simp only [Act.put, List.setIfInBounds_toArray, List.set_cons_succ, List.set_cons_zero]
          refine takeH (i := 8) (some 117) rfl rfl (by kernel_rfl) (by kernel_rfl) (by kernel_rfl) (fun _ _ _ h => h) (yRun rfl _ (fun _ _ => rx_neB (.tmp 112) (.tmp 116) rfl x x HH.out HH.out rfl rfl true (decide_eq_true rfl))) hS ?_
          simp only [Act.put, List.setIfInBounds_toArray, List.set_cons_succ, List.set_cons_zero]
          refine wpAnyH_done (by kernel_rfl) ?_ _
          have HT : Hid (Below w6.heap.size w6 { wr with drawn := wr.drawn + 1 }) := below_append HBW.out (below_drawn wr _)
          clear hS HP1 HP2 HBW
          generalize ({ wr with drawn := wr.drawn + 1 } : World) = wa at HT ⊢
          go_wp2_with fail
          exact ⟨⟨q + 1, by omega, by go_num, HT.out⟩, by simp [intOf]; omega⟩
        · have hqp' : ¬ (q : Int) < (P : Int) := by omega
          have HZ := HQ.out wr (below_append R6.out.2.2 HBW.out)
          have HZ' : Hid (SliceIn wr vo b ∧ SliceIn wr vb b ∧ TabIn wr ∧ StartIn wr ∧ Below w.heap.size w wr) := HZ
          clear HZ
          go_wp2_with ((first
            | (refine wl_lenN (.tmp 104) rfl rfl v5 pa rfl R6.out.1 P HP.out ?_)
            | (go_at_call 23; refine (croot_any vo b wr HZ'.out.1 HZ'.out.2.2.1 HZ'.out.2.2.2.1 HLB.out).mono ?_; rw [HRE.out]; rintro e w7 ⟨rfl, b7⟩; have R7 : Hid (SliceIn w7 vb b ∧ Below w.heap.size w w7) := ⟨HZ'.out.2.1.later b7, below_append HZ'.out.2.2.2.2 b7⟩; clear b7)
            | (go_at_call 24; refine (rroot_any vb b w7 R7.out.1 HLB.out).mono ?_; rw [HRE.out]; rintro e w8 ⟨rfl, b8⟩; have R8 : Hid (Below w.heap.size w w8) := below_append R7.out.2 b8; clear b8)
            | (refine wl_same (.tmp 119) (.tmp 121) rfl rfl r HRH.out rfl rfl ?_)); try simp only [Act.put, List.setIfInBounds_toArray, List.set_cons_succ, List.set_cons_zero])
          go_ret
          exact ⟨rfl, R8.out⟩
end Go.Proofs.YtfnncccioipjcaaDoor

namespace Go.Proofs.YtfnncccioipjcaaDoor.chunkCuts
open Go.ChangeShapes Go.WideShapes Go.ChangeAt Go.RowKit

set_option maxRecDepth 100000 in
/-- WHAT THE WALK GIVES, FOR EVERY ARGUMENT AND EVERY WORLD THAT HOLDS THE TABLE -/
theorem contract (H : Type) (enc : TypeId × Value → H) (W : World) (base : Nat) (args : Array Value) (ds gs : List (DataW H)) (before : List MemPlace)
    (hval : ∀ (j : Nat) t v, Tryd.f4.params[j]? = some t → args[j]? = some v → Value.okWide Tryd.prog W .any base t v)
    (hW : DataW.Whole enc Tryd.prog Tryd.f4.params.toList Rows.chunkCutsSpec.vars false W args.toList ds gs before)
    (hsz : (DataW.weightsEach Tryd.prog (Tryd.f4.params.toList ++ (Rows.chunkCutsSpec.plain.varTypes Tryd.prog)) (ds ++ gs)).all (· ≤ reachBytes) = true)
    (hL : laidMetH Tryd.prog Rows.chunkCutsRow.laid W) :
    Calls Tryd.prog 4 args W fun e W' => ∃ v, e = .returned v ∧ Rows.chunkCutsSpec.post enc Tryd.prog Tryd.f4 false true false false W args v W' := by
  have hW' := hW
  obtain ⟨p, q, hA0, hV, rfl, hfz, hnd⟩ := hW
  have hA : DataW.TrodAll enc Tryd.prog W 0 (fun _ => true) true Tryd.f4.params.toList args.toList ds p := hA0
  rw [Tryd.params4] at hA hval hsz
  obtain ⟨v0, vs0, d0, ds0, p0, q0, hargs, rfl, rfl, h0, r0⟩ := trodAll_cons hA
  obtain ⟨v1, vs1, d1, ds1, p1, q1, rfl, rfl, rfl, h1, r1⟩ := trodAll_cons r0
  obtain ⟨rfl, rfl, rfl⟩ := trodAll_nil r1
  obtain rfl : args = #[v0, v1] := by cases args; simp_all
  obtain ⟨rfl, rfl⟩ := trodVars_none hV
  have lt0 : ∀ x ∈ p0, x.block < W.heap.size := by obtain ⟨m, hm⟩ := h0; exact DataW.trod_lt m _ _ _ hm
  obtain ⟨cs0, hs0, hd0⟩ := open_bytes (hval 0 39 v0 rfl rfl) h0
  obtain ⟨a1, rfl, rfl, rfl, w1⟩ := open_int Tryd.underlying3 (hval 1 3 v1 rfl rfl) h1
  have b1 : -9223372036854775808 ≤ a1 ∧ a1 ≤ 9223372036854775807 := by
    simpa [Lit.wf, IntKind.min, IntKind.max, IntKind.signed, IntKind.bits] using w1
  clear hA0
  have hr0 := reach hsz (j := 0) rfl rfl hd0
  have walk := chunkCuts_any v0 cs0 a1 W hs0 (tabs_of hL).2 (tabs_of hL).1 (by omega)
  refine walk.mono fun e W' ⟨he, bel⟩ => ?_
  subst he
  exact ⟨_, rfl, _, _, _, [], _, [], hW', trodAll_mk1 (shut_bool Tryd.underlying4 _), (trodAll_cons_mk (Below.trod laidOut (by kernel_rfl) (of_decide_eq_true (by kernel_rfl)) h0 bel lt0) (trodAll_cons_mk (shut_int Tryd.underlying3 w1) trodAll_mk0)), rfl, bel.frame _, fun h => by cases h⟩

theorem laid_met (os : Os) : laidMet Tryd.prog Rows.chunkCutsRow.laid ((laidOn (World.holding Tryd.prog os ⟨#[], #[], []⟩)).forCall (fun _ _ => 0) ⟨#[], #[.slice none 0 0, .int .i64 0], []⟩).memory :=
  laidMet_of_run' 8 (by kernel_rfl) (by kernel_rfl)
theorem reads (os : Os) {H : Type} (enc : TypeId × Value → H) : ∃ places, DataW.whole enc Tryd.prog ((laidOn (World.holding Tryd.prog os ⟨#[], #[], []⟩)).forCall (fun _ _ => 0) ⟨#[], #[.slice none 0 0, .int .i64 0], []⟩).memory Tryd.f4.params.toList Rows.chunkCutsSpec.vars false #[Value.slice none 0 0, .int .i64 0].toList 8 = some ([.nil, .lit (.int .i64 0)], [], places) :=
  ⟨[], by kernel_rfl⟩

set_option maxRecDepth 100000 in
theorem lifted (os : Os) (started : os.Started) (H : Type) (enc : TypeId × Value → H) (F : Stop.Interp) :
    ReturnsInHanded {} Tryd.checked os 4 .any ((OpenSpec.ofChange Rows.chunkCutsSpec).preRow enc Tryd.prog Tryd.f4 Rows.chunkCutsRow.domain false Rows.chunkCutsRow.laid) (((OpenSpec.ofChange Rows.chunkCutsSpec).at F).post enc Tryd.prog Tryd.f4 false true false false) := by
  obtain ⟨places, hx⟩ := reads os enc
  refine returnsInHanded_of_row (C := Tryd.checked) (s := OpenSpec.ofChange Rows.chunkCutsSpec) own started (by kernel_rfl) Tryd.func4
    (witness_row_at (enc := enc) (C := Tryd.checked) false (laidOn (World.holding Tryd.prog os ⟨#[], #[], []⟩)) #[.slice none 0 0, .int .i64 0] rfl (by kernel_rfl) (by kernel_rfl) (by kernel_rfl)
      (OpenSpec.preRow_of_cond 8 hx (by kernel_rfl) (fun k hk => by cases hk) (by kernel_rfl) (laid_met os))) ?_
  intro W base args ds gs before hval hW _ _ hsz hL _ _
  exact contract H enc W base args ds gs before hval hW hsz hL

theorem said : Rows.ChunkCutsSaid :=
  OpenClaim.holds_of_cond 4 Tryd.f4 rfl rfl rfl rfl rfl rfl rfl ⟨rfl, rfl, rfl, rfl, rfl⟩ rfl rfl rfl rfl rfl (by kernel_rfl) Tryd.func4 (by kernel_rfl)
    (of_decide_eq_true (by kernel_rfl)) (by unfold Func.isWrapper; first | (rw [if_pos (by decide +kernel)]; kernel_rfl) | (rw [if_neg (by decide +kernel)]; exact ⟨rfl, rfl⟩))
    (fun os started H enc _ F => by rw [OpenClaim.pre_eq_preRow]; exact lifted os started H enc F)

theorem plain (f : FuncId) (fn : Func) (hf : Tryd.pinned.checked.prog.funcNamed "muniment/munimentlaw07.ChunkCuts" = some f) (hfn : Tryd.pinned.checked.prog.funcs[f]? = some fn) :
    false = Tryd.pinned.checked.prog.looks [] ∧ ∀ (j : Nat) t, fn.params[j]? = some t → Tryd.pinned.checked.prog.wantsStandIn t = false := by
  obtain rfl : f = 4 := Option.some.inj ((show Tryd.prog.funcNamed "muniment/munimentlaw07.ChunkCuts" = some 4 by kernel_rfl).symm.trans hf) |>.symm
  obtain rfl : fn = Tryd.f4 := (Option.some.inj (Tryd.func4.symm.trans hfn)).symm
  refine ⟨by kernel_rfl, fun j t ht => ?_⟩
  rw [Tryd.params4] at ht
  have hm := Array.mem_of_getElem? ht
  have : t = 39 ∨ t = 3 := by simpa using hm
  rcases this with rfl | rfl
  · exact (show Tryd.prog.wantsStandIn 39 = false by kernel_rfl)
  · exact (show Tryd.prog.wantsStandIn 3 = false by kernel_rfl)

end Go.Proofs.YtfnncccioipjcaaDoor.chunkCuts
namespace Go.Proofs.YtfnncccioipjcaaDoor
/-- THE CARD -/
theorem chunkCuts_card : Rows.ChunkCutsCardSaid :=
  Claim7.holds_tied_plain_at .later [] _ _ _ _ chunkCuts.said (fun _ h => by cases h) (by kernel_rfl) (fun _ h => by cases h) chunkCuts_row_tie rfl ⟨rfl, rfl⟩ (by kernel_rfl) rfl chunkCuts.plain (by kernel_rfl)
end Go.Proofs.YtfnncccioipjcaaDoor

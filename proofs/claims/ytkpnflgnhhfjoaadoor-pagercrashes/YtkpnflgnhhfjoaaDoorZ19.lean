/- Layer 9: a head's sector: what it is made of. Layer 9: a head's sector. -/
import Derived.Test.YtkpnflgnhhfjoaaDoorZ18
namespace Go.Proofs.YtkpnflgnhhfjoaaDoor
open Go.RowKit Go.Maps
open Fr.Frame (be val)

theorem run_copyPG {w W : World} {a : Act} {o : Oper} (d : Operand) (ho : o.op = .call { callee := .builtin .copy, args := #[d, .const (.string { data := #[80, 71] })], argTypes := #[38, 9] }) {l : List (Nat × TypeId × List Value)} (h : Loc w W l) (i : Nat) {g T : Nat} {cur : List Value} (e : l[i]? = some (g, T, cur)) (dCap : Nat) (hd : a.eval d = .slice (some ⟨g, 0, none⟩) 2 dCap) (hfit : 2 ≤ cur.length) : (execOp a.eval o).run Tryd.prog W = .ok (.value (.int .i64 2)) (W.setRow g (splice cur 0 (bcells [80, 71])).toArray) := by
  obtain ⟨i5, hi5, hsz⟩ := Option.map_eq_some_iff.1 info5
  have hst := run_storeCells_at (P := Tryd.prog) g 0 T (bcells [80, 71]) 0 cur.toArray W (h.at i e) (by simpa [bcells] using hfit) (bcells_one _)
  have hc : a.eval (.const (.string { data := #[80, 71] })) = .string { data := #[80, 71] } := rfl
  have hcells : (bcells [80, 71]) = [Value.int .u8 80, Value.int .u8 71] := rfl
  rw [hcells] at hst
  have hm : Nat.min (ByteArray.size { data := #[80, 71] }) 2 = 2 := rfl
  simp [execOp, ho, resolve, invoke, builtin, hd, hc, Builtin.copy_, run_underlying Tryd.underlying38, Builtin.lenOf, Builtin.firstCells, sizeOf, typeInfo, hi5, hm, hcells]
  simp at hst
  rw [hst]
  simp [Result.andThen, goInt, splice]
/-- the sector of a head, as it is laid -/
theorem hdSec_over (h : Hd) (hw : h.WF) : over (over (over (over (over (List.replicate 64 0) 0 [80, 71]) 2 (be 2 (h.root + 1).toNat)) 4 (be 8 h.num)) 12 h.used) 60 (be 4 (Fr.Frame.crc (hdBody h))) = hdSec h := by
  have h48 := hw.used.1
  have e1 : over (List.replicate 64 0) 0 [80, 71] = [80, 71] ++ List.replicate 62 0 := by decide
  have ov : ∀ (A B C : List Nat) (n : Nat), A.length = n → B.length ≤ C.length → over (A ++ C) n B = (A ++ B) ++ C.drop B.length := by
    intro A B C n ha _
    subst ha
    unfold over
    rw [List.take_append_of_le_length (Nat.le_refl _), List.take_of_length_le (Nat.le_refl _), List.append_assoc]
    congr 2
    rw [List.drop_append, List.drop_of_length_le (by omega), List.nil_append]
    congr 1
    omega
  rw [e1, ov _ (be 2 _) _ 2 rfl (by simp [Fr.Frame.be_length]), ov _ (be 8 _) _ 4 (by simp [Fr.Frame.be_length]) (by simp [Fr.Frame.be_length]), ov _ h.used _ 12 (by simp [Fr.Frame.be_length]) (by simp [Fr.Frame.be_length, h48]), ov _ (be 4 _) _ 60 (by simp [Fr.Frame.be_length, h48]) (by simp [Fr.Frame.be_length, h48])]
  have e2 : (([80, 71] ++ be 2 (h.root + 1).toNat) ++ be 8 h.num) ++ h.used = hdBody h := by simp [hdBody]
  rw [e2]
  unfold hdSec
  simp [Fr.Frame.be_length, h48]
theorem hdBody_over (h : Hd) (hw : h.WF) : (over (over (over (over (List.replicate 64 0) 0 [80, 71]) 2 (be 2 (h.root + 1).toNat)) 4 (be 8 h.num)) 12 h.used).take 60 = hdBody h := by
  have h1 := hdSec_over h hw
  have h2 : ∀ s b : List Nat, 60 ≤ s.length → (over s 60 b).take 60 = s.take 60 := fun s b hs => by
    unfold over
    rw [List.take_append_of_le_length (by simp; omega), List.take_take, Nat.min_self]
  have hl : (over (over (over (over (List.replicate 64 0) 0 [80, 71]) 2 (be 2 (h.root + 1).toNat)) 4 (be 8 h.num)) 12 h.used).length = 64 := by
    rw [over_length _ _ _ (by rw [over_length _ _ _ (by rw [over_length _ _ _ (by rw [over_length _ _ _ (by simp)]; simp [Fr.Frame.be_length])]; rw [over_length _ _ _ (by simp)]; simp [Fr.Frame.be_length])]; rw [over_length _ _ _ (by rw [over_length _ _ _ (by simp)]; simp [Fr.Frame.be_length]), over_length _ _ _ (by simp)]; simp [hw.used.1])]
    rw [over_length _ _ _ (by rw [over_length _ _ _ (by rw [over_length _ _ _ (by simp)]; simp [Fr.Frame.be_length])]; rw [over_length _ _ _ (by simp)]; simp [Fr.Frame.be_length]), over_length _ _ _ (by rw [over_length _ _ _ (by simp)]; simp [Fr.Frame.be_length]), over_length _ _ _ (by simp)]
    simp
  have h3 := congrArg (List.take 60) h1
  rw [h2 _ _ (by omega)] at h3
  rw [h3]
  unfold hdSec
  rw [List.take_append_of_le_length (by rw [hdBody_length hw]; exact Nat.le_refl _), List.take_of_length_le (by rw [hdBody_length hw]; exact Nat.le_refl _)]
/-- the sum of bytes of a block -/
theorem crc_at {w : World} {g T k cap : Nat} {s : List Nat} (ht : Fr.TabIn w) (hr : Row w g T (bcells s)) (hb : ∀ c ∈ s, c < 256) (h : k ≤ s.length) (hk : k ≤ 100000) (hc : k ≤ cap) : Calls Tryd.prog 72 #[.slice (some ⟨g, 0, none⟩) k cap] w fun e w' => e = .returned (.int .u32 (Fr.Frame.crc (s.take k) : Nat)) ∧ w = w' := by
  have hl : (s.take k).length = k := by simp; omega
  have h1 : Fr.SliceIn w (.slice (some ⟨g, 0, none⟩) k cap) (s.take k) := by
    refine ⟨_, cap, by rw [hl], ⟨by omega, by omega⟩, Or.inr ⟨g, 0, rfl, fun j hj => ?_, Fr.Frame.getD_lt fun c hc => hb c (List.mem_of_mem_take hc)⟩⟩
    rw [hl] at hj
    have e : (s.take k).getD j 0 = s.getD j 0 := by simp [List.getD_eq_getElem?_getD, hj]
    rw [e, Nat.zero_add]
    exact hr.at j _ (bat (by omega))
  exact Fr.sum_any _ _ w h1 ht
section
variable {w : World} {a : Act} {o : Oper}
theorem run_u32u64 (x : Operand) (ho : o.op = .convert 62 74 x) (n : Nat) (hn : n < 4294967296) (hx : a.eval x = .int .u32 (n : Nat)) : (execOp a.eval o).run Tryd.prog w = .ok (.value (.int .u64 (n : Nat))) w := by
  have h : (convert 62 74 (.int .u32 (n : Nat))).run Tryd.prog w = .ok (.int .u64 (n : Nat)) w := by
    simp [go_sem, IntKind.wrap, IntKind.signed, IntKind.bits]
    omega
  simp only [execOp, ho, hx, h, Sem.run_bind, Sem.run_pure, Result.andThen_ok]
theorem run_i64u64 (x : Operand) (ho : o.op = .convert 3 74 x) (n : Nat) (hn : n < 4294967296) (hx : a.eval x = .int .i64 (n : Nat)) : (execOp a.eval o).run Tryd.prog w = .ok (.value (.int .u64 (n : Nat))) w := by
  have h : (convert 3 74 (.int .i64 (n : Nat))).run Tryd.prog w = .ok (.int .u64 (n : Nat)) w := by
    simp [go_sem, IntKind.wrap, IntKind.signed, IntKind.bits]
    omega
  simp only [execOp, ho, hx, h, Sem.run_bind, Sem.run_pure, Result.andThen_ok]
theorem run_u64i64 (x : Operand) (ho : o.op = .convert 74 3 x) (n : Nat) (hn : n < 4294967296) (hx : a.eval x = .int .u64 (n : Nat)) : (execOp a.eval o).run Tryd.prog w = .ok (.value (.int .i64 (n : Nat))) w := by
  have h : (convert 74 3 (.int .u64 (n : Nat))).run Tryd.prog w = .ok (.int .i64 (n : Nat)) w := by
    simp [go_sem, IntKind.wrap, IntKind.signed, IntKind.bits]
    omega
  simp only [execOp, ho, hx, h, Sem.run_bind, Sem.run_pure, Result.andThen_ok]
end
theorem eN72 : EntersF 72 := Go.Proofs.enters_of Tryd.func72 (by kernel_rfl) rfl
theorem eN68 : EntersF 68 := Go.Proofs.enters_of Tryd.func68 (by kernel_rfl) rfl
theorem eN67 : EntersF 67 := Go.Proofs.enters_of Tryd.func67 (by kernel_rfl) rfl
theorem eN43 : EntersF 43 := Go.Proofs.enters_of Tryd.func43 (by kernel_rfl) rfl
end Go.Proofs.YtkpnflgnhhfjoaaDoor

namespace Go.Proofs.YtkpnflgnhhfjoaaDoor
open Go.RowKit Go.Maps
open Fr.Frame (be val)

set_option maxHeartbeats 8000000 in
set_option maxRecDepth 100000 in
theorem sector_any (w : World) (ht : Fr.TabIn w) (h : Hd) (hw : h.WF) : Calls Tryd.prog 68 #[.agg (hdCells h).toArray] w fun e w' => e = .returned (.agg (bcells (hdSec h)).toArray) ∧ Below w.heap.size w w' := by
  obtain ⟨rt, hrt⟩ : ∃ rt : Nat, h.root + 1 = (rt : Int) := ⟨(h.root + 1).toNat, by have := hw.lo; omega⟩
  have hrl : rt < 65536 := by have := hw.hi; omega
  have e1 : (h.root + 1).toNat = rt := by omega
  obtain ⟨Z, hZ⟩ : ∃ Z, Z = hdSec h := ⟨_, rfl⟩
  obtain ⟨crc, hcrc⟩ : ∃ crc, crc = Fr.Frame.crc (hdBody h) := ⟨_, rfl⟩
  obtain ⟨s1, hs1⟩ : ∃ s1, s1 = over (List.replicate 64 0) 0 [80, 71] := ⟨_, rfl⟩
  obtain ⟨s2, hs2⟩ : ∃ s2, s2 = over s1 2 (be 2 rt) := ⟨_, rfl⟩
  obtain ⟨s3, hs3⟩ : ∃ s3, s3 = over s2 4 (be 8 h.num) := ⟨_, rfl⟩
  obtain ⟨s4, hs4⟩ : ∃ s4, s4 = over s3 12 h.used := ⟨_, rfl⟩
  have l1 : s1.length = 64 := by rw [hs1]; rfl
  have l2 : s2.length = 64 := by rw [hs2, over_length _ _ _ (by rw [Fr.Frame.be_length]; omega)]; exact l1
  have l3 : s3.length = 64 := by rw [hs3, over_length _ _ _ (by rw [Fr.Frame.be_length]; omega)]; exact l2
  have l4 : s4.length = 64 := by rw [hs4, over_length _ _ _ (by rw [hw.used.1]; omega)]; exact l3
  have HZ : Hid (over s4 60 (be 4 crc) = Z) := by
    rw [hZ, ← hdSec_over h hw, e1, hcrc, hs4, hs3, hs2, hs1]
    exact rfl
  have HB : Hid (s4.take 60 = hdBody h) := by rw [hs4, hs3, hs2, hs1, ← e1]; exact hdBody_over h hw
  have b4 : ∀ c ∈ s4, c < 256 := by
    have hZlt := hdSec_lt hw
    intro c hc
    have hmem : ∀ (s b : List Nat) (off : Nat), (∀ c ∈ s, c < 256) → (∀ c ∈ b, c < 256) → ∀ c ∈ over s off b, c < 256 := fun s b off h1 h2 c hc => by
      unfold over at hc
      simp only [List.mem_append] at hc
      rcases hc with hc | hc | hc
      · exact h1 c (List.mem_of_mem_take hc)
      · exact h2 c hc
      · exact h1 c (List.mem_of_mem_drop hc)
    rw [hs4, hs3, hs2, hs1] at hc
    exact hmem _ _ _ (hmem _ _ _ (hmem _ _ _ (hmem _ _ _ (fun c hc => by rw [(List.mem_replicate.1 hc).2]; decide) (by decide)) (Fr.Frame.be_lt _ _)) (Fr.Frame.be_lt _ _)) hw.used.2 c hc
  have HT : Hid (Fr.TabIn w) := ht
  have HC : Hid ((hdCells h)[0]? = some (.int .u64 (h.num : Nat)) ∧ (hdCells h)[1]? = some (.int .i64 h.root)) := ⟨rfl, rfl⟩
  obtain ⟨u, hu⟩ : ∃ u, u = h.used := ⟨_, rfl⟩
  have hul : u.length = 48 := by rw [hu]; exact hw.used.1
  have HCU : Hid (∀ j, j < 48 → (hdCells h)[2 + j]? = some (.int .u8 (u.getD j 0 : Nat))) := fun j hj => by
    rw [hu, Nat.add_comm]
    exact bat (by rw [hw.used.1]; exact hj)
  rw [← hu] at hs4
  obtain ⟨cs, hcs⟩ : ∃ cs, cs = hdCells h := ⟨_, rfl⟩
  obtain ⟨num, hnum⟩ : ∃ num, num = h.num := ⟨_, rfl⟩
  obtain ⟨root, hroot⟩ : ∃ root, root = h.root := ⟨_, rfl⟩
  rw [← hZ]
  rw [← hnum, ← hroot, ← hcs] at HC
  rw [← hcs] at HCU ⊢
  rw [← hnum] at hs3
  rw [← hroot] at hrt
  have H1 : Hid (s1 = over (List.replicate 64 0) 0 [80, 71]) := hs1
  have H2 : Hid (s2 = over s1 2 (be 2 rt)) := hs2
  have H3 : Hid (s3 = over s2 4 (be 8 num)) := hs3
  have H4 : Hid (s4 = over s3 12 u) := hs4
  have HCR : Hid (crc = Fr.Frame.crc (hdBody h)) := hcrc
  have HRT : Hid (root + 1 = (rt : Int)) := hrt
  have HB4 : Hid (∀ c ∈ s4, c < 256) := b4
  have hcl : crc < 4294967296 := by rw [hcrc]; exact Fr.Frame.crc_lt _
  have HCL : Hid (crc < 4294967296) := hcl
  have HLZ : Hid (Z.length = 64) := by rw [hZ]; exact hdSec_length hw
  clear hrt e1 hcrc hs1 hs2 hs3 hs4 b4 ht hu hcs hnum hroot hZ hw hcl
  go_enter Tryd.func68, Tryd.ntmps68
  go_upto_region 0 with fail
  refine wp_region_lit ?_
  refine wpList_box (.tmp 0) rfl rfl cs rfl ?_
  intro w1 r1 z1 b1
  obtain ⟨q1, hq1⟩ : ∃ q, q = w.heap.size := ⟨_, rfl⟩
  have R1 : Hid (Loc w w1 [(q1, 78, cs)]) := by rw [hq1]; exact (Loc.nil (Below.refl _ w)).add r1 (Nat.le_refl _) b1
  rw [← hq1]
  clear r1 b1 hq1 z1
  simp only [Act.put, aS, aC, aZ]
  refine wpList_alloc' (zerosU8 64) zero122 rfl rfl ?_
  intro w2 r2 z2 b2
  obtain ⟨q2, hq2⟩ : ∃ q, q = w1.heap.size := ⟨_, rfl⟩
  have R2 : Hid (Loc w w2 [(q1, 78, cs), (q2, 122, zerosU8 64)]) := by rw [hq2]; exact R1.out.add r2 (Nat.le_refl _) b2
  rw [← hq2]
  clear r2 b2 hq2 z2 R1
  simp only [Act.put, aS, aC, aZ]
  refine wpList_nil ?_
  go_upto_region 1 with fail
  refine wp_region_lit ?_
  refine wpList_alloc' (zerosU8 64) zero122 rfl rfl ?_
  intro w3 r3 z3 b3
  obtain ⟨q3, hq3⟩ : ∃ q, q = w2.heap.size := ⟨_, rfl⟩
  have R3 : Hid (Loc w w3 [(q1, 78, cs), (q2, 122, zerosU8 64), (q3, 122, bcells (List.replicate 64 0))]) := by rw [hq3, ← zerosB]; exact R2.out.add r3 (Nat.le_refl _) b3
  rw [← hq3]
  clear r3 b3 hq3 z3 R2
  simp only [Act.put, aS, aC, aZ]
  refine wpList_nil ?_
  go_upto_region 2 with fail
  refine wp_region_lit ?_
  refine wl rfl (.slice (some ⟨q3, 0 + 0, none⟩) (2) (64)) _ (run_slA arr122 (.tmp 3) none (some (.const (.int .i64 2))) rfl q3 (0) 0 2 rfl ⟨(Or.inl ⟨rfl, rfl⟩), (Or.inr rfl), by omega, by omega, by omega⟩) ?_
  simp only [Act.put, aS, aC, aZ]
  refine wl rfl (.int .i64 2) _ (run_copyPG (.tmp 4) rfl R3.out 2 rfl 64 rfl (by rw [bcells_length]; simp)) ?_
  have k2 := R3.out.lay 2 rfl 0 (bcells [80, 71])
  rw [over_splice, ← H1.out] at k2
  obtain ⟨w4, hw4⟩ : ∃ w4, w4 = w3.setRow q3 (splice (bcells (List.replicate 64 0)) 0 (bcells [80, 71])).toArray := ⟨_, rfl⟩
  rw [over_splice, ← H1.out] at hw4
  rw [over_splice, ← H1.out, ← hw4]
  rw [← hw4] at k2
  have R4 : Hid (Loc w w4 [(q1, 78, cs), (q2, 122, zerosU8 64), (q3, 122, bcells s1)]) := k2
  clear k2 hw4 R3
  simp only [Act.put, aS, aC, aZ]
  refine wpList_nil ?_
  go_upto_region 3 with fail
  refine wp_region_until (S := fun X => Loc w X [(q1, 78, cs), (q2, 122, zerosU8 64), (q3, 122, bcells s1)]) 5 (by kernel_rfl) ?_
  show wpAnyU _ _ _ _ _ _ 6 (Array.replicate 6 false) _ _
  obtain ⟨X3, hX⟩ : ∃ X3 : World, X3 = { w4 with drawn := w4.drawn + 1 } := ⟨_, rfl⟩
  rw [← hX]
  have hS : Loc w X3 [(q1, 78, cs), (q2, 122, zerosU8 64), (q3, 122, bcells s1)] := by rw [hX]; exact R4.out.drew
  clear R4
  clear hX
  refine takeV (i := 0) [5] (some 6) rfl rfl (by kernel_rfl) (by kernel_rfl) (by kernel_rfl) (by kernel_rfl) (fun _ _ _ h => h) (gRun rfl (.slice (some ⟨q3, 0 + 2, none⟩) (2) (62)) fun _ h => run_slA arr122 (.tmp 3) (some (.const (.int .i64 2))) (some (.const (.int .i64 4))) rfl q3 (0) 2 4 rfl ⟨(Or.inr rfl), (Or.inr rfl), by omega, by omega, by omega⟩) hS ?_
  simp only [Act.put, aS, aC, aZ]
  refine takeV (i := 1) [2, 3, 4, 5] (some 7) rfl rfl (by kernel_rfl) (by kernel_rfl) (by kernel_rfl) (by kernel_rfl) (fun _ _ _ h => h) (gRun rfl (.pointer (some ⟨q1, 0 + 1, none⟩)) fun _ h => run_fieldOp' f78_1 (.tmp 1) rfl q1 (0) rfl) hS ?_
  simp only [Act.put, aS, aC, aZ]
  refine takeV (i := 2) [3, 4, 5] (some 8) rfl rfl (by kernel_rfl) (by kernel_rfl) (by kernel_rfl) (by kernel_rfl) (fun _ _ _ h => h) (gRun rfl (.int .i64 root) fun _ h => run_load1 o3 (.tmp 7) rfl q1 (0 + 1) rfl (.int .i64 root) (rows_at h 0 rfl 1 _ HC.out.2)) hS ?_
  simp only [Act.put, aS, aC, aZ]
  refine takeV (i := 3) [4, 5] (some 9) rfl rfl (by kernel_rfl) (by kernel_rfl) (by kernel_rfl) (by kernel_rfl) (fun _ _ _ h => h) (gRun rfl (.int .i64 (rt : Nat)) fun _ h => run_subI (.tmp 8) (.const (.int .i64 (-1))) rfl root (-1) (rt : Nat) (by have := HRT.out; omega) (by omega) (by omega) rfl rfl) hS ?_
  simp only [Act.put, aS, aC, aZ]
  refine takeV (i := 4) [5] (some 10) rfl rfl (by kernel_rfl) (by kernel_rfl) (by kernel_rfl) (by kernel_rfl) (fun _ _ _ h => h) (gRun rfl (.int .u64 (rt : Nat)) fun _ h => run_i64u64 (.tmp 9) rfl rt (by omega) rfl) hS ?_
  simp only [Act.put, aS, aC, aZ]
  refine oneU (i := 5) (by kernel_rfl) ?_
  refine opCallG (some 11) rfl rfl rfl 71 _ (run_call eN71 [.tmp 6, .tmp 10] _ rfl [(.slice (some ⟨q3, 0 + 2, none⟩) (2) (62)), (.int .u64 (rt : Nat))] rfl) ?_
  refine (layNum_any hS 2 rfl 2 2 _ rt (by omega) (by decide)).mono ?_
  rintro e w5 ⟨rfl, k2⟩
  refine ⟨_, rfl, ?_⟩
  rw [← H2.out] at k2
  have Rw5 : Hid (Loc w w5 [(q1, 78, cs), (q2, 122, zerosU8 64), (q3, 122, bcells s2)]) := k2
  clear k2 hS
  refine ⟨fun h => absurd (show true = false from h) (by decide), ?_⟩
  simp only [Act.put, aS, aC, aZ]
  refine wpAnyU_done (by kernel_rfl) ?_ _

  go_upto_region 4 with fail
  refine wp_region_until (S := fun X => Loc w X [(q1, 78, cs), (q2, 122, zerosU8 64), (q3, 122, bcells s2)]) 3 (by kernel_rfl) ?_
  show wpAnyU _ _ _ _ _ _ 4 (Array.replicate 4 false) _ _
  obtain ⟨X4, hX⟩ : ∃ X4 : World, X4 = { w5 with drawn := w5.drawn + 1 } := ⟨_, rfl⟩
  rw [← hX]
  have hS : Loc w X4 [(q1, 78, cs), (q2, 122, zerosU8 64), (q3, 122, bcells s2)] := by rw [hX]; exact Rw5.out.drew
  clear Rw5
  clear hX
  refine takeV (i := 0) [3] (some 12) rfl rfl (by kernel_rfl) (by kernel_rfl) (by kernel_rfl) (by kernel_rfl) (fun _ _ _ h => h) (gRun rfl (.slice (some ⟨q3, 0 + 4, none⟩) (8) (60)) fun _ h => run_slA arr122 (.tmp 3) (some (.const (.int .i64 4))) (some (.const (.int .i64 12))) rfl q3 (0) 4 12 rfl ⟨(Or.inr rfl), (Or.inr rfl), by omega, by omega, by omega⟩) hS ?_
  simp only [Act.put, aS, aC, aZ]
  refine takeV (i := 1) [2, 3] (some 13) rfl rfl (by kernel_rfl) (by kernel_rfl) (by kernel_rfl) (by kernel_rfl) (fun _ _ _ h => h) (gRun rfl (.pointer (some ⟨q1, 0 + 0, none⟩)) fun _ h => run_fieldOp' f78_0 (.tmp 1) rfl q1 (0) rfl) hS ?_
  simp only [Act.put, aS, aC, aZ]
  refine takeV (i := 2) [3] (some 14) rfl rfl (by kernel_rfl) (by kernel_rfl) (by kernel_rfl) (by kernel_rfl) (fun _ _ _ h => h) (gRun rfl (.int .u64 (num : Nat)) fun _ h => run_load1 o74 (.tmp 13) rfl q1 (0 + 0) rfl (.int .u64 (num : Nat)) (rows_at h 0 rfl 0 _ HC.out.1)) hS ?_
  simp only [Act.put, aS, aC, aZ]
  refine oneU (i := 3) (by kernel_rfl) ?_
  refine opCallG (some 15) rfl rfl rfl 71 _ (run_call eN71 [.tmp 12, .tmp 14] _ rfl [(.slice (some ⟨q3, 0 + 4, none⟩) (8) (60)), (.int .u64 (num : Nat))] rfl) ?_
  refine (layNum_any hS 2 rfl 4 8 _ num (by omega) (by decide)).mono ?_
  rintro e w6 ⟨rfl, k2⟩
  refine ⟨_, rfl, ?_⟩
  rw [← H3.out] at k2
  have Rw6 : Hid (Loc w w6 [(q1, 78, cs), (q2, 122, zerosU8 64), (q3, 122, bcells s3)]) := k2
  clear k2 hS
  refine ⟨fun h => absurd (show true = false from h) (by decide), ?_⟩
  simp only [Act.put, aS, aC, aZ]
  refine wpAnyU_done (by kernel_rfl) ?_ _

  go_upto_region 5 with fail
  refine wp_region_until (S := fun X => Loc w X [(q1, 78, cs), (q2, 122, zerosU8 64), (q3, 122, bcells s3)]) 3 (by kernel_rfl) ?_
  show wpAnyU _ _ _ _ _ _ 4 (Array.replicate 4 false) _ _
  obtain ⟨X5, hX⟩ : ∃ X5 : World, X5 = { w6 with drawn := w6.drawn + 1 } := ⟨_, rfl⟩
  rw [← hX]
  have hS : Loc w X5 [(q1, 78, cs), (q2, 122, zerosU8 64), (q3, 122, bcells s3)] := by rw [hX]; exact Rw6.out.drew
  clear Rw6
  clear hX
  refine takeV (i := 0) [3] (some 16) rfl rfl (by kernel_rfl) (by kernel_rfl) (by kernel_rfl) (by kernel_rfl) (fun _ _ _ h => h) (gRun rfl (.slice (some ⟨q3, 0 + 12, none⟩) (48) (52)) fun _ h => run_slA arr122 (.tmp 3) (some (.const (.int .i64 12))) (some (.const (.int .i64 60))) rfl q3 (0) 12 60 rfl ⟨(Or.inr rfl), (Or.inr rfl), by omega, by omega, by omega⟩) hS ?_
  simp only [Act.put, aS, aC, aZ]
  refine takeV (i := 1) [2, 3] (some 17) rfl rfl (by kernel_rfl) (by kernel_rfl) (by kernel_rfl) (by kernel_rfl) (fun _ _ _ h => h) (gRun rfl (.pointer (some ⟨q1, 0 + 2, none⟩)) fun _ h => run_fieldOp' f78_2 (.tmp 1) rfl q1 (0) rfl) hS ?_
  simp only [Act.put, aS, aC, aZ]
  refine takeV (i := 2) [3] (some 18) rfl rfl (by kernel_rfl) (by kernel_rfl) (by kernel_rfl) (by kernel_rfl) (fun _ _ _ h => h) (gRun rfl (.slice (some ⟨q1, 0 + 2 + 0, none⟩) 48 48) fun _ h => run_slA arr76 (.tmp 17) none none rfl q1 (0 + 2) 0 48 rfl ⟨(Or.inl ⟨rfl, rfl⟩), (Or.inl ⟨rfl, rfl⟩), by omega, by omega, by omega⟩) hS ?_
  simp only [Act.put, aS, aC, aZ]
  refine oneU (i := 3) (by kernel_rfl) ?_
  refine opValueG (some 19) rfl rfl rfl (.int .i64 (48 : Nat)) _ (run_copyL (.tmp 16) (.tmp 18) rfl hS 2 rfl 12 48 52 q1 2 48 48 48 rfl rfl u hul rfl (fun j hj => rows_at hS 0 rfl (2 + j) _ (HCU.out j (by omega))) (by rw [bcells_length, l3]; decide)).1 ?_
  have k2 := hS.lay 2 rfl 12 (bcells u)
  rw [over_splice, ← H4.out] at k2
  obtain ⟨w7, hw7⟩ : ∃ w7, w7 = X5.setRow q3 (splice (bcells s3) 12 (bcells u)).toArray := ⟨_, rfl⟩
  rw [over_splice, ← H4.out] at hw7
  rw [over_splice, ← H4.out, ← hw7]
  rw [← hw7] at k2
  have R7 : Hid (Loc w w7 [(q1, 78, cs), (q2, 122, zerosU8 64), (q3, 122, bcells s4)]) := k2
  clear k2 hw7 hS
  refine ⟨fun h => absurd (show true = false from h) (by decide), ?_⟩
  simp only [Act.put, aS, aC, aZ]
  refine wpAnyU_done (by kernel_rfl) ?_ _

  go_upto_region 6 with fail
  refine wp_region_until (S := fun X => Loc w X [(q1, 78, cs), (q2, 122, zerosU8 64), (q3, 122, bcells s4)]) 4 (by kernel_rfl) ?_
  show wpAnyU _ _ _ _ _ _ 5 (Array.replicate 5 false) _ _
  obtain ⟨X6, hX⟩ : ∃ X6 : World, X6 = { w7 with drawn := w7.drawn + 1 } := ⟨_, rfl⟩
  rw [← hX]
  have hS : Loc w X6 [(q1, 78, cs), (q2, 122, zerosU8 64), (q3, 122, bcells s4)] := by rw [hX]; exact R7.out.drew
  clear R7
  clear hX
  refine takeV (i := 0) [4] (some 20) rfl rfl (by kernel_rfl) (by kernel_rfl) (by kernel_rfl) (by kernel_rfl) (fun _ _ _ h => h) (gRun rfl (.slice (some ⟨q3, 0 + 60, none⟩) (4) (4)) fun _ h => run_slA arr122 (.tmp 3) (some (.const (.int .i64 60))) none rfl q3 (0) 60 64 rfl ⟨(Or.inr rfl), (Or.inl ⟨rfl, rfl⟩), by omega, by omega, by omega⟩) hS ?_
  simp only [Act.put, aS, aC, aZ]
  refine takeV (i := 1) [2, 4] (some 21) rfl rfl (by kernel_rfl) (by kernel_rfl) (by kernel_rfl) (by kernel_rfl) (fun _ _ _ h => h) (gRun rfl (.slice (some ⟨q3, 0 + 0, none⟩) (60) (64)) fun _ h => run_slA arr122 (.tmp 3) none (some (.const (.int .i64 60))) rfl q3 (0) 0 60 rfl ⟨(Or.inl ⟨rfl, rfl⟩), (Or.inr rfl), by omega, by omega, by omega⟩) hS ?_
  simp only [Act.put, aS, aC, aZ]
  refine oneU (i := 2) (by kernel_rfl) ?_
  refine opCallG (some 22) rfl rfl rfl 72 _ (run_call eN72 [.tmp 21] _ rfl [(.slice (some ⟨q3, 0 + 0, none⟩) (60) (64))] rfl) ?_
  refine (crc_at (k := 60) (cap := 64) (Fr.TabIn.later hS.below HT.out) (hS.at 2 rfl) HB4.out (by omega) (by decide) (by decide)).mono ?_
  rintro e w8 ⟨rfl, e8⟩
  subst e8
  refine ⟨_, rfl, ?_⟩
  rw [HB.out, ← HCR.out]
  refine ⟨fun _ => hS, ?_⟩
  simp only [Act.put, aS, aC, aZ]
  refine takeV (i := 3) [4] (some 23) rfl rfl (by kernel_rfl) (by kernel_rfl) (by kernel_rfl) (by kernel_rfl) (fun _ _ _ h => h) (gRun rfl (.int .u64 (crc : Nat)) fun _ h => run_u32u64 (.tmp 22) rfl crc HCL.out rfl) hS ?_
  simp only [Act.put, aS, aC, aZ]
  refine oneU (i := 4) (by kernel_rfl) ?_
  refine opCallG (some 24) rfl rfl rfl 71 _ (run_call eN71 [.tmp 20, .tmp 23] _ rfl [(.slice (some ⟨q3, 0 + 60, none⟩) (4) (4)), (.int .u64 (crc : Nat))] rfl) ?_
  refine (layNum_any hS 2 rfl 60 4 _ crc (by omega) (by decide)).mono ?_
  rintro e w9 ⟨rfl, k2⟩
  refine ⟨_, rfl, ?_⟩
  rw [HZ.out] at k2
  have Rw9 : Hid (Loc w w9 [(q1, 78, cs), (q2, 122, zerosU8 64), (q3, 122, bcells Z)]) := k2
  clear k2 hS
  refine ⟨fun h => absurd (show true = false from h) (by decide), ?_⟩
  simp only [Act.put, aS, aC, aZ]
  refine wpAnyU_done (by kernel_rfl) ?_ _

  go_upto_region 7 with fail
  refine wp_region_lit ?_
  refine wl_ldA ag122 (.tmp 3) rfl rfl q3 0 rfl (bcells Z) (by rw [bcells_length]; exact HLZ.out) (rows_all Rw9.out 2 rfl) ?_
  simp only [Act.put, aS, aC, aZ]
  refine wlS rfl rfl _ (run_storeL ag122 (.tmp 2) (.tmp 25) rfl Rw9.out 1 rfl 0 rfl (bcells Z) rfl (by rw [bcells_length]; exact HLZ.out) (by rw [bcells_length]; simp [zerosU8, HLZ.out]) (bcells_one Z)).1 ?_
  have k2 := Rw9.out.lay 1 rfl 0 (bcells Z)
  rw [splice_all _ _ (by rw [bcells_length]; simp [zerosU8, HLZ.out])] at k2 ⊢
  refine wpList_nil ?_
  have R9 : Hid (Loc w _ [(q1, 78, cs), (q2, 122, bcells Z), (q3, 122, bcells Z)]) := k2
  clear k2 Rw9
  go_wp2_with fail
  exact bodyPost_ret (results_cell ag122 Tryd.results68 _ _ q2 122 rfl (bcells Z) (by rw [bcells_length]; exact HLZ.out) (R9.out.at 1 rfl)) rfl ⟨rfl, R9.out.below⟩
end Go.Proofs.YtkpnflgnhhfjoaaDoor

/- The examples at the head of chunk's statements. -/
import Derived.Test.YtfnncccioipjcaaDoorCCheck
import Derived.Test.YtfnncccioipjcaaDoorCSplit
namespace Go.Proofs.YtfnncccioipjcaaDoor
open Go.RowKit

theorem en25c : EntersF 25 := enters Tryd.func25 (by kernel_rfl) (by kernel_rfl)
section
variable {w : World} {o : Oper} {a : Act}
theorem rx_wslot (x i : Operand) (ho : o.op = .indexAddr 22 x i) (g n k : Nat) (hx : a.eval x = whole g n) (I : Int) (hi : a.eval i = .int .i64 I) (hI : I = (k : Int)) (hk : k < n) : (execOp a.eval o).run Tryd.prog w = .ok (.value (.pointer (some ⟨g, k, none⟩))) w := by
  subst hI
  simp only [execOp, ho, hx, hi, run_wslot g n k hk w, Sem.run_bind, Sem.run_pure, Result.andThen_ok]
end
/-- chunks and a root, as they were made -/
def spS (w : World) (B gr : Nat) (zs r : List Nat) (W : World) : Prop := SpIn W B zs ∧ HIs W gr r ∧ Below w.heap.size w W
theorem spS.next {w W W' : World} {B gr : Nat} {zs r : List Nat} (h : spS w B gr zs r W) (hb : Below W.heap.size W W') : spS w B gr zs r W' := ⟨h.1.later hb, h.2.1.next hb, below_append h.2.2 hb⟩
set_option maxHeartbeats 4000000 in
set_option maxRecDepth 100000 in
theorem cshown_any (w : World) (ht : TabIn w) (hst : StartIn w) : Calls Tryd.prog 18 #[] w fun e w' => e = .returned (.bool true) ∧ Below w.heap.size w w' := by
  obtain ⟨zs, hz⟩ : ∃ zs : List Nat, List.replicate 130 0 = zs := ⟨_, rfl⟩
  have HZ : Hid (List.replicate 130 0 = zs) := hz
  have HZL : Hid (zs.length = 130) := by rw [← hz]; exact List.length_replicate ..
  have HZB : Hid (∀ c ∈ zs, c < 256) := by rw [← hz]; exact fun c hc => by have := (List.mem_replicate.1 hc).2; omega
  have HC3 : Hid (Cut.count zs.length = 3) := by rw [HZL.out]; exact rfl
  have HP2 : Hid ((Cut.piece zs 2).length = 2) := by rw [Cut.piece_length, HZL.out]; exact rfl
  have HP0 : Hid ((Cut.piece zs 0).length = 64) := by rw [Cut.piece_length, HZL.out]; exact rfl
  have HLL : Hid ((Cut.leaves zs).length = 3) := by rw [Cut.leaves_length]; exact HC3.out
  have HE3 : Hid (proofErr zs 3 = 50) := by unfold proofErr inclErr; rw [HLL.out]; exact rfl
  have HE2 : Hid (proofErr zs 2 = 0) := by unfold proofErr inclErr; rw [HLL.out]; exact rfl
  have HA2 : Hid (proofAns zs 2 = Tree.incl (Cut.leaves zs) 2) := by unfold proofAns inclAns; rw [HLL.out]; exact rfl
  have HK2 : Hid (Cut.check (Cut.piece zs 2) 2 130 (proofAns zs 2) (Cut.root zs) = true) := by
    have := Cut.check_own zs 2 (by rw [HC3.out]; decide)
    rw [HZL.out] at this
    rw [HA2.out]
    exact this
  have HK0 : Hid (Cut.check (Cut.piece zs 0) 2 130 (proofAns zs 2) (Cut.root zs) = false) := by
    have := Cut.check_len zs (Cut.piece zs 0) 2 (by rw [HC3.out]; decide) (by rw [HP2.out, HP0.out]; decide) (proofAns zs 2) (Cut.root zs)
    rw [HZL.out] at this
    exact this
  have HRH : Hid (IsH (Cut.root zs)) := (leaves_allH zs).root
  have HLT : Hid (zs.length ≤ 140737488355328) := by show _ ≤ _; rw [HZL.out]; decide
  clear hz
  generalize hr : Cut.root zs = r at HK2 HK0 HRH
  have HRE : Hid (Cut.root zs = r) := hr
  clear hr
  generalize hp : proofAns zs 2 = pr at HA2 HK2 HK0
  have HPE : Hid (proofAns zs 2 = pr) := hp
  clear hp HA2
  go_enter Tryd.func18, Tryd.ntmps18
  go_wp2_with ((first
    | (refine wl_make (.const (.int .i64 130)) (.const (.int .i64 130)) 39 5 (.int .u8 0) 1 1 rfl rfl Tryd.underlying39 info5' 130 rfl rfl (by decide) (by decide) ?_; intro w1 r1 s1 b1; rw [made5, HZ.out] at r1; have R1 : Hid (SliceIn w1 (whole w.heap.size 130) zs ∧ Below w.heap.size w w1) := ⟨HZL.out ▸ whole_slice r1 HZB.out (by rw [HZL.out]; decide), b1⟩; generalize whole w.heap.size 130 = vb at R1 ⊢; clear r1 s1 b1)
    | (go_at_call 19; refine (split_at vb zs w1 R1.out.1 HLT.out).mono ?_; rw [HC3.out]; rintro e w2 ⟨rfl, sp2, _, b2⟩; generalize w1.heap.size = B at sp2 ⊢; have R2 : Hid (SliceIn w2 vb zs ∧ SpIn w2 B zs ∧ Below w.heap.size w w2) := ⟨R1.out.1.later (by assumption), sp2, below_append R1.out.2 (by assumption)⟩; clear sp2)
    | (go_at_call_of 21 vb; refine (cproof_any vb zs 3 w2 R2.out.1 (ht.later R2.out.2.2) (hst.later R2.out.2.2) HLT.out).mono ?_; rw [HE3.out]; rintro e w3 ⟨v3, rfl, o3, b3⟩; have R3 : Hid (SliceIn w3 vb zs ∧ SpIn w3 B zs ∧ Below w.heap.size w w3) := ⟨R2.out.1.later b3, R2.out.2.1.later b3, below_append R2.out.2.2 b3⟩; clear o3 b3 R2)
    | (go_at_call_of 21 vb; refine (cproof_any vb zs 2 w3 R3.out.1 (ht.later R3.out.2.2) (hst.later R3.out.2.2) HLT.out).mono ?_; rw [HE2.out, HPE.out]; rintro e w4 ⟨v4, rfl, o4, b4⟩; have R4 : Hid (SliceIn w4 vb zs ∧ SpIn w4 B zs ∧ Below w.heap.size w w4 ∧ HIn w4 v4 pr) := ⟨R3.out.1.later b4, R3.out.2.1.later b4, below_append R3.out.2.2 b4, o4.hin⟩; clear o4 b4 R3)
    | (refine wl_wlen (.tmp 23) rfl rfl B 3 rfl ?_)
    | (refine wl_wslot (.tmp 27) (.const (.int .i64 2)) rfl rfl B 3 2 rfl _ rfl rfl (by decide) ?_)
    | (refine wl_load1' one39 (.tmp 28) rfl rfl B 2 rfl (whole (B + 1 + 2) (Cut.piece zs 2).length) (R4.out.2.1.cell 2 (by rw [HC3.out]; decide)) ?_)
    | (refine wl_blenN (.tmp 29) rfl rfl _ (Cut.piece zs 2) rfl (R4.out.2.1.slice HZB.out 2 (by rw [HC3.out]; decide)) 2 HP2.out ?_)
    | (go_at_call 23; refine (croot_any vb zs w4 R4.out.1 (ht.later R4.out.2.2.1) (hst.later R4.out.2.2.1) HLT.out).mono ?_; rw [HRE.out]; rintro e w5 ⟨rfl, b5⟩; have R5 : Hid (SliceIn w5 vb zs ∧ SpIn w5 B zs ∧ Below w.heap.size w w5 ∧ HIn w5 v4 pr) := ⟨R4.out.1.later b5, R4.out.2.1.later b5, below_append R4.out.2.2.1 b5, R4.out.2.2.2.later b5⟩; clear b5 R4)
    | (refine wl_new rfl rfl rfl rfl rfl (.tmp 42) rfl r HRH.out (fun _ => rfl) (fun _ => rfl) ?_; intro w6 r6 s6 b6; have R6 : Hid (spS w B w5.heap.size zs r w6 ∧ HIn w6 v4 pr) := ⟨⟨R5.out.2.1.later b6, r6, below_append R5.out.2.2.1 b6⟩, R5.out.2.2.2.later b6⟩; generalize w5.heap.size = gr at R6 ⊢; clear r6 s6 b6 R5)); try simp only [Act.put, List.setIfInBounds_toArray, List.set_cons_succ, List.set_cons_zero])
  refine wp_region_held (S := fun X => spS w B gr zs r X ∧ HIn X v4 pr) (by kernel_rfl) ?_
  show wpAnyH _ _ _ _ _ 7 (Array.replicate 7 false) _ _
  have hS : spS w B gr zs r { w6 with drawn := w6.drawn + 1 } ∧ HIn { w6 with drawn := w6.drawn + 1 } v4 pr := ⟨R6.out.1.next (below_drawn w6 _), R6.out.2.later (below_drawn w6 _)⟩
  refine takeH (i := 0) (some 43) rfl rfl (by kernel_rfl) (by kernel_rfl) (by kernel_rfl) (fun _ _ _ h => h) (yMove rfl (.tmp 2) rfl (whole B 3) rfl) hS ?_
  simp only [Act.put, List.setIfInBounds_toArray, List.set_cons_succ, List.set_cons_zero]
  refine takeH (i := 1) (some 44) rfl rfl (by kernel_rfl) (by kernel_rfl) (by kernel_rfl) (fun _ _ _ h => h) (yRunW rfl _ (fun _ _ => rx_wslot (.tmp 43) (.const (.int .i64 2)) rfl B 3 2 rfl _ rfl rfl (by decide))) hS ?_
  simp only [Act.put, List.setIfInBounds_toArray, List.set_cons_succ, List.set_cons_zero]
  refine takeH (i := 2) (some 45) rfl rfl (by kernel_rfl) (by kernel_rfl) (by kernel_rfl) (fun _ _ _ h => h) (yRunW rfl _ (fun _ hW => rx_load1 one39 (.tmp 44) rfl B 2 rfl (whole (B + 1 + 2) (Cut.piece zs 2).length) (hW.1.1.cell 2 (by rw [HC3.out]; decide)))) hS ?_
  simp only [Act.put, List.setIfInBounds_toArray, List.set_cons_succ, List.set_cons_zero]
  refine takeH (i := 3) (some 46) rfl rfl (by kernel_rfl) (by kernel_rfl) (by kernel_rfl) (fun _ _ _ h => h) (yMove rfl (.tmp 5) rfl (v4) rfl) hS ?_
  simp only [Act.put, List.setIfInBounds_toArray, List.set_cons_succ, List.set_cons_zero]
  refine takeH (i := 4) (some 47) rfl rfl (by kernel_rfl) (by kernel_rfl) (by kernel_rfl) (fun _ _ _ h => h) (yLoad rfl (.tmp 7) rfl (.pointer (some ⟨gr, 0, none⟩)) rfl r (fun _ h => h.1.2.1.at)) hS ?_
  simp only [Act.put, List.setIfInBounds_toArray, List.set_cons_succ, List.set_cons_zero]
  refine oneH (i := 5) (by kernel_rfl) ?_
  refine opCallA (some 48) rfl rfl rfl 25 _ (run_call en25c [.tmp 45, .const (.int .i64 2), .const (.int .i64 130), .tmp 46, .tmp 47] _ rfl [whole (B + 1 + 2) (Cut.piece zs 2).length, .int .i64 2, .int .i64 130, v4, hv r] rfl) ?_
  refine (ccheck_any _ v4 (Cut.piece zs 2) 2 130 pr r _ (hS.1.1.slice HZB.out 2 (by rw [HC3.out]; decide)) hS.2 HRH.out (ht.later hS.1.2.2) (hst.later hS.1.2.2) (by decide) (by decide)).mono ?_
  rw [HK2.out]
  rintro e w7 ⟨rfl, b2⟩
  have hS2 : spS w B gr zs r w7 ∧ HIn w7 v4 pr := ⟨hS.1.next b2, hS.2.later b2⟩
  refine ⟨_, rfl, hS2, ?_⟩
  clear hS b2
  simp only [Act.put, List.setIfInBounds_toArray, List.set_cons_succ, List.set_cons_zero]
  refine takeH (i := 6) (some 8) rfl rfl (by kernel_rfl) (by kernel_rfl) (by kernel_rfl) (fun _ _ _ h => h) (yAssign rfl (.tmp 48) rfl (.bool true) rfl) hS2 ?_
  simp only [Act.put, List.setIfInBounds_toArray, List.set_cons_succ, List.set_cons_zero]
  refine wpAnyH_done (by kernel_rfl) ?_ _
  have R7 : Hid (spS w B gr zs r w7 ∧ HIn w7 v4 pr) := hS2
  clear hS2
  go_wp2_with fail
  refine wp_region_held (S := fun X => spS w B gr zs r X ∧ HIn X v4 pr) (by kernel_rfl) ?_
  show wpAnyH _ _ _ _ _ 7 (Array.replicate 7 false) _ _
  have hS : spS w B gr zs r { w7 with drawn := w7.drawn + 1 } ∧ HIn { w7 with drawn := w7.drawn + 1 } v4 pr := ⟨R7.out.1.next (below_drawn w7 _), R7.out.2.later (below_drawn w7 _)⟩
  refine takeH (i := 0) (some 49) rfl rfl (by kernel_rfl) (by kernel_rfl) (by kernel_rfl) (fun _ _ _ h => h) (yMove rfl (.tmp 2) rfl (whole B 3) rfl) hS ?_
  simp only [Act.put, List.setIfInBounds_toArray, List.set_cons_succ, List.set_cons_zero]
  refine takeH (i := 1) (some 50) rfl rfl (by kernel_rfl) (by kernel_rfl) (by kernel_rfl) (fun _ _ _ h => h) (yRunW rfl _ (fun _ _ => rx_wslot (.tmp 49) (.const (.int .i64 0)) rfl B 3 0 rfl _ rfl rfl (by decide))) hS ?_
  simp only [Act.put, List.setIfInBounds_toArray, List.set_cons_succ, List.set_cons_zero]
  refine takeH (i := 2) (some 51) rfl rfl (by kernel_rfl) (by kernel_rfl) (by kernel_rfl) (fun _ _ _ h => h) (yRunW rfl _ (fun _ hW => rx_load1 one39 (.tmp 50) rfl B 0 rfl (whole (B + 1 + 0) (Cut.piece zs 0).length) (hW.1.1.cell 0 (by rw [HC3.out]; decide)))) hS ?_
  simp only [Act.put, List.setIfInBounds_toArray, List.set_cons_succ, List.set_cons_zero]
  refine takeH (i := 3) (some 52) rfl rfl (by kernel_rfl) (by kernel_rfl) (by kernel_rfl) (fun _ _ _ h => h) (yMove rfl (.tmp 5) rfl (v4) rfl) hS ?_
  simp only [Act.put, List.setIfInBounds_toArray, List.set_cons_succ, List.set_cons_zero]
  refine takeH (i := 4) (some 53) rfl rfl (by kernel_rfl) (by kernel_rfl) (by kernel_rfl) (fun _ _ _ h => h) (yLoad rfl (.tmp 7) rfl (.pointer (some ⟨gr, 0, none⟩)) rfl r (fun _ h => h.1.2.1.at)) hS ?_
  simp only [Act.put, List.setIfInBounds_toArray, List.set_cons_succ, List.set_cons_zero]
  refine oneH (i := 5) (by kernel_rfl) ?_
  refine opCallA (some 54) rfl rfl rfl 25 _ (run_call en25c [.tmp 51, .const (.int .i64 2), .const (.int .i64 130), .tmp 52, .tmp 53] _ rfl [whole (B + 1 + 0) (Cut.piece zs 0).length, .int .i64 2, .int .i64 130, v4, hv r] rfl) ?_
  refine (ccheck_any _ v4 (Cut.piece zs 0) 2 130 pr r _ (hS.1.1.slice HZB.out 0 (by rw [HC3.out]; decide)) hS.2 HRH.out (ht.later hS.1.2.2) (hst.later hS.1.2.2) (by decide) (by decide)).mono ?_
  rw [HK0.out]
  rintro e w8 ⟨rfl, b2⟩
  have hS2 : spS w B gr zs r w8 ∧ HIn w8 v4 pr := ⟨hS.1.next b2, hS.2.later b2⟩
  refine ⟨_, rfl, hS2, ?_⟩
  clear hS b2
  simp only [Act.put, List.setIfInBounds_toArray, List.set_cons_succ, List.set_cons_zero]
  refine takeH (i := 6) (some 9) rfl rfl (by kernel_rfl) (by kernel_rfl) (by kernel_rfl) (fun _ _ _ h => h) (yAssign rfl (.tmp 54) rfl (.bool false) rfl) hS2 ?_
  simp only [Act.put, List.setIfInBounds_toArray, List.set_cons_succ, List.set_cons_zero]
  refine wpAnyH_done (by kernel_rfl) ?_ _
  have R8 : Hid (spS w B gr zs r w8 ∧ HIn w8 v4 pr) := hS2
  clear hS2
  go_wp2_with fail
  go_ret
  exact ⟨rfl, R8.out.1.2.2⟩
end Go.Proofs.YtfnncccioipjcaaDoor

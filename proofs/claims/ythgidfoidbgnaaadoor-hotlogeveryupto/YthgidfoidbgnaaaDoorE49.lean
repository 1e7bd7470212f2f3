/- Layer 14: all that is in use is read as it was. Layer 14: the document's Drop. Layer 14: the stand gives a place up. -/
import Derived.Test.YthgidfoidbgnaaaDoorE48
namespace Go.Proofs.YthgidfoidbgnaaaDoor
open Go.RowKit Go.Maps


/-- bytes that may be spoilt: they lie in a block of their own, B or later -/
def Spl (B : Nat) (W : World) (v : Value) (L : Nat) : Prop := (∃ p c, v = .slice p L c) ∧ (0 < L → ∃ g off cap cur, v = .slice (some ⟨g, off, none⟩) L cap ∧ B ≤ g ∧ Row W g 5 cur ∧ off + L ≤ cur.length)
theorem BNew.spl {B : Nat} {W : World} {v : Value} {cs : List Nat} (h : BNew B W v cs) : Spl B W v cs.length := by
 refine ⟨?_, fun hl => h.2 (fun e => by subst e; exact absurd hl (by decide))⟩
 obtain ⟨p, c, e, _⟩ := h.1
 exact ⟨p, c, e⟩
theorem Spl.step {B : Nat} {W : World} {v : Value} {L : Nat} (h : Spl B W v L) (k : Nat) (hk : k < L) : ∃ g i cur, (∀ w', (Instr.indexAt 28 v (.int .i64 (k : Nat))).run Tryd.prog w' = .ok (.pointer (some ⟨g, i, none⟩)) w') ∧ Row W g 5 cur ∧ i < cur.length ∧ B ≤ g ∧ ∀ x, Spl B (W.setCell ⟨g, i, none⟩ x) v L := by
 obtain ⟨g, off, cap, cur, e, hB, hr, hl⟩ := h.2 (by omega)
 obtain ⟨i5, hi5, hsz⟩ := Option.map_eq_some_iff.1 info5
 refine ⟨g, off + k, cur, fun w' => ?_, hr, by omega, hB, fun x => ⟨h.1, fun _ => ⟨g, off, cap, _, e, hB, hr.setCell (off + k) x, by rw [List.length_set]; exact hl⟩⟩⟩
 rw [e]
 simp [Instr.indexAt, asIntOf, run_underlying und28, hk, sizeOf, typeInfo, hi5, hsz, add_none]
theorem run_lenSpl {w w0 : World} {a : Act} {o : Oper} {B : Nat} {v : Value} {L : Nat} (h : Spl B w0 v L) (x : Operand) (ho : o.op = .call { callee := .builtin .len, args := #[x], argTypes := #[28] }) (hx : a.eval x = v) : (execOp a.eval o).run Tryd.prog w = .ok (.value (.int .i64 (L : Nat))) w := by
 obtain ⟨p, c, rfl⟩ := h.1
 exact run_lenZ sl28 x ho p _ _ hx
theorem row57 {W : World} {v : Value} {k : Nat} {bl : List Value} (h : W.ownsRow 0 28 1 v k bl) (i : Nat) (hi : i < k) : ∃ b, (∀ w', (Instr.indexAt 57 v (.int .i64 (i : Nat))).run Tryd.prog w' = .ok (.pointer (some ⟨b, i * 1, none⟩)) w') ∧ ∀ W' : World, W'.ownsRow 0 28 1 v k bl → W'.cell? ⟨b, i * 1, none⟩ = some (bl.getD i default) := by
 obtain ⟨b, h1, h2, _⟩ := own_index h und57 sz28 i hi
 refine ⟨b, h2, fun W' h' => ?_⟩
 obtain ⟨b', e, _, h3⟩ := own_index h' und57 sz28 i hi
 rw [h1] at e
 injection e with e
 subst e
 have hl : bl.length = k := by have := h'.1; omega
 have h4 := h3 0 (by decide)
 rw [Nat.add_zero] at h4
 rw [h4, Nat.mul_one, List.getD_eq_getElem?_getD, List.getElem?_eq_getElem (by omega), Option.getD_some]
theorem toP_at (us : List (Nat × List Nat)) (i : Nat) (h : i < us.length) : (us.map toP).getD i default = toP (us.getD i default) := by
 simp [List.getD_eq_getElem?_getD, h]
theorem getD_in {α : Type} [Inhabited α] (l : List α) (i : Nat) (h : i < l.length) : l.getD i default ∈ l := by
 rw [List.getD_eq_getElem?_getD, List.getElem?_eq_getElem h, Option.getD_some]
 exact List.getElem_mem h
set_option maxHeartbeats 4000000 in
set_option maxRecDepth 100000 in
theorem sall_any {w W : World} {c : Nat → Colour} {gp gh gf gm gs gr n K : Nat} {m : Pl} {us : List (Nat × List Nat)} {vu vb : Value} {bl : List Value} {ever dims : Nat} (h : HtW w W c gp gh gf gm m n us K) (d : Sd w W c gp gh gf gm gs gr n us vu vb bl ever dims) (hK : K ≤ 1000000000000) : Calls Tryd.prog 14 #[ptr gs] W fun e w' => e = .returned (.bool true) ∧ Below W.heap.size W w' := by
 have HM : Hid ((HtW w W c gp gh gf gm m n us K) ∧ (Sd w W c gp gh gf gm gs gr n us vu vb bl ever dims) ∧ (us.map toP).length = us.length) := ⟨h, d, List.length_map _⟩
 have hul := h.ok.2
 clear h d
 obtain ⟨PQ, HPQ⟩ := exPQ fun (e : Ending) (w' : World) => e = .returned (.bool true) ∧ Below W.heap.size W w'
 rw [← HPQ.out]
 go_enter Tryd.func14, Tryd.ntmps14
 go_upto_region 0 with fail
 refine wp_region_lit ?_
 refine wl rfl (.bool false) _ (run_asZ (.const (.bool false)) rfl (.bool false) rfl) ?_
 simp only [Act.put, aS, aC, aZ]
 refine wpList_nil ?_
 go_upto_region 1 with fail
 refine wp_region_lit ?_
 refine wl rfl (.int .i64 0) _ (run_asZ (.const (.int .i64 0)) rfl (.int .i64 0) rfl) ?_
 simp only [Act.put, aS, aC, aZ]
 refine wpList_nil ?_
 go_wp2_with fail
 go_loopw [3] (fun vi W' => ∃ i : Nat, vi = .int .i64 (i : Nat) ∧ i ≤ us.length ∧ Hid (Below W.heap.size W W')) (fun vi _ => us.length - (intOf vi).toNat)
 case atStart => exact ⟨0, rfl, Nat.zero_le _, Below.refl _ _⟩
 case round =>
  obtain ⟨i, rfl, hi, HI⟩ := hrel
  have HD : Hid ((Sd w wr c gp gh gf gm gs gr n us vu vb bl ever dims) ∧ (HtW w wr c gp gh gf gm m n us K)) := ⟨HM.out.2.1.bel HI.out, HM.out.1.bel HI.out⟩
  by_cases hlt : i < us.length
  ·go_upto_region 2 with fail
   refine wp_region_lit ?_
   refine wl rfl (.int .i64 (i : Nat)) _ (run_mvZ (.tmp 3) rfl (.int .i64 (i : Nat)) rfl) ?_
   refine wl rfl (ptr gs) _ (run_mvZ (.tmp 0) rfl (ptr gs) rfl) ?_
   refine wl rfl (ptr gs) _ (run_nil (.tmp 8) rfl ⟨gs, 0, none⟩ rfl) ?_
   refine wl rfl (.pointer (some ⟨gs, 0 + 2, none⟩)) _ (run_fieldOp' f38_2 (.tmp 9) rfl gs (0) rfl) ?_
   simp only [Act.put, aS, aC, aZ]
   refine wl rfl (ptr gr) _ (run_load1 o36 (.tmp 10) rfl gs (0 + 2) rfl (ptr gr) (HD.out.1.row.at 2 _ rfl)) ?_
   refine wl rfl (ptr gr) _ (run_nil (.tmp 11) rfl ⟨gr, 0, none⟩ rfl) ?_
   refine wl rfl (.pointer (some ⟨gr, 0 + 2, none⟩)) _ (run_fieldOp' f60_2 (.tmp 12) rfl gr (0) rfl) ?_
   refine wl rfl vu _ (run_load1 o43 (.tmp 13) rfl gr (0 + 2) rfl vu (HD.out.1.r.row.at 2 _ rfl)) ?_
   simp only [Act.put, aS, aC, aZ]
   refine wl rfl (.int .i64 (us.length : Nat)) _ (run_lenPI HM.out.2.1.r.u HM.out.2.2 (.tmp 14) rfl rfl) ?_
   refine wl rfl (.bool true) _ (run_lssZ (.tmp 7) (.tmp 15) rfl (i : Nat) (us.length : Nat) rfl rfl true (decide_eq_true (by omega))) ?_
   simp only [Act.put, aS, aC, aZ]
   refine wpList_nil ?_
   obtain ⟨u, hu⟩ : ∃ u, u = us.getD i default := ⟨_, rfl⟩
   obtain ⟨vi, hvi⟩ : ∃ v, v = bl.getD i default := ⟨_, rfl⟩
   have hum : u ∈ us := hu ▸ getD_in us i hlt
   obtain ⟨bu, _, hx_, hc_⟩ := HM.out.2.1.r.u.ix i (by rw [HM.out.2.2]; exact hlt)
   obtain ⟨bb, hxb, hcb⟩ := row57 HM.out.2.1.r.b i hlt
   have hsi := HM.out.2.1.r.s i hlt
   rw [toP_at us i hlt, ← hu] at hc_
   rw [← hvi] at hcb hsi
   rw [← hu] at hsi
   obtain ⟨hh1, hh2, _⟩ := HM.out.1.held u hum
   have HX : Hid ((∀ w', (Instr.indexAt 43 vu (.int .i64 (i : Nat))).run Tryd.prog w' = .ok (.pointer (some ⟨bu, i * 4, none⟩)) w') ∧ (∀ W' : World, PlO W' vu (us.map toP) → ∀ j x, (toP u).cells[j]? = some x → W'.cell? ⟨bu, i * 4 + j, none⟩ = some x) ∧ (∀ w', (Instr.indexAt 57 vb (.int .i64 (i : Nat))).run Tryd.prog w' = .ok (.pointer (some ⟨bb, i * 1, none⟩)) w') ∧ (∀ W' : World, W'.ownsRow 0 28 1 vb us.length bl → W'.cell? ⟨bb, i * 1, none⟩ = some vi) ∧ SliceIn W vi u.2 ∧ u ∈ us ∧ u.2.length ≤ 512) := ⟨hx_, hc_, hxb, hcb, BOwn.slice hsi.1 hh2 (by omega), hum, hh1⟩
   clear hu hvi hum hx_ hc_ hxb hcb hsi hh1 hh2
   go_upto_region 4 with fail
   refine wp_region_held (S := fun X => Row X gs 38 (scells gp gh gr (ever : Nat) (dims : Nat)) ∧ Row X gr 60 [.int .i64 1, .int .i64 (n : Nat), vu, vb] ∧ PlO X vu (us.map toP)) (by kernel_rfl) ?_
   show wpAnyH _ _ _ _ _ 20 (Array.replicate 20 false) _ _
   obtain ⟨X, hX⟩ : ∃ X : World, X = { wr with drawn := wr.drawn + 1 } := ⟨_, rfl⟩
   rw [← hX]
   have HBX : Hid (Below wr.heap.size wr X) := (by rw [hX]; exact ⟨rfl, rfl, rfl, Nat.le_refl _, fun _ _ => rfl⟩)
   replace HI : Hid (Below W.heap.size W X) := HI.out.trans (HBX.out.mono HI.out.size)
   replace HD : Hid ((Sd w X c gp gh gf gm gs gr n us vu vb bl ever dims) ∧ (HtW w X c gp gh gf gm m n us K)) := ⟨HD.out.1.bel HBX.out, HD.out.2.bel HBX.out⟩
   clear HBX
   have HS_ : Row X gs 38 (scells gp gh gr (ever : Nat) (dims : Nat)) ∧ Row X gr 60 [.int .i64 1, .int .i64 (n : Nat), vu, vb] ∧ PlO X vu (us.map toP) := ⟨HD.out.1.row, HD.out.1.r.row, HD.out.1.r.u⟩
   clear hX
   refine tH 0 20 rfl rfl (gRun rfl (ptr gs) fun _ h => run_mvZ (.tmp 0) rfl (ptr gs) rfl) HS_ ?_
   refine tH 1 21 rfl rfl (gRun rfl (ptr gs) fun _ h => run_nil (.tmp 20) rfl ⟨gs, 0, none⟩ rfl) HS_ ?_
   refine tH 2 22 rfl rfl (gRun rfl (.pointer (some ⟨gs, 0 + 1, none⟩)) fun _ h => run_fieldOp' f38_1 (.tmp 21) rfl gs (0) rfl) HS_ ?_
   refine tH 3 23 rfl rfl (gRun rfl (ptr gh) fun _ h => run_load1 o35 (.tmp 22) rfl gs (0 + 1) rfl (ptr gh) (h.1.at 1 _ rfl)) HS_ ?_
   simp only [Act.put, aS, aC, aZ]
   refine tH 4 24 rfl rfl (gRun rfl (ptr gs) fun _ h => run_mvZ (.tmp 0) rfl (ptr gs) rfl) HS_ ?_
   refine tH 5 25 rfl rfl (gRun rfl (ptr gs) fun _ h => run_nil (.tmp 24) rfl ⟨gs, 0, none⟩ rfl) HS_ ?_
   refine tH 6 26 rfl rfl (gRun rfl (.pointer (some ⟨gs, 0 + 2, none⟩)) fun _ h => run_fieldOp' f38_2 (.tmp 25) rfl gs (0) rfl) HS_ ?_
   refine tH 7 27 rfl rfl (gRun rfl (ptr gr) fun _ h => run_load1 o36 (.tmp 26) rfl gs (0 + 2) rfl (ptr gr) (h.1.at 2 _ rfl)) HS_ ?_
   simp only [Act.put, aS, aC, aZ]
   refine tH 8 28 rfl rfl (gRun rfl (ptr gr) fun _ h => run_nil (.tmp 27) rfl ⟨gr, 0, none⟩ rfl) HS_ ?_
   refine tH 9 29 rfl rfl (gRun rfl (.pointer (some ⟨gr, 0 + 2, none⟩)) fun _ h => run_fieldOp' f60_2 (.tmp 28) rfl gr (0) rfl) HS_ ?_
   refine tH 10 30 rfl rfl (gRun rfl vu fun _ h => run_load1 o43 (.tmp 29) rfl gr (0 + 2) rfl vu (h.2.1.at 2 _ rfl)) HS_ ?_
   refine tH 11 31 rfl rfl (gRun rfl (.int .i64 (i : Nat)) fun _ h => run_mvZ (.tmp 3) rfl (.int .i64 (i : Nat)) rfl) HS_ ?_
   simp only [Act.put, aS, aC, aZ]
   refine tH 12 32 rfl rfl (gRun rfl (.pointer (some ⟨bu, i * 4, none⟩)) fun _ h => run_idx (.tmp 30) (.tmp 31) rfl _ _ _ rfl rfl HX.out.1) HS_ ?_
   refine tH 13 33 rfl rfl (gRun rfl (.agg ((toP u).cells).toArray) fun _ h => run_loadA ag30 (.tmp 32) rfl bu (i * 4) rfl ((toP u).cells) rfl (HX.out.2.1 _ h.2.2)) HS_ ?_
   simp only [Act.put, aS, aC, aZ]
   refine oneH (i := 14) (by kernel_rfl) ?_
   refine opCallG (some 34) rfl rfl rfl 25 _ (run_call eN25 [.tmp 23, .tmp 33] _ rfl [(ptr gh), (.agg ((toP u).cells).toArray)] rfl) ?_
   refine (HD.out.2.read hK HX.out.2.2.2.2.2.1 false).mono ?_
   rintro e Y1 ⟨v, rfl, hv_, hb_⟩
   refine ⟨_, rfl, ?_⟩
   have HV : Hid (BNew W.heap.size Y1 v u.2) := hv_.mono HI.out.size
   replace HI : Hid (Below W.heap.size W Y1) := HI.out.trans (hb_.mono HI.out.size)
   replace HD : Hid ((Sd w Y1 c gp gh gf gm gs gr n us vu vb bl ever dims) ∧ (HtW w Y1 c gp gh gf gm m n us K)) := ⟨HD.out.1.bel hb_, HD.out.2.bel hb_⟩
   replace HS_ : Row Y1 gs 38 (scells gp gh gr (ever : Nat) (dims : Nat)) ∧ Row Y1 gr 60 [.int .i64 1, .int .i64 (n : Nat), vu, vb] ∧ PlO Y1 vu (us.map toP) := ⟨HD.out.1.row, HD.out.1.r.row, HD.out.1.r.u⟩
   clear hv_ hb_
   refine ⟨HS_, ?_⟩
   simp only [Act.put, aS, aC, aZ]
   refine tH 15 19 rfl rfl (gRun rfl (.tuple #[v, (.int .i64 0)]) fun _ h => run_mvZ (.tmp 34) rfl (.tuple #[v, (.int .i64 0)]) rfl) HS_ ?_
   refine tH 16 35 rfl rfl (gRun rfl v fun _ h => run_extZ (.tmp 19) 0 rfl #[v, (.int .i64 0)] rfl v rfl) HS_ ?_
   refine tH 17 36 rfl rfl (gRun rfl (.int .i64 0) fun _ h => run_extZ (.tmp 19) 1 rfl #[v, (.int .i64 0)] rfl (.int .i64 0) rfl) HS_ ?_
   refine tH 18 4 rfl rfl (gRun rfl v fun _ h => run_asZ (.tmp 35) rfl v rfl) HS_ ?_
   simp only [Act.put, aS, aC, aZ]
   refine tH 19 5 rfl rfl (gRun rfl (.int .i64 0) fun _ h => run_asZ (.tmp 36) rfl (.int .i64 0) rfl) HS_ ?_
   simp only [Act.put, aS, aC, aZ]
   refine wpAnyH_done (by kernel_rfl) ?_ _
   go_upto_region 5 with fail
   refine wp_region_held (S := fun X => Row X gs 38 (scells gp gh gr (ever : Nat) (dims : Nat)) ∧ Row X gr 60 [.int .i64 1, .int .i64 (n : Nat), vu, vb] ∧ X.ownsRow 0 28 1 vb us.length bl ∧ SliceIn X v u.2 ∧ SliceIn X vi u.2) (by kernel_rfl) ?_
   show wpAnyH _ _ _ _ _ 18 (Array.replicate 18 false) _ _
   obtain ⟨X, hX⟩ : ∃ X : World, X = { Y1 with drawn := Y1.drawn + 1 } := ⟨_, rfl⟩
   rw [← hX]
   have HBX : Hid (Below Y1.heap.size Y1 X) := (by rw [hX]; exact ⟨rfl, rfl, rfl, Nat.le_refl _, fun _ _ => rfl⟩)
   replace HI : Hid (Below W.heap.size W X) := HI.out.trans (HBX.out.mono HI.out.size)
   replace HD : Hid ((Sd w X c gp gh gf gm gs gr n us vu vb bl ever dims) ∧ (HtW w X c gp gh gf gm m n us K)) := ⟨HD.out.1.bel HBX.out, HD.out.2.bel HBX.out⟩
   replace HV : Hid (BNew W.heap.size X v u.2) := HV.out.later HBX.out
   clear HBX
   clear HS_
   have HS_ : Row X gs 38 (scells gp gh gr (ever : Nat) (dims : Nat)) ∧ Row X gr 60 [.int .i64 1, .int .i64 (n : Nat), vu, vb] ∧ X.ownsRow 0 28 1 vb us.length bl ∧ SliceIn X v u.2 ∧ SliceIn X vi u.2 := ⟨HD.out.1.row, HD.out.1.r.row, HD.out.1.r.b, HV.out.1, sliceK HX.out.2.2.2.2.1 fun b _ hlt => HI.out.block b hlt⟩
   clear hX
   refine tH 0 37 rfl rfl (gRun rfl (.int .i64 0) fun _ h => run_mvZ (.tmp 5) rfl (.int .i64 0) rfl) HS_ ?_
   refine tH 1 38 rfl rfl (gRun rfl (.bool false) fun _ h => run_neZ (.tmp 37) (.const (.int .i64 0)) rfl (0) (0) rfl rfl false rfl) HS_ ?_
   refine tH 2 39 rfl rfl (gRun rfl (.bool false) fun _ h => run_mvZ (.tmp 38) rfl (.bool false) rfl) HS_ ?_
   refine tH 3 40 rfl rfl (gRun (by kernel_rfl) v fun _ h => run_mvZ (.tmp 4) rfl v rfl) HS_ ?_
   simp only [Act.put, aS, aC, aZ]
   refine tH 4 41 rfl rfl (gRun (by kernel_rfl) (.string (strOfNums (u.2.map Int.ofNat))) fun _ h => run_str (.tmp 40) rfl v u.2 rfl h.2.2.2.1) HS_ ?_
   refine tH 5 42 rfl rfl (gRun (by kernel_rfl) (ptr gs) fun _ h => run_mvZ (.tmp 0) rfl (ptr gs) rfl) HS_ ?_
   refine tH 6 43 rfl rfl (gRun (by kernel_rfl) (ptr gs) fun _ h => run_nil (.tmp 42) rfl ⟨gs, 0, none⟩ rfl) HS_ ?_
   refine tH 7 44 rfl rfl (gRun (by kernel_rfl) (.pointer (some ⟨gs, 0 + 2, none⟩)) fun _ h => run_fieldOp' f38_2 (.tmp 43) rfl gs (0) rfl) HS_ ?_
   simp only [Act.put, aS, aC, aZ]
   refine tH 8 45 rfl rfl (gRun (by kernel_rfl) (ptr gr) fun _ h => run_load1 o36 (.tmp 44) rfl gs (0 + 2) rfl (ptr gr) (h.1.at 2 _ rfl)) HS_ ?_
   refine tH 9 46 rfl rfl (gRun (by kernel_rfl) (ptr gr) fun _ h => run_nil (.tmp 45) rfl ⟨gr, 0, none⟩ rfl) HS_ ?_
   refine tH 10 47 rfl rfl (gRun (by kernel_rfl) (.pointer (some ⟨gr, 0 + 3, none⟩)) fun _ h => run_fieldOp' f60_3 (.tmp 46) rfl gr (0) rfl) HS_ ?_
   refine tH 11 48 rfl rfl (gRun (by kernel_rfl) vb fun _ h => run_load1 o57 (.tmp 47) rfl gr (0 + 3) rfl vb (h.2.1.at 3 _ rfl)) HS_ ?_
   simp only [Act.put, aS, aC, aZ]
   refine tH 12 49 rfl rfl (gRun (by kernel_rfl) (.int .i64 (i : Nat)) fun _ h => run_mvZ (.tmp 3) rfl (.int .i64 (i : Nat)) rfl) HS_ ?_
   refine tH 13 50 rfl rfl (gRun (by kernel_rfl) (.pointer (some ⟨bb, i * 1, none⟩)) fun _ h => run_idx (.tmp 48) (.tmp 49) rfl _ _ _ rfl rfl HX.out.2.2.1) HS_ ?_
   refine tH 14 51 rfl rfl (gRun (by kernel_rfl) vi fun _ h => run_load1 o28 (.tmp 50) rfl bb (i * 1) rfl vi (HX.out.2.2.2.1 _ h.2.2.1)) HS_ ?_
   refine tH 15 52 rfl rfl (gRun (by kernel_rfl) (.string (strOfNums (u.2.map Int.ofNat))) fun _ h => run_str (.tmp 51) rfl vi u.2 rfl h.2.2.2.2) HS_ ?_
   simp only [Act.put, aS, aC, aZ]
   refine tH 16 53 rfl rfl (gRun (by kernel_rfl) (.bool false) fun _ h => run_neS (.tmp 41) (.tmp 52) rfl (strOfNums (u.2.map Int.ofNat)) rfl rfl) HS_ ?_
   refine tH 17 54 rfl rfl (gRun rfl (.bool false) fun _ h => run_pickZ (.tmp 39) (.const (.bool true)) (.tmp 53) rfl false (.bool false) rfl rfl) HS_ ?_
   simp only [Act.put, aS, aC, aZ]
   refine wpAnyH_done (by kernel_rfl) ?_ _
   obtain ⟨Y2, hY2⟩ : ∃ U_ : World, U_ = X := ⟨_, rfl⟩
   rw [← hY2]
   have HP : Hid (Spl W.heap.size Y2 v u.2.length ∧ Below W.heap.size W Y2) := (by rw [hY2]; exact ⟨HV.out.spl, HI.out⟩)
   clear HS_ HV HI HD hY2
   go_upto_region 7 with fail
   refine wp_region_lit ?_
   refine wl rfl (.int .i64 0) _ (run_asZ (.const (.int .i64 0)) rfl (.int .i64 0) rfl) ?_
   simp only [Act.put, aS, aC, aZ]
   refine wpList_nil ?_
   go_wp2_with fail
   go_loopw [6] (fun vk W' => ∃ k : Nat, vk = .int .i64 (k : Nat) ∧ k ≤ u.2.length ∧ Hid (Spl W.heap.size W' v u.2.length ∧ Below W.heap.size W W')) (fun vk _ => u.2.length - (intOf vk).toNat)
   case atStart => exact ⟨0, rfl, Nat.zero_le _, HP⟩
   case round =>
    obtain ⟨k, rfl, hk, HJ⟩ := hrel
    have hu5 : u.2.length ≤ 512 := HX.out.2.2.2.2.2.2
    by_cases hlk : k < u.2.length
    ·go_upto_region 8 with fail
     refine wp_region_lit ?_
     refine wl rfl (.int .i64 (k : Nat)) _ (run_mvZ (.tmp 6) rfl (.int .i64 (k : Nat)) rfl) ?_
     refine wl rfl v _ (run_mvZ (.tmp 4) rfl v rfl) ?_
     refine wl rfl (.int .i64 (u.2.length : Nat)) _ (run_lenSpl HJ.out.1 (.tmp 56) rfl rfl) ?_
     refine wl rfl (.bool true) _ (run_lssZ (.tmp 55) (.tmp 57) rfl (k : Nat) (u.2.length : Nat) rfl rfl true (decide_eq_true (by omega))) ?_
     simp only [Act.put, aS, aC, aZ]
     refine wpList_nil ?_
     obtain ⟨sb, si, cur, hix, hrow, hcl, hsB, hset⟩ := HJ.out.1.step k hlk
     have HSP : Hid ((∀ w', (Instr.indexAt 28 v (.int .i64 (k : Nat))).run Tryd.prog w' = .ok (.pointer (some ⟨sb, si, none⟩)) w') ∧ Row wr sb 5 cur) := ⟨hix, hrow⟩
     have HZ : Hid (Spl W.heap.size (wr.setCell ⟨sb, si, none⟩ (.int .u8 99)) v u.2.length ∧ Below W.heap.size W (wr.setCell ⟨sb, si, none⟩ (.int .u8 99))) := ⟨hset _, HJ.out.2.trans (((Ch.refl (· = sb) wr).setCell (Or.inl rfl) si (.int .u8 99)).below HJ.out.2.size fun j hj e => by omega)⟩
     clear hix hrow hset hsB
     go_upto_region 10 with fail
     refine wp_region_lit ?_
     refine wl rfl v _ (run_mvZ (.tmp 4) rfl v rfl) ?_
     refine wl rfl (.int .i64 (k : Nat)) _ (run_mvZ (.tmp 6) rfl (.int .i64 (k : Nat)) rfl) ?_
     refine wl rfl (.pointer (some ⟨sb, si, none⟩)) _ (run_idx (.tmp 61) (.tmp 62) rfl _ _ _ rfl rfl HSP.out.1) ?_
     simp only [Act.put, aS, aC, aZ]
     refine wlS rfl rfl _ (run_putRow (t := 5) info5 (.tmp 63) (.const (.int .u8 99)) rfl sb si 5 cur rfl (.int .u8 99) rfl ⟨rfl, rfl⟩ HSP.out.2 hcl) ?_
     obtain ⟨wz, hW_⟩ : ∃ U_ : World, U_ = wr.setCell ⟨sb, si, none⟩ (.int .u8 99) := ⟨_, rfl⟩
     rw [← hW_] at HZ ⊢
     clear hW_
     refine wpList_nil ?_
     go_wp2_with fail
     refine ⟨⟨k + 1, by go_num, by omega, HZ⟩, ?_⟩
     simp [intOf]; omega
    ·go_upto_region 8 with fail
     refine wp_region_lit ?_
     refine wl rfl (.int .i64 (k : Nat)) _ (run_mvZ (.tmp 6) rfl (.int .i64 (k : Nat)) rfl) ?_
     refine wl rfl v _ (run_mvZ (.tmp 4) rfl v rfl) ?_
     refine wl rfl (.int .i64 (u.2.length : Nat)) _ (run_lenSpl HJ.out.1 (.tmp 56) rfl rfl) ?_
     refine wl rfl (.bool false) _ (run_lssZ (.tmp 55) (.tmp 57) rfl (k : Nat) (u.2.length : Nat) rfl rfl false (decide_eq_false (by omega))) ?_
     simp only [Act.put, aS, aC, aZ]
     refine wpList_nil ?_
     go_wp2_with fail
     refine ⟨⟨i + 1, by go_num, by omega, HJ.out.2⟩, ?_⟩
     simp [intOf]; omega
  ·go_upto_region 2 with fail
   refine wp_region_lit ?_
   refine wl rfl (.int .i64 (i : Nat)) _ (run_mvZ (.tmp 3) rfl (.int .i64 (i : Nat)) rfl) ?_
   refine wl rfl (ptr gs) _ (run_mvZ (.tmp 0) rfl (ptr gs) rfl) ?_
   refine wl rfl (ptr gs) _ (run_nil (.tmp 8) rfl ⟨gs, 0, none⟩ rfl) ?_
   refine wl rfl (.pointer (some ⟨gs, 0 + 2, none⟩)) _ (run_fieldOp' f38_2 (.tmp 9) rfl gs (0) rfl) ?_
   simp only [Act.put, aS, aC, aZ]
   refine wl rfl (ptr gr) _ (run_load1 o36 (.tmp 10) rfl gs (0 + 2) rfl (ptr gr) (HD.out.1.row.at 2 _ rfl)) ?_
   refine wl rfl (ptr gr) _ (run_nil (.tmp 11) rfl ⟨gr, 0, none⟩ rfl) ?_
   refine wl rfl (.pointer (some ⟨gr, 0 + 2, none⟩)) _ (run_fieldOp' f60_2 (.tmp 12) rfl gr (0) rfl) ?_
   refine wl rfl vu _ (run_load1 o43 (.tmp 13) rfl gr (0 + 2) rfl vu (HD.out.1.r.row.at 2 _ rfl)) ?_
   simp only [Act.put, aS, aC, aZ]
   refine wl rfl (.int .i64 (us.length : Nat)) _ (run_lenPI HM.out.2.1.r.u HM.out.2.2 (.tmp 14) rfl rfl) ?_
   refine wl rfl (.bool false) _ (run_lssZ (.tmp 7) (.tmp 15) rfl (i : Nat) (us.length : Nat) rfl rfl false (decide_eq_false (by omega))) ?_
   simp only [Act.put, aS, aC, aZ]
   refine wpList_nil ?_
   go_upto_region 11 with fail
   refine wp_region_lit ?_
   refine wl rfl (.bool true) _ (run_asZ (.const (.bool true)) rfl (.bool true) rfl) ?_
   simp only [Act.put, aS, aC, aZ]
   refine wpList_nil ?_
   go_wp2_with fail
   rw [HPQ.out]
   exact ⟨rfl, HI.out⟩

end Go.Proofs.YthgidfoidbgnaaaDoor

namespace Go.Proofs.YthgidfoidbgnaaaDoor
open Go.RowKit Go.Maps


/-- a row of slices of bytes -/
def BL (W : World) (v : Value) (l : List Value) : Prop := W.ownsRow 0 28 1 v l.length l
theorem elem57 : Tryd.prog.elem 57 = 28 := by kernel_rfl
theorem cut_row7 {w : World} {v : Value} {l : List Value} (h : BL w v l) (a b : Nat) (hab : a ≤ b) (hb : b ≤ l.length) (cap m : Nat) (hm : b ≤ m) (hv : ∃ p, v = .slice p l.length cap) :
  ∃ p, v = .slice p l.length cap ∧ ((∃ ad, (sliced p a b m 1) = .slice (some ad) ((l.take b).drop a).length (m - a) ∧ ∀ W : World, (∀ k, v.ownBlock = some k → W.heap[k]? = w.heap[k]?) → ∀ j u, ((l.take b).drop a)[j]? = some u → W.cell? (ad.add j) = some u) ∨ (l = [] ∧ sliced p a b m 1 = .slice none 0 (m - a))) := by
 obtain ⟨p, rfl⟩ := hv
 refine ⟨p, rfl, ?_⟩
 have hlen : ((l.take b).drop a).length = b - a := by simp; omega
 rcases h.2 with ⟨e, h0⟩ | ⟨g, cap', cur, e, _, hg, hcap, hmax, hsz, htake⟩
 ·injection e with e1 e2 e3
  subst e1
  have hl0 : l = [] := List.length_eq_zero_iff.1 h0
  refine Or.inr ⟨hl0, ?_⟩
  unfold sliced
  have ha : a = 0 := by omega
  have hbb : b = 0 := by omega
  subst ha
  subst hbb
  split <;> rfl
 ·injection e with e1 e2 e3
  subst e1
  left
  have key : ∀ W : World, (∀ k, (Value.slice (some ⟨g, 0, none⟩) l.length cap).ownBlock = some k → W.heap[k]? = w.heap[k]?) → ∀ q, q < l.length * 1 → W.cell? ⟨g, q, none⟩ = l[q]? := fun W hW q hq => by
   have h1 := hW g rfl
   have h2 := own_cellAt (ownK h hW) q hq
   exact h2
  unfold sliced
  by_cases hz : m = a
  ·rw [if_pos hz, hlen]
   refine ⟨_, rfl, fun W hW j u hu => ?_⟩
   have : (l.take b).drop a = [] := List.length_eq_zero_iff.1 (by rw [hlen]; omega)
   rw [this] at hu
   simp at hu
  ·rw [if_neg hz, hlen]
   refine ⟨_, rfl, fun W hW j u hu => ?_⟩
   have hj := (List.getElem?_eq_some_iff.1 hu).1
   rw [hlen] at hj
   dsimp only
   rw [add_none, add_none, Nat.zero_add, key W hW (a * 1 + j) (by omega), ← hu, List.getElem?_drop, List.getElem?_take, if_pos (by omega), Nat.mul_one]
theorem cut_to7 {w : World} {v : Value} {l : List Value} (h : BL w v l) (k : Nat) (hk : k < l.length) : ∃ v1 ad c, (∀ w', (Instr.slice 57 v none (some (.int .i64 (k : Nat))) none).run Tryd.prog w' = .ok v1 w') ∧ v1 = .slice (some ad) (l.take k).length c ∧ ∀ W : World, (∀ q, v.ownBlock = some q → W.heap[q]? = w.heap[q]?) → ∀ j u, (l.take k)[j]? = some u → W.cell? (ad.add j) = some u := by
 obtain ⟨i, hi3, hsz⟩ := Option.map_eq_some_iff.1 sz28
 have hsize : ∀ w' : World, (sizeOf 28).run Tryd.prog w' = .ok 1 w' := fun w' => by simp [sizeOf, typeInfo, hi3, hsz]
 have hv : ∃ p cap, v = .slice p l.length cap ∧ l.length ≤ cap := by
  rcases h.2 with ⟨rfl, h0⟩ | ⟨g, cap, cur, rfl, _, _, hc, _⟩
  ·omega
  ·exact ⟨_, cap, rfl, hc⟩
 obtain ⟨p, cap, rfl, hcap⟩ := hv
 obtain ⟨p', e, hc⟩ := cut_row7 h 0 k (Nat.zero_le _) (by omega) cap cap (by omega) ⟨p, rfl⟩
 injection e with e
 subst e
 rcases hc with ⟨ad, e2, hc⟩ | ⟨e2, _⟩
 ·refine ⟨sliced p 0 k cap 1, ad, cap - 0, fun w' => by rw [run_slice_h _ _ _ _ _ sl57 _ _ (by omega) (by omega), elem57, hsize]; rfl, by rw [e2]; simp, fun W hW j u hu => hc W hW j u (by simpa using hu)⟩
 ·rw [e2] at hk; simp at hk
theorem cut_from7 {w : World} {v : Value} {l : List Value} (h : BL w v l) (k : Nat) (hk : k < l.length) : ∃ v1 ad c, (∀ w', (Instr.slice 57 v (some (.int .i64 ((k + 1 : Nat) : Int))) none none).run Tryd.prog w' = .ok v1 w') ∧ v1 = .slice (some ad) (l.drop (k + 1)).length c ∧ ∀ W : World, (∀ q, v.ownBlock = some q → W.heap[q]? = w.heap[q]?) → ∀ j u, (l.drop (k + 1))[j]? = some u → W.cell? (ad.add j) = some u := by
 obtain ⟨i, hi3, hsz⟩ := Option.map_eq_some_iff.1 sz28
 have hsize : ∀ w' : World, (sizeOf 28).run Tryd.prog w' = .ok 1 w' := fun w' => by simp [sizeOf, typeInfo, hi3, hsz]
 have hv : ∃ p cap, v = .slice p l.length cap ∧ l.length ≤ cap := by
  rcases h.2 with ⟨rfl, h0⟩ | ⟨g, cap, cur, rfl, _, _, hc, _⟩
  ·omega
  ·exact ⟨_, cap, rfl, hc⟩
 obtain ⟨p, cap, rfl, hcap⟩ := hv
 obtain ⟨p', e, hc⟩ := cut_row7 h (k + 1) l.length (by omega) (Nat.le_refl _) cap cap hcap ⟨p, rfl⟩
 injection e with e
 subst e
 rcases hc with ⟨ad, e2, hc⟩ | ⟨e2, _⟩
 ·refine ⟨sliced p (k + 1) l.length cap 1, ad, cap - (k + 1), fun w' => by rw [run_slice_l _ _ _ _ _ sl57 _ _ (by omega) (by omega), elem57, hsize]; rfl, by rw [e2]; simp, fun W hW j u hu => hc W hW j u (by simpa using hu)⟩
 ·rw [e2] at hk; simp at hk
theorem run_sub57 {w : World} {a : Act} {o : Oper} (x : Operand) (lo hi : Option Operand) (ho : o.op = .slice 57 x lo hi none) (v v' : Value) (hv : ∃ p n c, v = .slice p n c) (hx : a.eval x = v) (l h : Option Value) (hl : lo.map a.eval = l) (hh : hi.map a.eval = h) (hr : ∀ w', (Instr.slice 57 v l h none).run Tryd.prog w' = .ok v' w') : (execOp a.eval o).run Tryd.prog w = .ok (.value v') w := by
 subst hl hh
 obtain ⟨p, n, c, rfl⟩ := hv
 simp [execOp, ho, hx, run_sliceAt_slice _ _ _ _ _ _ sl57, hr]

theorem run_app57 {w : World} (ty : TypeId) (v : Value) (l m : List Value) (hown : BL w v l) (vx : Value) (ad : Addr) (c : Nat) (hx : vx = .slice (some ad) m.length c) (hc : ∀ j u, m[j]? = some u → w.cell? (ad.add j) = some u) (h1 : ∀ u ∈ m, u.oneCell' = true) (hsz : l.length + m.length ≤ 100000000) :
  ∃ v' w', (Builtin.append_ #[57, 57] ty #[v, vx]).run Tryd.prog w = .ok v' w' ∧ BL w' v' (l ++ m) ∧ w.grownBy w' v.ownBlock ∧ (v'.ownBlock = v.ownBlock ∨ v'.ownBlock = some w.heap.size) := by
 obtain ⟨i, hi, hz0, hz1, hz2⟩ := info_parts info28z
 subst hx
 obtain ⟨v', w', hr, ho', hg, _, hat⟩ := run_append_own_at (P := Tryd.prog) (w := w) 0 57 ty 28 i (.slice none 0 0) 1 24 und57 hi hz0 hz1 hz2 rfl (by decide) v l.length l hown
   ad m.length c m (by simp) hc h1 (by unfold maxLen; omega) (by omega) (Nat.zero_le _)
 refine ⟨v', w', hr, ?_, hg, hat⟩
 unfold BL
 rw [List.length_append]
 exact ho'
theorem run_lit57z {w : World} {a : Act} {o : Oper} (ho : o.op = .buildSlice 57 0 #[]) : (execOp a.eval o).run Tryd.prog w = .ok (.value (.slice (some ⟨w.heap.size, 0, none⟩) 0 0)) (w.alloc (.cells #[] 28)) := by
 have hr : (Instr.buildSlice 57 0 #[]).run Tryd.prog w = .ok (.slice (some ⟨w.heap.size, 0, none⟩) 0 0) (w.alloc (.cells #[] 28)) := by kernel_rfl
 simp only [execOp, ho, hr, List.map_toArray, List.map_nil, Sem.run_bind, Sem.run_pure, Result.andThen_ok]
theorem lit57_row (w : World) : BL (w.alloc (.cells #[] 28)) (.slice (some ⟨w.heap.size, 0, none⟩) 0 0) [] := World.ownsRow_made w #[] 0 (Nat.zero_le _) (Nat.zero_le _) rfl
/-- all but one -/
def but {α : Type} (l : List α) (k : Nat) : List α := l.take k ++ l.drop (k + 1)
theorem but_length {α : Type} (l : List α) (k : Nat) (h : k < l.length) : (but l k).length + 1 = l.length := by
 unfold but
 rw [List.length_append, List.length_take, List.length_drop]
 omega
theorem but_at {α : Type} [Inhabited α] (l : List α) (k i : Nat) (h : k < l.length) : (but l k).getD i default = l.getD (if i < k then i else i + 1) default := by
 unfold but
 rw [List.getD_eq_getElem?_getD, List.getD_eq_getElem?_getD]
 by_cases hi : i < k
 ·rw [if_pos hi, List.getElem?_append_left (by rw [List.length_take]; omega), List.getElem?_take, if_pos hi]
 ·rw [if_neg hi, List.getElem?_append_right (by rw [List.length_take]; omega), List.length_take, List.getElem?_drop]
  congr 2
  omega
set_option maxHeartbeats 4000000 in
set_option maxRecDepth 100000 in
theorem drop_any {w W : World} {c : Nat → Colour} {gp gh gf gm gr n K : Nat} {m : Pl} {us us0 : List (Nat × List Nat)} {vu vb : Value} {bl : List Value} (h : HtW w W c gp gh gf gm m n us0 K) (r : RfB w W c gh gf gm gr n us vu vb bl) (k : Nat) (hk : k < us.length) (hl : us.length ≤ 1000000) : Calls Tryd.prog 27 #[ptr gr, .int .i64 (k : Nat)] W fun e w' => e = .returned noResult ∧ Ch (· = gr) W w' ∧ ∃ vu' vb', RfB w w' c gh gf gm gr n (but us k) vu' vb' (but bl k) := by
 have hbl := r.len
 have HM : Hid (HtW w W c gp gh gf gm m n us0 K ∧ (RfB w W c gh gf gm gr n us vu vb bl) ∧ BL W vb bl ∧ (us.map toP).length = us.length ∧ ∀ v ∈ bl, v.oneCell' = true) := ⟨h, r, (by unfold BL; rw [hbl]; exact r.b), List.length_map _, fun v hv => (by
  obtain ⟨i, hi, rfl⟩ := List.getElem_of_mem hv
  have h1 := (own_cells (r.s i (by omega)).1).2
  rwa [List.getD_eq_getElem?_getD, List.getElem?_eq_getElem hi, Option.getD_some] at h1)⟩
 clear h r
 obtain ⟨PQ, HPQ⟩ := exPQ fun (e : Ending) (w' : World) => e = .returned noResult ∧ Ch (· = gr) W w' ∧ ∃ vu' vb', RfB w w' c gh gf gm gr n (but us k) vu' vb' (but bl k)
 rw [← HPQ.out]
 go_enter Tryd.func27, Tryd.ntmps27
 have HF0 : Hid ((Row W gr 60 [.int .i64 1, .int .i64 (n : Nat), vu, vb]) ∧ PlO W vu (us.map toP) ∧ True) := ⟨HM.out.2.1.row, HM.out.2.1.u, trivial⟩
 obtain ⟨va0, ada, ca, hra, hva, hca⟩ := cut_to HF0.out.2.1 k (by first | (rw [HM.out.2.2.2.1]; exact hk) | omega)
 obtain ⟨vd0, adb, cb, hrb, hvb, hcb⟩ := cut_from HF0.out.2.1 k (by first | (rw [HM.out.2.2.2.1]; exact hk) | omega)
 rw [← List.map_take] at hva hca
 rw [← List.map_drop] at hvb hcb
 have HCU : Hid ((∀ w', (Instr.slice 43 vu none (some (.int .i64 (k : Nat))) none).run Tryd.prog w' = .ok va0 w') ∧ va0 = .slice (some ada) ((us.take k).map toP).length ca ∧ (∀ W' : World, (∀ q, vu.ownBlock = some q → W'.heap[q]? = W.heap[q]?) → ∀ j x, (pcl ((us.take k).map toP))[j]? = some x → W'.cell? (ada.add j) = some x)) := ⟨hra, hva, hca⟩
 have HCV : Hid ((∀ w', (Instr.slice 43 vu (some (.int .i64 ((k + 1 : Nat) : Int))) none none).run Tryd.prog w' = .ok vd0 w') ∧ vd0 = .slice (some adb) ((us.drop (k + 1)).map toP).length cb ∧ (∀ W' : World, (∀ q, vu.ownBlock = some q → W'.heap[q]? = W.heap[q]?) → ∀ j x, (pcl ((us.drop (k + 1)).map toP))[j]? = some x → W'.cell? (adb.add j) = some x)) := ⟨hrb, hvb, hcb⟩
 clear hra hva hca hrb hvb hcb
 go_upto_region 0 with fail
 refine wp_region_until (S := fun X => Row X gr 60 [.int .i64 1, .int .i64 (n : Nat), vu, vb]) 19 (by kernel_rfl) ?_
 show wpAnyU _ _ _ _ _ _ 20 (Array.replicate 20 false) _ _
 obtain ⟨X, hX⟩ : ∃ X : World, X = { W with drawn := W.drawn + 1 } := ⟨_, rfl⟩
 rw [← hX]
 have HBX : Hid (Below W.heap.size W X) := (by rw [hX]; exact ⟨rfl, rfl, rfl, Nat.le_refl _, fun _ _ => rfl⟩)
 have HS_ : Row X gr 60 [.int .i64 1, .int .i64 (n : Nat), vu, vb] := HF0.out.1.later HBX.out HF0.out.1.lt
 clear hX
 refine tV 0 [19] 4 rfl rfl (gRun rfl (ptr gr) fun _ h => run_mvZ (.tmp 0) rfl (ptr gr) rfl) HS_ ?_
 refine tV 2 [19] 6 rfl rfl (gRun rfl (ptr gr) fun _ h => run_mvZ (.tmp 0) rfl (ptr gr) rfl) HS_ ?_
 refine tV 3 [19] 7 rfl rfl (gRun rfl (ptr gr) fun _ h => run_nil (.tmp 6) rfl ⟨gr, 0, none⟩ rfl) HS_ ?_
 refine tV 4 [19] 8 rfl rfl (gRun rfl (.pointer (some ⟨gr, 0 + 2, none⟩)) fun _ h => run_fieldOp' f60_2 (.tmp 7) rfl gr (0) rfl) HS_ ?_
 simp only [Act.put, aS, aC, aZ]
 refine tV 5 [19] 9 rfl rfl (gRun rfl vu fun _ h => run_load1 o43 (.tmp 8) rfl gr (0 + 2) rfl vu (h.at 2 _ rfl)) HS_ ?_
 refine tV 6 [19] 10 rfl rfl (gRun rfl (.int .i64 (k : Nat)) fun _ h => run_mvZ (.tmp 1) rfl (.int .i64 (k : Nat)) rfl) HS_ ?_
 refine tV 7 [19] 11 rfl rfl (gRun rfl va0 fun _ h => run_sub43 (.tmp 9) none (some (.tmp 10)) rfl vu va0 (own_isSlice HF0.out.2.1) rfl none _ rfl rfl HCU.out.1) HS_ ?_
 refine tV 9 [19] 13 rfl rfl (gRun rfl (ptr gr) fun _ h => run_mvZ (.tmp 0) rfl (ptr gr) rfl) HS_ ?_
 simp only [Act.put, aS, aC, aZ]
 refine tV 10 [19] 14 rfl rfl (gRun rfl (ptr gr) fun _ h => run_nil (.tmp 13) rfl ⟨gr, 0, none⟩ rfl) HS_ ?_
 refine tV 11 [19] 15 rfl rfl (gRun rfl (.pointer (some ⟨gr, 0 + 2, none⟩)) fun _ h => run_fieldOp' f60_2 (.tmp 14) rfl gr (0) rfl) HS_ ?_
 refine tV 12 [19] 16 rfl rfl (gRun rfl vu fun _ h => run_load1 o43 (.tmp 15) rfl gr (0 + 2) rfl vu (h.at 2 _ rfl)) HS_ ?_
 refine tV 13 [19] 17 rfl rfl (gRun rfl (.int .i64 (k : Nat)) fun _ h => run_mvZ (.tmp 1) rfl (.int .i64 (k : Nat)) rfl) HS_ ?_
 simp only [Act.put, aS, aC, aZ]
 refine tV 14 [19] 18 rfl rfl (gRun rfl (.int .i64 ((k + 1 : Nat) : Int)) fun _ h => run_addZ (.tmp 17) (.const (.int .i64 1)) rfl (k : Nat) 1 _ rfl rfl (by omega) (by omega) (by omega)) HS_ ?_
 refine tV 15 [19] 19 rfl rfl (gRun rfl vd0 fun _ h => run_sub43 (.tmp 16) (some (.tmp 18)) none rfl vu vd0 (own_isSlice HF0.out.2.1) rfl _ none rfl rfl HCV.out.1) HS_ ?_
 simp only [Act.put, aS, aC, aZ]
 refine oneU (i := 1) (by kernel_rfl) ?_
 refine opValueG (some 5) rfl rfl rfl (.slice (some ⟨X.heap.size, 0, none⟩) 0 0) _ (run_plit0 rfl) ?_
 have hb_ := below_alloc X (.cells #[] 30)
 have p_ := plit0_row X
 obtain ⟨A0, hW_⟩ : ∃ U_ : World, U_ = X.alloc (.cells #[] 30) := ⟨_, rfl⟩
 obtain ⟨v0, hv_⟩ : ∃ v : Value, v = .slice (some ⟨X.heap.size, 0, none⟩) 0 0 := ⟨_, rfl⟩
 have ob_ : v0.ownBlock = some X.heap.size := (by rw [hv_]; rfl)
 rw [← hW_] at hb_ p_ ⊢
 rw [← hv_] at p_ ⊢
 have HP0 : Hid ((PlO A0 v0 []) ∧ Below W.heap.size W A0 ∧ ∀ b, v0.ownBlock = some b → W.heap.size ≤ b) := ⟨p_, HBX.out.trans (hb_.mono HBX.out.size), fun b e => (by rw [ob_] at e; injection e with e; have := HBX.out.size; omega)⟩
 replace HS_ : Row A0 gr 60 [.int .i64 1, .int .i64 (n : Nat), vu, vb] := HS_.later hb_ HS_.lt
 clear hb_ p_ hW_ hv_ ob_
 refine ⟨fun _ => HS_, ?_⟩
 simp only [Act.put, aS, aC, aZ]
 refine oneU (i := 8) (by kernel_rfl) ?_
 obtain ⟨v10, B0, hr_, hp_, hg_, hat_⟩ := run_papp (w := A0) 43 v0 [] ((us.take k).map toP) HP0.out.1 va0 ada ca HCU.out.2.1 (HCU.out.2.2 A0 fun q e => HP0.out.2.1.block q (World.ownsRow.lt HF0.out.2.1 q e).2) (by have hll : ([] : List Pq).length = 0 := rfl; rw [hll, List.length_map, List.length_take]; omega)
 refine opValueG (some 12) rfl rfl rfl v10 B0 (run_append (.tmp 5) (.tmp 11) rfl v0 va0 v10 rfl rfl ((appTy _ 43 _ _).trans hr_)) ?_
 have hc : Ch (fun b => v0.ownBlock = some b) A0 B0 := (Ch.refl _ A0).grown hg_ fun k e => Or.inl e
 have HP1 : Hid ((PlO B0 v10 (((us.take k).map toP))) ∧ Below W.heap.size W B0 ∧ ∀ b, v10.ownBlock = some b → W.heap.size ≤ b) := ⟨(by simpa using hp_), HP0.out.2.1.trans (hc.below HP0.out.2.1.size fun k hk e => by have := HP0.out.2.2 k e; omega), fun b e => (by rcases hat_ with h | h; exact HP0.out.2.2 b (h ▸ e); (rw [h] at e; injection e with e; have := HP0.out.2.1.size; omega))⟩
 replace HS_ : Row B0 gr 60 [.int .i64 1, .int .i64 (n : Nat), vu, vb] := hc.row (fun e => own_ne HP0.out.1 e HS_ (by decide)) HS_
 clear hr_ hp_ hg_ hat_ hc
 refine ⟨fun _ => HS_, ?_⟩
 simp only [Act.put, aS, aC, aZ]
 refine oneU (i := 16) (by kernel_rfl) ?_
 obtain ⟨v20, C0, hr_, hp_, hg_, hat_⟩ := run_papp (w := B0) 43 v10 ((us.take k).map toP) ((us.drop (k + 1)).map toP) HP1.out.1 vd0 adb cb HCV.out.2.1 (HCV.out.2.2 B0 fun q e => HP1.out.2.1.block q (World.ownsRow.lt HF0.out.2.1 q e).2) (by rw [List.length_map, List.length_map, List.length_take, List.length_drop]; omega)
 refine opValueG (some 20) rfl rfl rfl v20 C0 (run_append (.tmp 12) (.tmp 19) rfl v10 vd0 v20 rfl rfl ((appTy _ 43 _ _).trans hr_)) ?_
 have hc : Ch (fun b => v10.ownBlock = some b) B0 C0 := (Ch.refl _ B0).grown hg_ fun k e => Or.inl e
 have HP2 : Hid ((PlO C0 v20 (((us.take k).map toP) ++ ((us.drop (k + 1)).map toP))) ∧ Below W.heap.size W C0 ∧ ∀ b, v20.ownBlock = some b → W.heap.size ≤ b) := ⟨hp_, HP1.out.2.1.trans (hc.below HP1.out.2.1.size fun k hk e => by have := HP1.out.2.2 k e; omega), fun b e => (by rcases hat_ with h | h; exact HP1.out.2.2 b (h ▸ e); (rw [h] at e; injection e with e; have := HP1.out.2.1.size; omega))⟩
 replace HS_ : Row C0 gr 60 [.int .i64 1, .int .i64 (n : Nat), vu, vb] := hc.row (fun e => own_ne HP1.out.1 e HS_ (by decide)) HS_
 clear hr_ hp_ hg_ hat_ hc
 refine ⟨fun _ => HS_, ?_⟩
 simp only [Act.put, aS, aC, aZ]
 refine tV 17 [18, 19] 21 rfl rfl (gRun rfl (ptr gr) fun _ h => run_nil (.tmp 4) rfl ⟨gr, 0, none⟩ rfl) HS_ ?_
 refine tV 18 [19] 22 rfl rfl (gRun rfl (.pointer (some ⟨gr, 0 + 2, none⟩)) fun _ h => run_fieldOp' f60_2 (.tmp 21) rfl gr (0) rfl) HS_ ?_
 simp only [Act.put, aS, aC, aZ]
 refine oneU (i := 19) (by kernel_rfl) ?_
 refine opSkipZ rfl rfl rfl _ (run_putRow (t := 43) sz43 (.tmp 22) (.tmp 20) rfl gr (0 + 2) 60 _ rfl v20 rfl (own_cells HP2.out.1) HS_ (by decide : 0 + 2 < 4)) ?_
 refine ⟨(fun h => absurd (show true = false from h) (by decide)), ?_⟩
 have hb_ := (Ch.refl (· = gr) C0).setCell (Or.inl rfl) (0 + 2) v20
 have r_ := HS_.setCell (0 + 2) v20
 obtain ⟨Z0, hW_⟩ : ∃ U_ : World, U_ = C0.setCell ⟨gr, 0 + 2, none⟩ v20 := ⟨_, rfl⟩
 rw [← hW_] at hb_ r_ ⊢
 have hcW : Ch (· = gr) W Z0 := (Ch.of_below HP2.out.2.1).trans hb_
 have HF1 : Hid ((Row Z0 gr 60 [.int .i64 1, .int .i64 (n : Nat), v20, vb]) ∧ BL Z0 vb bl ∧ PlO Z0 v20 ((but us k).map toP) ∧ Ch (· = gr) W Z0 ∧ (∀ b, v20.ownBlock = some b → W.heap.size ≤ b)) := ⟨r_, ownK HM.out.2.2.1 fun b e => hcW.block b (World.ownsRow.lt HM.out.2.2.1 b e).2 (fun e' => own_ne HM.out.2.2.1 (e' ▸ e) HM.out.2.1.row (by decide)), (by have h0 := HP2.out.1.kept fun b e => hb_.block b (HP2.out.1.lt e) (fun e' => HP2.out.1.ne (e' ▸ e) HS_ (by decide)); rw [← List.map_append] at h0; exact h0), hcW, HP2.out.2.2⟩
 clear hcW
 clear hb_ r_ hW_ HP0 HP1 HP2 HCU HCV HS_ HBX
 refine wpAnyU_done (by kernel_rfl) ?_ _
 obtain ⟨va1, ada, ca, hra, hva, hca⟩ := cut_to7 HF1.out.2.1 k (by first | (rw [HM.out.2.2.2.1]; exact hk) | omega)
 obtain ⟨vd1, adb, cb, hrb, hvb, hcb⟩ := cut_from7 HF1.out.2.1 k (by first | (rw [HM.out.2.2.2.1]; exact hk) | omega)
 have HCU : Hid ((∀ w', (Instr.slice 57 vb none (some (.int .i64 (k : Nat))) none).run Tryd.prog w' = .ok va1 w') ∧ va1 = .slice (some ada) (bl.take k).length ca ∧ (∀ W' : World, (∀ q, vb.ownBlock = some q → W'.heap[q]? = Z0.heap[q]?) → ∀ j x, (bl.take k)[j]? = some x → W'.cell? (ada.add j) = some x)) := ⟨hra, hva, hca⟩
 have HCV : Hid ((∀ w', (Instr.slice 57 vb (some (.int .i64 ((k + 1 : Nat) : Int))) none none).run Tryd.prog w' = .ok vd1 w') ∧ vd1 = .slice (some adb) (bl.drop (k + 1)).length cb ∧ (∀ W' : World, (∀ q, vb.ownBlock = some q → W'.heap[q]? = Z0.heap[q]?) → ∀ j x, (bl.drop (k + 1))[j]? = some x → W'.cell? (adb.add j) = some x)) := ⟨hrb, hvb, hcb⟩
 clear hra hva hca hrb hvb hcb
 go_upto_region 1 with fail
 refine wp_region_until (S := fun X => Row X gr 60 [.int .i64 1, .int .i64 (n : Nat), v20, vb]) 19 (by kernel_rfl) ?_
 show wpAnyU _ _ _ _ _ _ 20 (Array.replicate 20 false) _ _
 obtain ⟨X, hX⟩ : ∃ X : World, X = { Z0 with drawn := Z0.drawn + 1 } := ⟨_, rfl⟩
 rw [← hX]
 have HBX : Hid (Below Z0.heap.size Z0 X) := (by rw [hX]; exact ⟨rfl, rfl, rfl, Nat.le_refl _, fun _ _ => rfl⟩)
 have HS_ : Row X gr 60 [.int .i64 1, .int .i64 (n : Nat), v20, vb] := HF1.out.1.later HBX.out HF1.out.1.lt
 clear hX
 refine tV 0 [19] 23 rfl rfl (gRun rfl (ptr gr) fun _ h => run_mvZ (.tmp 0) rfl (ptr gr) rfl) HS_ ?_
 refine tV 2 [19] 25 rfl rfl (gRun rfl (ptr gr) fun _ h => run_mvZ (.tmp 0) rfl (ptr gr) rfl) HS_ ?_
 refine tV 3 [19] 26 rfl rfl (gRun rfl (ptr gr) fun _ h => run_nil (.tmp 25) rfl ⟨gr, 0, none⟩ rfl) HS_ ?_
 refine tV 4 [19] 27 rfl rfl (gRun rfl (.pointer (some ⟨gr, 0 + 3, none⟩)) fun _ h => run_fieldOp' f60_3 (.tmp 26) rfl gr (0) rfl) HS_ ?_
 simp only [Act.put, aS, aC, aZ]
 refine tV 5 [19] 28 rfl rfl (gRun rfl vb fun _ h => run_load1 o57 (.tmp 27) rfl gr (0 + 3) rfl vb (h.at 3 _ rfl)) HS_ ?_
 refine tV 6 [19] 29 rfl rfl (gRun rfl (.int .i64 (k : Nat)) fun _ h => run_mvZ (.tmp 1) rfl (.int .i64 (k : Nat)) rfl) HS_ ?_
 refine tV 7 [19] 30 rfl rfl (gRun rfl va1 fun _ h => run_sub57 (.tmp 28) none (some (.tmp 29)) rfl vb va1 (own_isSlice HF1.out.2.1) rfl none _ rfl rfl HCU.out.1) HS_ ?_
 refine tV 9 [19] 32 rfl rfl (gRun rfl (ptr gr) fun _ h => run_mvZ (.tmp 0) rfl (ptr gr) rfl) HS_ ?_
 simp only [Act.put, aS, aC, aZ]
 refine tV 10 [19] 33 rfl rfl (gRun rfl (ptr gr) fun _ h => run_nil (.tmp 32) rfl ⟨gr, 0, none⟩ rfl) HS_ ?_
 refine tV 11 [19] 34 rfl rfl (gRun rfl (.pointer (some ⟨gr, 0 + 3, none⟩)) fun _ h => run_fieldOp' f60_3 (.tmp 33) rfl gr (0) rfl) HS_ ?_
 refine tV 12 [19] 35 rfl rfl (gRun rfl vb fun _ h => run_load1 o57 (.tmp 34) rfl gr (0 + 3) rfl vb (h.at 3 _ rfl)) HS_ ?_
 refine tV 13 [19] 36 rfl rfl (gRun rfl (.int .i64 (k : Nat)) fun _ h => run_mvZ (.tmp 1) rfl (.int .i64 (k : Nat)) rfl) HS_ ?_
 simp only [Act.put, aS, aC, aZ]
 refine tV 14 [19] 37 rfl rfl (gRun rfl (.int .i64 ((k + 1 : Nat) : Int)) fun _ h => run_addZ (.tmp 36) (.const (.int .i64 1)) rfl (k : Nat) 1 _ rfl rfl (by omega) (by omega) (by omega)) HS_ ?_
 refine tV 15 [19] 38 rfl rfl (gRun rfl vd1 fun _ h => run_sub57 (.tmp 35) (some (.tmp 37)) none rfl vb vd1 (own_isSlice HF1.out.2.1) rfl _ none rfl rfl HCV.out.1) HS_ ?_
 simp only [Act.put, aS, aC, aZ]
 refine oneU (i := 1) (by kernel_rfl) ?_
 refine opValueG (some 24) rfl rfl rfl (.slice (some ⟨X.heap.size, 0, none⟩) 0 0) _ (run_lit57z rfl) ?_
 have hb_ := below_alloc X (.cells #[] 28)
 have p_ := lit57_row X
 obtain ⟨A1, hW_⟩ : ∃ U_ : World, U_ = X.alloc (.cells #[] 28) := ⟨_, rfl⟩
 obtain ⟨v0, hv_⟩ : ∃ v : Value, v = .slice (some ⟨X.heap.size, 0, none⟩) 0 0 := ⟨_, rfl⟩
 have ob_ : v0.ownBlock = some X.heap.size := (by rw [hv_]; rfl)
 rw [← hW_] at hb_ p_ ⊢
 rw [← hv_] at p_ ⊢
 have HP0 : Hid ((BL A1 v0 []) ∧ Below Z0.heap.size Z0 A1 ∧ ∀ b, v0.ownBlock = some b → Z0.heap.size ≤ b) := ⟨p_, HBX.out.trans (hb_.mono HBX.out.size), fun b e => (by rw [ob_] at e; injection e with e; have := HBX.out.size; omega)⟩
 replace HS_ : Row A1 gr 60 [.int .i64 1, .int .i64 (n : Nat), v20, vb] := HS_.later hb_ HS_.lt
 clear hb_ p_ hW_ hv_ ob_
 refine ⟨fun _ => HS_, ?_⟩
 simp only [Act.put, aS, aC, aZ]
 refine oneU (i := 8) (by kernel_rfl) ?_
 obtain ⟨v11, B1, hr_, hp_, hg_, hat_⟩ := run_app57 (w := A1) 57 v0 [] (bl.take k) HP0.out.1 va1 ada ca HCU.out.2.1 (HCU.out.2.2 A1 fun q e => HP0.out.2.1.block q (World.ownsRow.lt HF1.out.2.1 q e).2) (fun u hu => HM.out.2.2.2.2 u (List.mem_of_mem_take hu)) (by have hll : ([] : List Value).length = 0 := rfl; rw [hll, List.length_take]; omega)
 refine opValueG (some 31) rfl rfl rfl v11 B1 (run_append (.tmp 24) (.tmp 30) rfl v0 va1 v11 rfl rfl ((appTy57 _ 57 _ _).trans hr_)) ?_
 have hc : Ch (fun b => v0.ownBlock = some b) A1 B1 := (Ch.refl _ A1).grown hg_ fun k e => Or.inl e
 have HP1 : Hid ((BL B1 v11 ((bl.take k))) ∧ Below Z0.heap.size Z0 B1 ∧ ∀ b, v11.ownBlock = some b → Z0.heap.size ≤ b) := ⟨(by simpa using hp_), HP0.out.2.1.trans (hc.below HP0.out.2.1.size fun k hk e => by have := HP0.out.2.2 k e; omega), fun b e => (by rcases hat_ with h | h; exact HP0.out.2.2 b (h ▸ e); (rw [h] at e; injection e with e; have := HP0.out.2.1.size; omega))⟩
 replace HS_ : Row B1 gr 60 [.int .i64 1, .int .i64 (n : Nat), v20, vb] := hc.row (fun e => own_ne HP0.out.1 e HS_ (by decide)) HS_
 clear hr_ hp_ hg_ hat_ hc
 refine ⟨fun _ => HS_, ?_⟩
 simp only [Act.put, aS, aC, aZ]
 refine oneU (i := 16) (by kernel_rfl) ?_
 obtain ⟨v21, C1, hr_, hp_, hg_, hat_⟩ := run_app57 (w := B1) 57 v11 (bl.take k) (bl.drop (k + 1)) HP1.out.1 vd1 adb cb HCV.out.2.1 (HCV.out.2.2 B1 fun q e => HP1.out.2.1.block q (World.ownsRow.lt HF1.out.2.1 q e).2) (fun u hu => HM.out.2.2.2.2 u (List.mem_of_mem_drop hu)) (by rw [List.length_take, List.length_drop]; omega)
 refine opValueG (some 39) rfl rfl rfl v21 C1 (run_append (.tmp 31) (.tmp 38) rfl v11 vd1 v21 rfl rfl ((appTy57 _ 57 _ _).trans hr_)) ?_
 have hc : Ch (fun b => v11.ownBlock = some b) B1 C1 := (Ch.refl _ B1).grown hg_ fun k e => Or.inl e
 have HP2 : Hid ((BL C1 v21 ((bl.take k) ++ (bl.drop (k + 1)))) ∧ Below Z0.heap.size Z0 C1 ∧ ∀ b, v21.ownBlock = some b → Z0.heap.size ≤ b) := ⟨hp_, HP1.out.2.1.trans (hc.below HP1.out.2.1.size fun k hk e => by have := HP1.out.2.2 k e; omega), fun b e => (by rcases hat_ with h | h; exact HP1.out.2.2 b (h ▸ e); (rw [h] at e; injection e with e; have := HP1.out.2.1.size; omega))⟩
 replace HS_ : Row C1 gr 60 [.int .i64 1, .int .i64 (n : Nat), v20, vb] := hc.row (fun e => own_ne HP1.out.1 e HS_ (by decide)) HS_
 clear hr_ hp_ hg_ hat_ hc
 refine ⟨fun _ => HS_, ?_⟩
 simp only [Act.put, aS, aC, aZ]
 refine tV 17 [18, 19] 40 rfl rfl (gRun rfl (ptr gr) fun _ h => run_nil (.tmp 23) rfl ⟨gr, 0, none⟩ rfl) HS_ ?_
 refine tV 18 [19] 41 rfl rfl (gRun rfl (.pointer (some ⟨gr, 0 + 3, none⟩)) fun _ h => run_fieldOp' f60_3 (.tmp 40) rfl gr (0) rfl) HS_ ?_
 simp only [Act.put, aS, aC, aZ]
 refine oneU (i := 19) (by kernel_rfl) ?_
 refine opSkipZ rfl rfl rfl _ (run_putRow (t := 57) sz57 (.tmp 41) (.tmp 39) rfl gr (0 + 3) 60 _ rfl v21 rfl (own_cells HP2.out.1) HS_ (by decide : 0 + 3 < 4)) ?_
 refine ⟨(fun h => absurd (show true = false from h) (by decide)), ?_⟩
 have hb_ := (Ch.refl (· = gr) C1).setCell (Or.inl rfl) (0 + 3) v21
 have r_ := HS_.setCell (0 + 3) v21
 obtain ⟨Z1, hW_⟩ : ∃ U_ : World, U_ = C1.setCell ⟨gr, 0 + 3, none⟩ v21 := ⟨_, rfl⟩
 rw [← hW_] at hb_ r_ ⊢
 have hcW : Ch (· = gr) W Z1 := HF1.out.2.2.2.1.trans ((Ch.of_below HP2.out.2.1).trans hb_)
 have hcZ : Ch (· = gr) Z0 Z1 := (Ch.of_below HP2.out.2.1).trans hb_
 have HF2 : Hid ((Row Z1 gr 60 [.int .i64 1, .int .i64 (n : Nat), v20, v21]) ∧ BL Z1 v21 (but bl k) ∧ PlO Z1 v20 ((but us k).map toP) ∧ Ch (· = gr) W Z1 ∧ (∀ b, v20.ownBlock = some b → W.heap.size ≤ b) ∧ (∀ b, v21.ownBlock = some b → W.heap.size ≤ b)) := ⟨r_, ownK HP2.out.1 fun b e => hb_.block b (World.ownsRow.lt HP2.out.1 b e).2 (fun e' => own_ne HP2.out.1 (e' ▸ e) HS_ (by decide)), HF1.out.2.2.1.kept fun b e => hcZ.block b (HF1.out.2.2.1.lt e) (fun e' => HF1.out.2.2.1.ne (e' ▸ e) HF1.out.1 (by decide)), hcW, HF1.out.2.2.2.2, fun b e => Nat.le_trans HF1.out.2.2.2.1.size (HP2.out.2.2 b e)⟩
 clear hcW hcZ
 clear hb_ r_ hW_ HP0 HP1 HP2 HCU HCV HS_ HBX
 refine wpAnyU_done (by kernel_rfl) ?_ _
 go_wp2_with fail
 rw [HPQ.out]
 first | go_end0 | refine bodyPost_ret (results_none rfl _ _ _) rfl ?_
 have hsz := HF2.out.2.2.2.1.size
 have hbu := but_length us k hk
 have hbb := but_length bl k (by omega)
 refine ⟨rfl, HF2.out.2.2.2.1, v20, v21, ⟨HF2.out.1, HM.out.2.1.og.bel hsz, HF2.out.2.2.1, fun b e => Out.new HM.out.1 (HF2.out.2.2.2.2.1 b e) (HF2.out.2.2.1.lt e), (by have h1 := HF2.out.2.1; unfold BL at h1; rwa [show (but bl k).length = (but us k).length by omega] at h1), fun b e => Out.new HM.out.1 (HF2.out.2.2.2.2.2 b e) (World.ownsRow.lt HF2.out.2.1 b e).2, fun i hi => ?_⟩⟩
 rw [but_at bl k i (by omega), but_at us k i hk]
 have hs := HM.out.2.1.s (if i < k then i else i + 1) (by split <;> omega)
 exact ⟨ownK hs.1 fun b e => HF2.out.2.2.2.1.block b (World.ownsRow.lt hs.1 b e).2 (fun e' => own_ne hs.1 (e' ▸ e) HM.out.2.1.row (by decide)), fun b e => (hs.2 b e).bel hsz⟩

end Go.Proofs.YthgidfoidbgnaaaDoor

namespace Go.Proofs.YthgidfoidbgnaaaDoor
open Go.RowKit Go.Maps

set_option maxHeartbeats 4000000 in
set_option maxRecDepth 100000 in
theorem sdo4_any {w W : World} {c : Nat → Colour} {gp gh gf gm gs gr n K : Nat} {m : Pl} {us : List (Nat × List Nat)} {vu vb : Value} {bl : List Value} {ever dims : Nat} (h : HtW w W c gp gh gf gm m n us K) (d : Sd w W c gp gh gf gm gs gr n us vu vb bl ever dims) (kd N : Int) (hkd : I64 kd) (hN : I64 N) (h4 : whichOf kd 10 = 4) (oc : List Value) (ho0 : oc[0]? = some (.int .i64 kd)) (ho1 : oc[1]? = some (.int .i64 N)) : Calls Tryd.prog 12 #[ptr gs, .agg oc.toArray] W fun e w' => e = .returned (.bool true) ∧ ∃ us' vu' vb' bl', HtW w w' c gp gh gf gm m n us' K ∧ Sd w w' c gp gh gf gm gs gr n us' vu' vb' bl' ever dims ∧ ∀ u ∈ us', u ∈ us := by
 have HM : Hid ((HtW w W c gp gh gf gm m n us K) ∧ (Sd w W c gp gh gf gm gs gr n us vu vb bl ever dims) ∧ (us.map toP).length = us.length ∧ oc[0]? = some (.int .i64 kd) ∧ oc[1]? = some (.int .i64 N) ∧ whichOf kd 10 = 4) := ⟨h, d, List.length_map _, ho0, ho1, h4⟩
 have hul := h.ok.2
 have HI : Hid (I64 kd ∧ I64 N) := ⟨hkd, hN⟩
 clear h d ho0 ho1 h4 hkd hN
 obtain ⟨PQ, HPQ⟩ := exPQ fun (e : Ending) (w' : World) => e = .returned (.bool true) ∧ ∃ us' vu' vb' bl', HtW w w' c gp gh gf gm m n us' K ∧ Sd w w' c gp gh gf gm gs gr n us' vu' vb' bl' ever dims ∧ ∀ u ∈ us', u ∈ us
 rw [← HPQ.out]
 go_enter Tryd.func12, Tryd.ntmps12
 go_upto_region 0 with fail
 refine wp_region_lit ?_
 refine wl rfl (ptr W.heap.size) _ (run_boxA (.tmp 1) rfl oc rfl) ?_
 have hb_ := below_alloc W (.cells oc.toArray 33)
 have r_ := Row.new W 33 oc
 obtain ⟨W1, hW_⟩ : ∃ U_ : World, U_ = W.alloc (.cells oc.toArray 33) := ⟨_, rfl⟩
 obtain ⟨q, hq_⟩ : ∃ q, q = W.heap.size := ⟨_, rfl⟩
 rw [← hW_] at hb_
 rw [← hW_, ← hq_] at r_
 rw [← hW_, ← hq_]
 have H1 : Hid (Row W1 q 33 oc ∧ (HtW w W1 c gp gh gf gm m n us K) ∧ (Sd w W1 c gp gh gf gm gs gr n us vu vb bl ever dims)) := ⟨r_, HM.out.1.bel hb_, HM.out.2.1.bel hb_⟩
 clear r_ hb_ hW_ hq_
 simp only [Act.put, aS, aC, aZ]
 refine wl rfl (.bool false) _ (run_asZ (.const (.bool false)) rfl (.bool false) rfl) ?_
 simp only [Act.put, aS, aC, aZ]
 refine wpList_nil ?_
 go_upto_region 1 with fail
 refine wp_region_lit ?_
 refine wl rfl (ptr gs) _ (run_mvZ (.tmp 0) rfl (ptr gs) rfl) ?_
 refine wl rfl (ptr gs) _ (run_nil (.tmp 16) rfl ⟨gs, 0, none⟩ rfl) ?_
 refine wl rfl (.pointer (some ⟨gs, 0 + 2, none⟩)) _ (run_fieldOp' f38_2 (.tmp 17) rfl gs (0) rfl) ?_
 refine wl rfl (ptr gr) _ (run_load1 o36 (.tmp 18) rfl gs (0 + 2) rfl (ptr gr) (H1.out.2.2.row.at 2 _ rfl)) ?_
 simp only [Act.put, aS, aC, aZ]
 refine wl rfl (ptr gr) _ (run_nil (.tmp 19) rfl ⟨gr, 0, none⟩ rfl) ?_
 refine wl rfl (.pointer (some ⟨gr, 0 + 2, none⟩)) _ (run_fieldOp' f60_2 (.tmp 20) rfl gr (0) rfl) ?_
 refine wl rfl vu _ (run_load1 o43 (.tmp 21) rfl gr (0 + 2) rfl vu (H1.out.2.2.r.row.at 2 _ rfl)) ?_
 refine wl rfl (.int .i64 (us.length : Nat)) _ (run_lenPI HM.out.2.1.r.u HM.out.2.2.1 (.tmp 22) rfl rfl) ?_
 simp only [Act.put, aS, aC, aZ]
 refine wl rfl (.int .i64 (us.length : Nat)) _ (run_asZ (.tmp 23) rfl (.int .i64 (us.length : Nat)) rfl) ?_
 simp only [Act.put, aS, aC, aZ]
 refine wpList_nil ?_
 go_upto_region 2 with fail
 refine wp_region_lit ?_
 refine wl rfl (.pointer (some ⟨q, 0 + 0, none⟩)) _ (run_fieldOp' f33_0 (.tmp 3) rfl q (0) rfl) ?_
 refine wl rfl (.int .i64 kd) _ (run_load1 o3 (.tmp 24) rfl q (0 + 0) rfl (.int .i64 kd) (H1.out.1.at 0 _ HM.out.2.2.2.1)) ?_
 simp only [Act.put, aS, aC, aZ]
 refine wpList_callW eN11 [.tmp 25, .const (.int .i64 10)] _ rfl rfl [(.int .i64 kd), (.int .i64 10)] rfl ?_
 refine (which_any W1 kd 10 (by decide) HI.out.1.1 HI.out.1.2).mono ?_
 rintro e X_ ⟨he_, rfl⟩
 rw [HM.out.2.2.2.2.2] at he_
 subst he_
 refine ⟨_, rfl, ?_⟩
 simp only [Act.put, aS, aC, aZ]
 refine wpList_nil ?_
 go_upto_region 3 with fail
 refine wp_region_lit ?_
 refine wl rfl (.bool true) _ (run_eqZ (.tmp 26) (.const (.int .i64 4)) rfl 4 4 rfl rfl true rfl) ?_
 refine wl rfl (.bool true) _ (run_asZ (.tmp 28) rfl (.bool true) rfl) ?_
 simp only [Act.put, aS, aC, aZ]
 refine wpList_nil ?_
 by_cases h0 : us.length = 0
 ·go_upto_region 4 with fail
  refine wp_region_lit ?_
  refine wl rfl (.int .i64 (us.length : Nat)) _ (run_mvZ (.tmp 5) rfl (.int .i64 (us.length : Nat)) rfl) ?_
  refine wl rfl (.bool true) _ (run_eqZ (.tmp 29) (.const (.int .i64 0)) rfl (us.length : Nat) 0 rfl rfl true (decide_eq_true (by omega))) ?_
  simp only [Act.put, aS, aC, aZ]
  refine wpList_nil ?_
  go_upto_region 5 with fail
  refine wp_region_lit ?_
  refine wl rfl (.bool true) _ (run_asZ (.const (.bool true)) rfl (.bool true) rfl) ?_
  simp only [Act.put, aS, aC, aZ]
  refine wpList_nil ?_
  go_wp2_with fail
  rw [HPQ.out]
  exact ⟨rfl, us, vu, vb, bl, H1.out.2.1, H1.out.2.2, fun u hu => hu⟩
 ·go_upto_region 4 with fail
  refine wp_region_lit ?_
  refine wl rfl (.int .i64 (us.length : Nat)) _ (run_mvZ (.tmp 5) rfl (.int .i64 (us.length : Nat)) rfl) ?_
  refine wl rfl (.bool false) _ (run_eqZ (.tmp 29) (.const (.int .i64 0)) rfl (us.length : Nat) 0 rfl rfl false (decide_eq_false (by omega))) ?_
  simp only [Act.put, aS, aC, aZ]
  refine wpList_nil ?_
  obtain ⟨k, hk_⟩ : ∃ k, k = whichOf N us.length := ⟨_, rfl⟩
  have hk : k < us.length := (by rw [hk_]; exact whichOf_lt N us.length (by omega))
  have HK : Hid (whichOf N us.length = k) := hk_.symm
  clear hk_
  go_upto_region 6 with fail
  refine wp_region_lit ?_
  refine wl rfl (.pointer (some ⟨q, 0 + 1, none⟩)) _ (run_fieldOp' f33_1 (.tmp 3) rfl q (0) rfl) ?_
  refine wl rfl (.int .i64 N) _ (run_load1 o3 (.tmp 31) rfl q (0 + 1) rfl (.int .i64 N) (H1.out.1.at 1 _ HM.out.2.2.2.2.1)) ?_
  refine wl rfl (.int .i64 (us.length : Nat)) _ (run_mvZ (.tmp 5) rfl (.int .i64 (us.length : Nat)) rfl) ?_
  simp only [Act.put, aS, aC, aZ]
  refine wpList_callW eN11 [.tmp 32, .tmp 33] _ rfl rfl [(.int .i64 N), (.int .i64 (us.length : Nat))] rfl ?_
  refine (which_any W1 N us.length (by omega) HI.out.2.1 HI.out.2.2).mono ?_
  rintro e X_ ⟨he_, rfl⟩
  rw [HK.out] at he_
  subst he_
  refine ⟨_, rfl, ?_⟩
  simp only [Act.put, aS, aC, aZ]
  refine wl rfl (.int .i64 (k : Nat)) _ (run_asZ (.tmp 34) rfl (.int .i64 (k : Nat)) rfl) ?_
  simp only [Act.put, aS, aC, aZ]
  refine wpList_nil ?_
  obtain ⟨u, hu⟩ : ∃ u, u = us.getD k default := ⟨_, rfl⟩
  obtain ⟨bu, _, hx_, hc_⟩ := HM.out.2.1.r.u.ix k (by rw [HM.out.2.2.1]; exact hk)
  rw [toP_at us k hk, ← hu] at hc_
  have HX : Hid ((∀ w', (Instr.indexAt 43 vu (.int .i64 (k : Nat))).run Tryd.prog w' = .ok (.pointer (some ⟨bu, k * 4, none⟩)) w') ∧ (∀ W' : World, PlO W' vu (us.map toP) → ∀ j x, (toP u).cells[j]? = some x → W'.cell? ⟨bu, k * 4 + j, none⟩ = some x) ∧ u = us.getD k default) := ⟨hx_, hc_, hu⟩
  clear hu hx_ hc_
  go_upto_region 7 with fail
  refine wp_region_held (S := fun X => Row X gs 38 (scells gp gh gr (ever : Nat) (dims : Nat)) ∧ Row X gr 60 [.int .i64 1, .int .i64 (n : Nat), vu, vb] ∧ PlO X vu (us.map toP)) (by kernel_rfl) ?_
  show wpAnyH _ _ _ _ _ 16 (Array.replicate 16 false) _ _
  obtain ⟨X, hX⟩ : ∃ X : World, X = { W1 with drawn := W1.drawn + 1 } := ⟨_, rfl⟩
  rw [← hX]
  have HD : Hid ((HtW w X c gp gh gf gm m n us K) ∧ (Sd w X c gp gh gf gm gs gr n us vu vb bl ever dims)) := (by rw [hX]; exact ⟨H1.out.2.1.bel ⟨rfl, rfl, rfl, Nat.le_refl _, fun _ _ => rfl⟩, H1.out.2.2.bel ⟨rfl, rfl, rfl, Nat.le_refl _, fun _ _ => rfl⟩⟩)
  have HS_ : Row X gs 38 (scells gp gh gr (ever : Nat) (dims : Nat)) ∧ Row X gr 60 [.int .i64 1, .int .i64 (n : Nat), vu, vb] ∧ PlO X vu (us.map toP) := ⟨HD.out.2.row, HD.out.2.r.row, HD.out.2.r.u⟩
  clear hX
  refine tH 0 35 rfl rfl (gRun rfl (ptr gs) fun _ h => run_mvZ (.tmp 0) rfl (ptr gs) rfl) HS_ ?_
  refine tH 1 36 rfl rfl (gRun rfl (ptr gs) fun _ h => run_nil (.tmp 35) rfl ⟨gs, 0, none⟩ rfl) HS_ ?_
  refine tH 2 37 rfl rfl (gRun rfl (.pointer (some ⟨gs, 0 + 1, none⟩)) fun _ h => run_fieldOp' f38_1 (.tmp 36) rfl gs (0) rfl) HS_ ?_
  refine tH 3 38 rfl rfl (gRun rfl (ptr gh) fun _ h => run_load1 o35 (.tmp 37) rfl gs (0 + 1) rfl (ptr gh) (h.1.at 1 _ rfl)) HS_ ?_
  simp only [Act.put, aS, aC, aZ]
  refine tH 4 39 rfl rfl (gRun rfl (ptr gs) fun _ h => run_mvZ (.tmp 0) rfl (ptr gs) rfl) HS_ ?_
  refine tH 5 40 rfl rfl (gRun rfl (ptr gs) fun _ h => run_nil (.tmp 39) rfl ⟨gs, 0, none⟩ rfl) HS_ ?_
  refine tH 6 41 rfl rfl (gRun rfl (.pointer (some ⟨gs, 0 + 2, none⟩)) fun _ h => run_fieldOp' f38_2 (.tmp 40) rfl gs (0) rfl) HS_ ?_
  refine tH 7 42 rfl rfl (gRun rfl (ptr gr) fun _ h => run_load1 o36 (.tmp 41) rfl gs (0 + 2) rfl (ptr gr) (h.1.at 2 _ rfl)) HS_ ?_
  simp only [Act.put, aS, aC, aZ]
  refine tH 8 43 rfl rfl (gRun rfl (ptr gr) fun _ h => run_nil (.tmp 42) rfl ⟨gr, 0, none⟩ rfl) HS_ ?_
  refine tH 9 44 rfl rfl (gRun rfl (.pointer (some ⟨gr, 0 + 2, none⟩)) fun _ h => run_fieldOp' f60_2 (.tmp 43) rfl gr (0) rfl) HS_ ?_
  refine tH 10 45 rfl rfl (gRun rfl vu fun _ h => run_load1 o43 (.tmp 44) rfl gr (0 + 2) rfl vu (h.2.1.at 2 _ rfl)) HS_ ?_
  refine tH 11 46 rfl rfl (gRun rfl (.int .i64 (k : Nat)) fun _ h => run_mvZ (.tmp 6) rfl (.int .i64 (k : Nat)) rfl) HS_ ?_
  simp only [Act.put, aS, aC, aZ]
  refine tH 12 47 rfl rfl (gRun rfl (.pointer (some ⟨bu, k * 4, none⟩)) fun _ h => run_idx (.tmp 45) (.tmp 46) rfl _ _ _ rfl rfl HX.out.1) HS_ ?_
  refine tH 13 48 rfl rfl (gRun rfl (.agg ((toP u).cells).toArray) fun _ h => run_loadA ag30 (.tmp 47) rfl bu (k * 4) rfl ((toP u).cells) rfl (HX.out.2.1 _ h.2.2)) HS_ ?_
  simp only [Act.put, aS, aC, aZ]
  refine oneH (i := 14) (by kernel_rfl) ?_
  refine opCallG (some 49) rfl rfl rfl 26 _ (run_call eN26 [.tmp 38, .tmp 48] _ rfl [(ptr gh), (.agg ((toP u).cells).toArray)] rfl) ?_
  have HF := HD.out.1.free k hk false
  rw [← HX.out.2.2] at HF
  refine HF.mono ?_
  rintro e Y1 ⟨rfl, hc_, hh_⟩
  refine ⟨_, rfl, ?_⟩
  have HE : Hid ((HtW w Y1 c gp gh gf gm m n (but us k) K) ∧ (Sd w Y1 c gp gh gf gm gs gr n us vu vb bl ever dims)) := ⟨hh_, HD.out.2.sq (Sq.one c hc_)⟩
  replace HS_ : Row Y1 gs 38 (scells gp gh gr (ever : Nat) (dims : Nat)) ∧ Row Y1 gr 60 [.int .i64 1, .int .i64 (n : Nat), vu, vb] ∧ PlO Y1 vu (us.map toP) := ⟨HE.out.2.row, HE.out.2.r.row, HE.out.2.r.u⟩
  clear hc_ hh_ HF
  refine ⟨HS_, ?_⟩
  simp only [Act.put, aS, aC, aZ]
  refine tH 15 7 rfl rfl (gRun rfl (.int .i64 0) fun _ h => run_asZ (.tmp 49) rfl (.int .i64 0) rfl) HS_ ?_
  simp only [Act.put, aS, aC, aZ]
  refine wpAnyH_done (by kernel_rfl) ?_ _
  go_upto_region 8 with fail
  refine wp_region_lit ?_
  refine wl rfl (ptr gs) _ (run_mvZ (.tmp 0) rfl (ptr gs) rfl) ?_
  refine wl rfl (ptr gs) _ (run_nil (.tmp 50) rfl ⟨gs, 0, none⟩ rfl) ?_
  refine wl rfl (.pointer (some ⟨gs, 0 + 2, none⟩)) _ (run_fieldOp' f38_2 (.tmp 51) rfl gs (0) rfl) ?_
  refine wl rfl (ptr gr) _ (run_load1 o36 (.tmp 52) rfl gs (0 + 2) rfl (ptr gr) (HE.out.2.row.at 2 _ rfl)) ?_
  simp only [Act.put, aS, aC, aZ]
  refine wl rfl (.int .i64 (k : Nat)) _ (run_mvZ (.tmp 6) rfl (.int .i64 (k : Nat)) rfl) ?_
  simp only [Act.put, aS, aC, aZ]
  refine wpList_callW eN27 [.tmp 53, .tmp 54] _ rfl rfl [(ptr gr), (.int .i64 (k : Nat))] rfl ?_
  refine (drop_any HE.out.1 HE.out.2.r k hk (by omega)).mono ?_
  rintro e Y2 ⟨rfl, hc_, vu2, vb2, hr_⟩
  refine ⟨_, rfl, ?_⟩
  have hg : gs ≠ gr := row_ne HE.out.2.row HE.out.2.r.row (by decide)
  have HG : Hid ((HtW w Y2 c gp gh gf gm m n (but us k) K) ∧ (Sd w Y2 c gp gh gf gm gs gr n (but us k) vu2 vb2 (but bl k) ever dims)) := ⟨HE.out.1.own hc_ (fun _ _ e => e ▸ HE.out.2.r.og), ⟨hc_.row hg HE.out.2.row, HE.out.2.os.bel hc_.size, hr_⟩⟩
  clear hg hc_ hr_
  simp only [Act.put, aS, aC, aZ]
  refine wpList_nil ?_
  go_upto_region 9 with fail
  refine wp_region_lit ?_
  refine wl rfl (.int .i64 0) _ (run_mvZ (.tmp 7) rfl (.int .i64 0) rfl) ?_
  refine wl rfl (.bool true) _ (run_eqZ (.tmp 56) (.const (.int .i64 0)) rfl (0) (0) rfl rfl true rfl) ?_
  refine wl rfl (.bool true) _ (run_asZ (.tmp 57) rfl (.bool true) rfl) ?_
  simp only [Act.put, aS, aC, aZ]
  refine wpList_nil ?_
  go_wp2_with fail
  rw [HPQ.out]
  refine ⟨rfl, but us k, vu2, vb2, but bl k, HG.out.1, HG.out.2, fun v hv => ?_⟩
  rcases List.mem_append.1 hv with h | h
  ·exact List.mem_of_mem_take h
  ·exact List.mem_of_mem_drop h

end Go.Proofs.YthgidfoidbgnaaaDoor

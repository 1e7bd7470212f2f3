/- The document's two ways. -/
import Derived.Test.YtjdmpanemdhbbaaDoorTwo
import Derived.Test.YtjdmpanemdhbbaaDoorDraw
namespace Go.Proofs.YtjdmpanemdhbbaaDoor
open Go.RowKit

theorem results_HHB {fn : Func} {p p' q : Tmp} (h : fn.results = #[.cell p 23, .cell p' 23, .tmp q]) (tmps : Array Value) (w : World) (g g' : Nat) (hp : tmps.getD p undef = .pointer (some ⟨g, 0, none⟩)) (hp' : tmps.getD p' undef = .pointer (some ⟨g', 0, none⟩)) (x y : List Nat) (hr : HIs w g x) (hr' : HIs w g' y) (v : Value) (hq : tmps.getD q undef = v) : (results fn tmps).run Tryd.prog w = .ok (.tuple #[hv x, hv y, v]) w := by
  have hl := run_loadVar agg25 w g 0 (bcells x) hr.len (fun j v hv => by rw [Nat.zero_add]; exact hr.2.at j v hv)
  have hl' := run_loadVar agg25 w g' 0 (bcells y) hr'.len (fun j v hv => by rw [Nat.zero_add]; exact hr'.2.at j v hv)
  have e1 : tmps[p]?.getD undef = .pointer (some ⟨g, 0, none⟩) := by simpa using hp
  have e2 : tmps[p']?.getD undef = .pointer (some ⟨g', 0, none⟩) := by simpa using hp'
  have e3 : tmps[q]?.getD undef = v := by simpa using hq
  simp [results, h, e1, e2, e3, asAddr, hl, hl', hv]
/-- what is told of the two ways -/
def RTold (w : World) (o : Option (List Nat × List Nat)) (e : Ending) (w' : World) : Prop := ∃ x y, e = .returned (.tuple #[hv x, hv y, .bool o.isSome]) ∧ (IsH x ∧ IsH y) ∧ (∀ z, o = some z → (x, y) = z) ∧ Below w.heap.size w w'
theorem RTold.no {w w' : World} {e : Ending} (h : RTold w none e w') : ∃ x y, e = .returned (.tuple #[hv x, hv y, .bool false]) ∧ (IsH x ∧ IsH y) ∧ Below w.heap.size w w' := by
  obtain ⟨x, y, rfl, hh, _, hb⟩ := h
  exact ⟨x, y, rfl, hh, hb⟩
theorem RTold.yes {w w' : World} {e : Ending} {x y : List Nat} (h : RTold w (some (x, y)) e w') : e = .returned (.tuple #[hv x, hv y, .bool true]) ∧ (IsH x ∧ IsH y) ∧ Below w.heap.size w w' := by
  obtain ⟨x', y', rfl, hh, hz, hb⟩ := h
  have := hz _ rfl
  cases this
  exact ⟨rfl, hh, hb⟩
theorem RTold.mk {w w' : World} {e : Ending} {o : Option (List Nat × List Nat)} {x y : List Nat} (ho : o = some (x, y)) (he : e = .returned (.tuple #[hv x, hv y, .bool true])) (hx : IsH x) (hy : IsH y) (hb : Below w.heap.size w w') : RTold w o e w' :=
  ⟨x, y, by rw [he, ho]; rfl, ⟨hx, hy⟩, (fun z hz => by rw [ho] at hz; exact Option.some.inj hz), hb⟩
theorem RTold.mkNo {w w' : World} {e : Ending} {o : Option (List Nat × List Nat)} {x y : List Nat} (ho : o = none) (he : e = .returned (.tuple #[hv x, hv y, .bool false])) (hx : IsH x) (hy : IsH y) (hb : Below w.heap.size w w') : RTold w o e w' :=
  ⟨x, y, by rw [he, ho]; rfl, ⟨hx, hy⟩, (fun z hz => by rw [ho] at hz; cases hz), hb⟩
theorem RTold.mapped {w w' : World} {O : Option (List Nat × List Nat)} {x y r s : List Nat} {e : Ending} {f : List Nat × List Nat → List Nat × List Nat} {bb : Bool} (hb : O.isSome = bb) (hy : ∀ z, O = some z → (x, y) = z) (he : e = .returned (.tuple #[hv r, hv s, .bool bb])) (hr : (r, s) = f (x, y)) (hh : IsH r) (hk : IsH s) (hbl : Below w.heap.size w w') : RTold w (O.map f) e w' := by
  refine ⟨r, s, by rw [he, Option.isSome_map, hb], ⟨hh, hk⟩, fun z h => ?_, hbl⟩
  obtain ⟨u, hu, rfl⟩ := Option.map_eq_some_iff.1 h
  rw [hr, hy u hu]

set_option maxHeartbeats 2000000 in
set_option maxRecDepth 100000 in
theorem rtwo_whole0 (a : List Nat) (n : Nat) (v : Value) (row : List (List Nat)) (W : World) (h : HIn W v row) (ha : IsH a) (hr : row.length = 0) :
    Calls Tryd.prog 28 #[.int .i64 (n : Nat), .int .i64 (n : Nat), hv a, v, .bool true] W fun e W' => RTold W (Tree.two n n a row true) e W' := by
  have HU : Hid (Tree.two n n a row true = some (a, a)) := by show _ = _; rw [Tree.two_whole _ _ _ _ rfl, if_pos hr]
  obtain ⟨k, hk⟩ : ∃ k, row.length = k := ⟨_, rfl⟩
  have HK : Hid (row.length = k) := hk
  have HK0 : Hid (decide (((k : Nat) : Int) = 0) = true) := by
    show _ = _
    rw [decide_eq_true (by omega)]
  clear hr hk
  have HX : Hid (IsH a) := ha
  obtain ⟨B, hB⟩ : ∃ B, B = W.heap.size := ⟨_, rfl⟩
  have HB : Hid (B = W.heap.size) := hB
  clear ha hB
  go_enter Tryd.func28, Tryd.ntmps28
  go_wp2_with (first
    | (refine wl_box (.tmp 2) rfl rfl a HX.out rfl ?_; rw [← HB.out]; intro w1 r1 s1 b1; have R1 : Hid (HIs w1 B a ∧ Below W.heap.size W w1 ∧ w1.heap.size = B + 1) := ⟨r1, HB.out ▸ b1, s1⟩; clear r1 s1 b1)
    | (refine wl_alloc rfl rfl ?_; rw [R1.out.2.2]; intro w2 r2 s2 b2; have R2 : Hid (HIs w2 B a ∧ HIs w2 (B + 1) noH ∧ Below W.heap.size W w2 ∧ w2.heap.size = B + 2) := ⟨R1.out.1.next (R1.out.2.2 ▸ b2), r2, below_append R1.out.2.1 (R1.out.2.2 ▸ b2), s2⟩; clear r2 s2 b2)
    | (refine wl_alloc rfl rfl ?_; rw [R2.out.2.2.2]; intro w3 r3 s3 b3; have R3 : Hid (HIs w3 B a ∧ HIs w3 (B + 1) noH ∧ HIs w3 (B + 2) noH ∧ Below W.heap.size W w3 ∧ w3.heap.size = B + 3) := ⟨R2.out.1.next (R2.out.2.2.2 ▸ b3), R2.out.2.1.next (R2.out.2.2.2 ▸ b3), r3, below_append R2.out.2.2.1 (R2.out.2.2.2 ▸ b3), s3⟩; clear r3 s3 b3))
  obtain ⟨z0, hz0⟩ : ∃ z0 : World, z0 = { w3 with drawn := w3.drawn + 1 } := ⟨_, rfl⟩
  have hS : (Below W.heap.size W z0 ∧ HIs z0 B a) := by rw [hz0]; exact ⟨below_append R3.out.2.2.2.1 (below_drawn w3 _), R3.out.1⟩
  have F10 : HIs z0 (B + 1) noH := by rw [hz0]; exact R3.out.2.1
  have F11 : HIs z0 (B + 2) noH := by rw [hz0]; exact R3.out.2.2.1
  refine wp_region_held (S := fun W' => (Below W.heap.size W W' ∧ HIs W' B a)) (by kernel_rfl) ?_
  show wpAnyH _ _ _ _ _ 8 (Array.replicate 8 false) _ _
  rw [← hz0]
  clear hz0
  refine takeH (i := 0) (some 28) rfl rfl (by kernel_rfl) (by kernel_rfl) (by kernel_rfl) (fun _ _ _ h => h) (yRunW rfl (hv a) (fun W hW => rx_load (.tmp 7) rfl (.pointer (some ⟨B, 0, none⟩)) rfl a (hW.2.at))) hS ?_
  simp only [Act.put, List.setIfInBounds_toArray, List.set_cons_succ, List.set_cons_zero]
  refine takeH (i := 1) (some 29) rfl rfl (by kernel_rfl) (by kernel_rfl) (by kernel_rfl) (fun _ _ _ h => h) (yRunW rfl (hv a) (fun W hW => rx_load (.tmp 7) rfl (.pointer (some ⟨B, 0, none⟩)) rfl a (hW.2.at))) hS ?_
  simp only [Act.put, List.setIfInBounds_toArray, List.set_cons_succ, List.set_cons_zero]
  refine takeH (i := 2) (some 30) rfl rfl (by kernel_rfl) (by kernel_rfl) (by kernel_rfl) (fun _ _ _ h => h) (yMoveW rfl (.tmp 3) rfl (v) rfl) hS ?_
  simp only [Act.put, List.setIfInBounds_toArray, List.set_cons_succ, List.set_cons_zero]
  refine takeH (i := 3) (some 31) rfl rfl (by kernel_rfl) (by kernel_rfl) (by kernel_rfl) (fun _ _ _ h => h) (yLen rfl (.tmp 30) rfl v row rfl _ (h) k HK.out) hS ?_
  simp only [Act.put, List.setIfInBounds_toArray, List.set_cons_succ, List.set_cons_zero]
  refine takeH (i := 4) (some 32) rfl rfl (by kernel_rfl) (by kernel_rfl) (by kernel_rfl) (fun _ _ _ h => h) (yEqI rfl (.tmp 31) (.const (.int .i64 0)) rfl ((k : Nat) : Int) 0 rfl rfl true HK0.out) hS ?_
  simp only [Act.put, List.setIfInBounds_toArray, List.set_cons_succ, List.set_cons_zero]
  refine oneH (i := 5) (by kernel_rfl) ?_
  refine opSkip rfl rfl rfl _ (rx_store (.tmp 10) (.tmp 28) rfl (B + 1) rfl noH a HX.out rfl F10) ?_
  have oo : Only (B + 1) z0 (z0.setRow (B + 1) (bcells a).toArray) := (Only.refl (B + 1) z0).setRow _
  have F10' : HIs (z0.setRow (B + 1) (bcells a).toArray) (B + 1) a := his_store HX.out F10
  have F11' : HIs (z0.setRow (B + 1) (bcells a).toArray) (B + 2) noH := F11.other oo (by omega)
  have hS' : (Below W.heap.size W (z0.setRow (B + 1) (bcells a).toArray) ∧ HIs (z0.setRow (B + 1) (bcells a).toArray) B a) := ⟨hS.1.trans (oo.below (by have := HB.out; omega) hS.1.size), hS.2.other oo (by omega)⟩
  refine ⟨hS', ?_⟩
  clear hS F10 F11 oo
  generalize z0.setRow (B + 1) (bcells a).toArray = z1 at hS' F10' F11' ⊢
  have hS := hS'
  have F10 := F10'
  have F11 := F11'
  clear hS' F10' F11'
  refine oneH (i := 6) (by kernel_rfl) ?_
  refine opSkip rfl rfl rfl _ (rx_store (.tmp 11) (.tmp 29) rfl (B + 2) rfl noH a HX.out rfl F11) ?_
  have oo : Only (B + 2) z1 (z1.setRow (B + 2) (bcells a).toArray) := (Only.refl (B + 2) z1).setRow _
  have F11' : HIs (z1.setRow (B + 2) (bcells a).toArray) (B + 2) a := his_store HX.out F11
  have F10' : HIs (z1.setRow (B + 2) (bcells a).toArray) (B + 1) a := F10.other oo (by omega)
  have hS' : (Below W.heap.size W (z1.setRow (B + 2) (bcells a).toArray) ∧ HIs (z1.setRow (B + 2) (bcells a).toArray) B a) := ⟨hS.1.trans (oo.below (by have := HB.out; omega) hS.1.size), hS.2.other oo (by omega)⟩
  refine ⟨hS', ?_⟩
  clear hS F11 F10 oo
  generalize z1.setRow (B + 2) (bcells a).toArray = z2 at hS' F11' F10' ⊢
  have hS := hS'
  have F11 := F11'
  have F10 := F10'
  clear hS' F11' F10'
  refine takeH (i := 7) (some 12) rfl rfl (by kernel_rfl) (by kernel_rfl) (by kernel_rfl) (fun _ _ _ h => h) (yAssign rfl (.tmp 32) rfl (.bool true) rfl) hS ?_
  simp only [Act.put, List.setIfInBounds_toArray, List.set_cons_succ, List.set_cons_zero]
  refine wpAnyH_done (by kernel_rfl) ?_ _
  have RZ : Hid (HIs z2 (B + 1) a ∧ HIs z2 (B + 2) a ∧ Below W.heap.size W z2) := ⟨F10, F11, hS.1⟩
  clear F10 F11 hS
  go_wp2_with fail
  exact bodyPost_ret (results_HHB Tryd.results28 _ _ (B + 1) (B + 2) rfl rfl _ _ RZ.out.1 RZ.out.2.1 _ rfl) rfl (RTold.mk HU.out rfl HX.out HX.out RZ.out.2.2)
set_option maxHeartbeats 2000000 in
set_option maxRecDepth 100000 in
theorem rtwo_whole1 (a : List Nat) (n : Nat) (v : Value) (row : List (List Nat)) (W : World) (h : HIn W v row) (ha : IsH a) (hr : row.length ≠ 0) :
    Calls Tryd.prog 28 #[.int .i64 (n : Nat), .int .i64 (n : Nat), hv a, v, .bool true] W fun e W' => RTold W (Tree.two n n a row true) e W' := by
  have HU : Hid (Tree.two n n a row true = none) := by show _ = _; rw [Tree.two_whole _ _ _ _ rfl, if_neg hr]
  obtain ⟨k, hk⟩ : ∃ k, row.length = k := ⟨_, rfl⟩
  have HK : Hid (row.length = k) := hk
  have HK0 : Hid (decide (((k : Nat) : Int) = 0) = false) := by
    show _ = _
    rw [decide_eq_false (by omega)]
  clear hr hk
  have HX : Hid (IsH a) := ha
  obtain ⟨B, hB⟩ : ∃ B, B = W.heap.size := ⟨_, rfl⟩
  have HB : Hid (B = W.heap.size) := hB
  clear ha hB
  go_enter Tryd.func28, Tryd.ntmps28
  go_wp2_with (first
    | (refine wl_box (.tmp 2) rfl rfl a HX.out rfl ?_; rw [← HB.out]; intro w1 r1 s1 b1; have R1 : Hid (HIs w1 B a ∧ Below W.heap.size W w1 ∧ w1.heap.size = B + 1) := ⟨r1, HB.out ▸ b1, s1⟩; clear r1 s1 b1)
    | (refine wl_alloc rfl rfl ?_; rw [R1.out.2.2]; intro w2 r2 s2 b2; have R2 : Hid (HIs w2 B a ∧ HIs w2 (B + 1) noH ∧ Below W.heap.size W w2 ∧ w2.heap.size = B + 2) := ⟨R1.out.1.next (R1.out.2.2 ▸ b2), r2, below_append R1.out.2.1 (R1.out.2.2 ▸ b2), s2⟩; clear r2 s2 b2)
    | (refine wl_alloc rfl rfl ?_; rw [R2.out.2.2.2]; intro w3 r3 s3 b3; have R3 : Hid (HIs w3 B a ∧ HIs w3 (B + 1) noH ∧ HIs w3 (B + 2) noH ∧ Below W.heap.size W w3 ∧ w3.heap.size = B + 3) := ⟨R2.out.1.next (R2.out.2.2.2 ▸ b3), R2.out.2.1.next (R2.out.2.2.2 ▸ b3), r3, below_append R2.out.2.2.1 (R2.out.2.2.2 ▸ b3), s3⟩; clear r3 s3 b3))
  obtain ⟨z0, hz0⟩ : ∃ z0 : World, z0 = { w3 with drawn := w3.drawn + 1 } := ⟨_, rfl⟩
  have hS : (Below W.heap.size W z0 ∧ HIs z0 B a) := by rw [hz0]; exact ⟨below_append R3.out.2.2.2.1 (below_drawn w3 _), R3.out.1⟩
  have F10 : HIs z0 (B + 1) noH := by rw [hz0]; exact R3.out.2.1
  have F11 : HIs z0 (B + 2) noH := by rw [hz0]; exact R3.out.2.2.1
  refine wp_region_held (S := fun W' => (Below W.heap.size W W' ∧ HIs W' B a)) (by kernel_rfl) ?_
  show wpAnyH _ _ _ _ _ 8 (Array.replicate 8 false) _ _
  rw [← hz0]
  clear hz0
  refine takeH (i := 0) (some 28) rfl rfl (by kernel_rfl) (by kernel_rfl) (by kernel_rfl) (fun _ _ _ h => h) (yRunW rfl (hv a) (fun W hW => rx_load (.tmp 7) rfl (.pointer (some ⟨B, 0, none⟩)) rfl a (hW.2.at))) hS ?_
  simp only [Act.put, List.setIfInBounds_toArray, List.set_cons_succ, List.set_cons_zero]
  refine takeH (i := 1) (some 29) rfl rfl (by kernel_rfl) (by kernel_rfl) (by kernel_rfl) (fun _ _ _ h => h) (yRunW rfl (hv a) (fun W hW => rx_load (.tmp 7) rfl (.pointer (some ⟨B, 0, none⟩)) rfl a (hW.2.at))) hS ?_
  simp only [Act.put, List.setIfInBounds_toArray, List.set_cons_succ, List.set_cons_zero]
  refine takeH (i := 2) (some 30) rfl rfl (by kernel_rfl) (by kernel_rfl) (by kernel_rfl) (fun _ _ _ h => h) (yMoveW rfl (.tmp 3) rfl (v) rfl) hS ?_
  simp only [Act.put, List.setIfInBounds_toArray, List.set_cons_succ, List.set_cons_zero]
  refine takeH (i := 3) (some 31) rfl rfl (by kernel_rfl) (by kernel_rfl) (by kernel_rfl) (fun _ _ _ h => h) (yLen rfl (.tmp 30) rfl v row rfl _ (h) k HK.out) hS ?_
  simp only [Act.put, List.setIfInBounds_toArray, List.set_cons_succ, List.set_cons_zero]
  refine takeH (i := 4) (some 32) rfl rfl (by kernel_rfl) (by kernel_rfl) (by kernel_rfl) (fun _ _ _ h => h) (yEqI rfl (.tmp 31) (.const (.int .i64 0)) rfl ((k : Nat) : Int) 0 rfl rfl false HK0.out) hS ?_
  simp only [Act.put, List.setIfInBounds_toArray, List.set_cons_succ, List.set_cons_zero]
  refine oneH (i := 5) (by kernel_rfl) ?_
  refine opSkip rfl rfl rfl _ (rx_store (.tmp 10) (.tmp 28) rfl (B + 1) rfl noH a HX.out rfl F10) ?_
  have oo : Only (B + 1) z0 (z0.setRow (B + 1) (bcells a).toArray) := (Only.refl (B + 1) z0).setRow _
  have F10' : HIs (z0.setRow (B + 1) (bcells a).toArray) (B + 1) a := his_store HX.out F10
  have F11' : HIs (z0.setRow (B + 1) (bcells a).toArray) (B + 2) noH := F11.other oo (by omega)
  have hS' : (Below W.heap.size W (z0.setRow (B + 1) (bcells a).toArray) ∧ HIs (z0.setRow (B + 1) (bcells a).toArray) B a) := ⟨hS.1.trans (oo.below (by have := HB.out; omega) hS.1.size), hS.2.other oo (by omega)⟩
  refine ⟨hS', ?_⟩
  clear hS F10 F11 oo
  generalize z0.setRow (B + 1) (bcells a).toArray = z1 at hS' F10' F11' ⊢
  have hS := hS'
  have F10 := F10'
  have F11 := F11'
  clear hS' F10' F11'
  refine oneH (i := 6) (by kernel_rfl) ?_
  refine opSkip rfl rfl rfl _ (rx_store (.tmp 11) (.tmp 29) rfl (B + 2) rfl noH a HX.out rfl F11) ?_
  have oo : Only (B + 2) z1 (z1.setRow (B + 2) (bcells a).toArray) := (Only.refl (B + 2) z1).setRow _
  have F11' : HIs (z1.setRow (B + 2) (bcells a).toArray) (B + 2) a := his_store HX.out F11
  have F10' : HIs (z1.setRow (B + 2) (bcells a).toArray) (B + 1) a := F10.other oo (by omega)
  have hS' : (Below W.heap.size W (z1.setRow (B + 2) (bcells a).toArray) ∧ HIs (z1.setRow (B + 2) (bcells a).toArray) B a) := ⟨hS.1.trans (oo.below (by have := HB.out; omega) hS.1.size), hS.2.other oo (by omega)⟩
  refine ⟨hS', ?_⟩
  clear hS F11 F10 oo
  generalize z1.setRow (B + 2) (bcells a).toArray = z2 at hS' F11' F10' ⊢
  have hS := hS'
  have F11 := F11'
  have F10 := F10'
  clear hS' F11' F10'
  refine takeH (i := 7) (some 12) rfl rfl (by kernel_rfl) (by kernel_rfl) (by kernel_rfl) (fun _ _ _ h => h) (yAssign rfl (.tmp 32) rfl (.bool false) rfl) hS ?_
  simp only [Act.put, List.setIfInBounds_toArray, List.set_cons_succ, List.set_cons_zero]
  refine wpAnyH_done (by kernel_rfl) ?_ _
  have RZ : Hid (HIs z2 (B + 1) a ∧ HIs z2 (B + 2) a ∧ Below W.heap.size W z2) := ⟨F10, F11, hS.1⟩
  clear F10 F11 hS
  go_wp2_with fail
  exact bodyPost_ret (results_HHB Tryd.results28 _ _ (B + 1) (B + 2) rfl rfl _ _ RZ.out.1 RZ.out.2.1 _ rfl) rfl (RTold.mkNo HU.out rfl HX.out HX.out RZ.out.2.2)
set_option maxHeartbeats 2000000 in
set_option maxRecDepth 100000 in
theorem rtwo_noneE (a : List Nat) (n : Nat) (v : Value) (row : List (List Nat)) (W : World) (h : HIn W v row) (ha : IsH a) (hr : row.length = 0) :
    Calls Tryd.prog 28 #[.int .i64 (n : Nat), .int .i64 (n : Nat), hv a, v, .bool false] W fun e W' => RTold W (Tree.two n n a row false) e W' := by
  have HU : Hid (Tree.two n n a row false = none) := Tree.two_none _ _ _ _ _ (by simp) hr
  have HK : Hid (row.length = 0) := hr
  clear hr
  have HX : Hid (IsH a) := ha
  obtain ⟨B, hB⟩ : ∃ B, B = W.heap.size := ⟨_, rfl⟩
  have HB : Hid (B = W.heap.size) := hB
  clear ha hB
  go_enter Tryd.func28, Tryd.ntmps28
  go_wp2_with (first
    | (refine wl_box (.tmp 2) rfl rfl a HX.out rfl ?_; rw [← HB.out]; intro w1 r1 s1 b1; have R1 : Hid (HIs w1 B a ∧ Below W.heap.size W w1 ∧ w1.heap.size = B + 1) := ⟨r1, HB.out ▸ b1, s1⟩; clear r1 s1 b1)
    | (refine wl_alloc rfl rfl ?_; rw [R1.out.2.2]; intro w2 r2 s2 b2; have R2 : Hid (HIs w2 B a ∧ HIs w2 (B + 1) noH ∧ Below W.heap.size W w2 ∧ w2.heap.size = B + 2) := ⟨R1.out.1.next (R1.out.2.2 ▸ b2), r2, below_append R1.out.2.1 (R1.out.2.2 ▸ b2), s2⟩; clear r2 s2 b2)
    | (refine wl_alloc rfl rfl ?_; rw [R2.out.2.2.2]; intro w3 r3 s3 b3; have R3 : Hid (HIs w3 B a ∧ HIs w3 (B + 1) noH ∧ HIs w3 (B + 2) noH ∧ Below W.heap.size W w3 ∧ w3.heap.size = B + 3) := ⟨R2.out.1.next (R2.out.2.2.2 ▸ b3), R2.out.2.1.next (R2.out.2.2.2 ▸ b3), r3, below_append R2.out.2.2.1 (R2.out.2.2.2 ▸ b3), s3⟩; clear r3 s3 b3)
    | (refine wl_lenN (.tmp 33) rfl rfl v row rfl h 0 HK.out ?_))
  obtain ⟨z0, hz0⟩ : ∃ z0 : World, z0 = { w3 with drawn := w3.drawn + 1 } := ⟨_, rfl⟩
  have hS : (Below W.heap.size W z0 ∧ HIs z0 B a) := by rw [hz0]; exact ⟨below_append R3.out.2.2.2.1 (below_drawn w3 _), R3.out.1⟩
  have F10 : HIs z0 (B + 1) noH := by rw [hz0]; exact R3.out.2.1
  have F11 : HIs z0 (B + 2) noH := by rw [hz0]; exact R3.out.2.2.1
  refine wp_region_held (S := fun W' => (Below W.heap.size W W' ∧ HIs W' B a)) (by kernel_rfl) ?_
  show wpAnyH _ _ _ _ _ 5 (Array.replicate 5 false) _ _
  rw [← hz0]
  clear hz0
  refine takeH (i := 0) (some 36) rfl rfl (by kernel_rfl) (by kernel_rfl) (by kernel_rfl) (fun _ _ _ h => h) (yRunW rfl (hv a) (fun W hW => rx_load (.tmp 7) rfl (.pointer (some ⟨B, 0, none⟩)) rfl a (hW.2.at))) hS ?_
  simp only [Act.put, List.setIfInBounds_toArray, List.set_cons_succ, List.set_cons_zero]
  refine takeH (i := 1) (some 37) rfl rfl (by kernel_rfl) (by kernel_rfl) (by kernel_rfl) (fun _ _ _ h => h) (yRunW rfl (hv a) (fun W hW => rx_load (.tmp 7) rfl (.pointer (some ⟨B, 0, none⟩)) rfl a (hW.2.at))) hS ?_
  simp only [Act.put, List.setIfInBounds_toArray, List.set_cons_succ, List.set_cons_zero]
  refine oneH (i := 2) (by kernel_rfl) ?_
  refine opSkip rfl rfl rfl _ (rx_store (.tmp 10) (.tmp 36) rfl (B + 1) rfl noH a HX.out rfl F10) ?_
  have oo : Only (B + 1) z0 (z0.setRow (B + 1) (bcells a).toArray) := (Only.refl (B + 1) z0).setRow _
  have F10' : HIs (z0.setRow (B + 1) (bcells a).toArray) (B + 1) a := his_store HX.out F10
  have F11' : HIs (z0.setRow (B + 1) (bcells a).toArray) (B + 2) noH := F11.other oo (by omega)
  have hS' : (Below W.heap.size W (z0.setRow (B + 1) (bcells a).toArray) ∧ HIs (z0.setRow (B + 1) (bcells a).toArray) B a) := ⟨hS.1.trans (oo.below (by have := HB.out; omega) hS.1.size), hS.2.other oo (by omega)⟩
  refine ⟨hS', ?_⟩
  clear hS F10 F11 oo
  generalize z0.setRow (B + 1) (bcells a).toArray = z1 at hS' F10' F11' ⊢
  have hS := hS'
  have F10 := F10'
  have F11 := F11'
  clear hS' F10' F11'
  refine oneH (i := 3) (by kernel_rfl) ?_
  refine opSkip rfl rfl rfl _ (rx_store (.tmp 11) (.tmp 37) rfl (B + 2) rfl noH a HX.out rfl F11) ?_
  have oo : Only (B + 2) z1 (z1.setRow (B + 2) (bcells a).toArray) := (Only.refl (B + 2) z1).setRow _
  have F11' : HIs (z1.setRow (B + 2) (bcells a).toArray) (B + 2) a := his_store HX.out F11
  have F10' : HIs (z1.setRow (B + 2) (bcells a).toArray) (B + 1) a := F10.other oo (by omega)
  have hS' : (Below W.heap.size W (z1.setRow (B + 2) (bcells a).toArray) ∧ HIs (z1.setRow (B + 2) (bcells a).toArray) B a) := ⟨hS.1.trans (oo.below (by have := HB.out; omega) hS.1.size), hS.2.other oo (by omega)⟩
  refine ⟨hS', ?_⟩
  clear hS F11 F10 oo
  generalize z1.setRow (B + 2) (bcells a).toArray = z2 at hS' F11' F10' ⊢
  have hS := hS'
  have F11 := F11'
  have F10 := F10'
  clear hS' F11' F10'
  refine takeH (i := 4) (some 12) rfl rfl (by kernel_rfl) (by kernel_rfl) (by kernel_rfl) (fun _ _ _ h => h) (yAssign rfl (.const (.bool false)) rfl (.bool false) rfl) hS ?_
  simp only [Act.put, List.setIfInBounds_toArray, List.set_cons_succ, List.set_cons_zero]
  refine wpAnyH_done (by kernel_rfl) ?_ _
  have RZ : Hid (HIs z2 (B + 1) a ∧ HIs z2 (B + 2) a ∧ Below W.heap.size W z2) := ⟨F10, F11, hS.1⟩
  clear F10 F11 hS
  go_wp2_with fail
  exact bodyPost_ret (results_HHB Tryd.results28 _ _ (B + 1) (B + 2) rfl rfl _ _ RZ.out.1 RZ.out.2.1 _ rfl) rfl (RTold.mkNo HU.out rfl HX.out HX.out RZ.out.2.2)
set_option maxHeartbeats 2000000 in
set_option maxRecDepth 100000 in
theorem rtwo_noneN (a : List Nat) (m n : Nat) (whole : Bool) (v : Value) (row : List (List Nat)) (W : World) (h : HIn W v row) (ha : IsH a) (hmn : m ≠ n) (hr : row.length = 0) :
    Calls Tryd.prog 28 #[.int .i64 (m : Nat), .int .i64 (n : Nat), hv a, v, .bool whole] W fun e W' => RTold W (Tree.two m n a row whole) e W' := by
  have HU : Hid (Tree.two m n a row whole = none) := Tree.two_none _ _ _ _ _ (fun h => hmn h.1) hr
  have hne : ((m : Int) == (n : Int)) = false := by simp; omega
  have hne' : ¬ ((m : Int) = (n : Int)) := by omega
  have HK : Hid (row.length = 0) := hr
  clear hr
  have HX : Hid (IsH a) := ha
  obtain ⟨B, hB⟩ : ∃ B, B = W.heap.size := ⟨_, rfl⟩
  have HB : Hid (B = W.heap.size) := hB
  clear ha hB
  go_enter Tryd.func28, Tryd.ntmps28
  go_wp2_with (first
    | (refine wl_box (.tmp 2) rfl rfl a HX.out rfl ?_; rw [← HB.out]; intro w1 r1 s1 b1; have R1 : Hid (HIs w1 B a ∧ Below W.heap.size W w1 ∧ w1.heap.size = B + 1) := ⟨r1, HB.out ▸ b1, s1⟩; clear r1 s1 b1)
    | (refine wl_alloc rfl rfl ?_; rw [R1.out.2.2]; intro w2 r2 s2 b2; have R2 : Hid (HIs w2 B a ∧ HIs w2 (B + 1) noH ∧ Below W.heap.size W w2 ∧ w2.heap.size = B + 2) := ⟨R1.out.1.next (R1.out.2.2 ▸ b2), r2, below_append R1.out.2.1 (R1.out.2.2 ▸ b2), s2⟩; clear r2 s2 b2)
    | (refine wl_alloc rfl rfl ?_; rw [R2.out.2.2.2]; intro w3 r3 s3 b3; have R3 : Hid (HIs w3 B a ∧ HIs w3 (B + 1) noH ∧ HIs w3 (B + 2) noH ∧ Below W.heap.size W w3 ∧ w3.heap.size = B + 3) := ⟨R2.out.1.next (R2.out.2.2.2 ▸ b3), R2.out.2.1.next (R2.out.2.2.2 ▸ b3), r3, below_append R2.out.2.2.1 (R2.out.2.2.2 ▸ b3), s3⟩; clear r3 s3 b3)
    | (refine wl_lenN (.tmp 33) rfl rfl v row rfl h 0 HK.out ?_))
  obtain ⟨z0, hz0⟩ : ∃ z0 : World, z0 = { w3 with drawn := w3.drawn + 1 } := ⟨_, rfl⟩
  have hS : (Below W.heap.size W z0 ∧ HIs z0 B a) := by rw [hz0]; exact ⟨below_append R3.out.2.2.2.1 (below_drawn w3 _), R3.out.1⟩
  have F10 : HIs z0 (B + 1) noH := by rw [hz0]; exact R3.out.2.1
  have F11 : HIs z0 (B + 2) noH := by rw [hz0]; exact R3.out.2.2.1
  refine wp_region_held (S := fun W' => (Below W.heap.size W W' ∧ HIs W' B a)) (by kernel_rfl) ?_
  show wpAnyH _ _ _ _ _ 5 (Array.replicate 5 false) _ _
  rw [← hz0]
  clear hz0
  refine takeH (i := 0) (some 36) rfl rfl (by kernel_rfl) (by kernel_rfl) (by kernel_rfl) (fun _ _ _ h => h) (yRunW rfl (hv a) (fun W hW => rx_load (.tmp 7) rfl (.pointer (some ⟨B, 0, none⟩)) rfl a (hW.2.at))) hS ?_
  simp only [Act.put, List.setIfInBounds_toArray, List.set_cons_succ, List.set_cons_zero]
  refine takeH (i := 1) (some 37) rfl rfl (by kernel_rfl) (by kernel_rfl) (by kernel_rfl) (fun _ _ _ h => h) (yRunW rfl (hv a) (fun W hW => rx_load (.tmp 7) rfl (.pointer (some ⟨B, 0, none⟩)) rfl a (hW.2.at))) hS ?_
  simp only [Act.put, List.setIfInBounds_toArray, List.set_cons_succ, List.set_cons_zero]
  refine oneH (i := 2) (by kernel_rfl) ?_
  refine opSkip rfl rfl rfl _ (rx_store (.tmp 10) (.tmp 36) rfl (B + 1) rfl noH a HX.out rfl F10) ?_
  have oo : Only (B + 1) z0 (z0.setRow (B + 1) (bcells a).toArray) := (Only.refl (B + 1) z0).setRow _
  have F10' : HIs (z0.setRow (B + 1) (bcells a).toArray) (B + 1) a := his_store HX.out F10
  have F11' : HIs (z0.setRow (B + 1) (bcells a).toArray) (B + 2) noH := F11.other oo (by omega)
  have hS' : (Below W.heap.size W (z0.setRow (B + 1) (bcells a).toArray) ∧ HIs (z0.setRow (B + 1) (bcells a).toArray) B a) := ⟨hS.1.trans (oo.below (by have := HB.out; omega) hS.1.size), hS.2.other oo (by omega)⟩
  refine ⟨hS', ?_⟩
  clear hS F10 F11 oo
  generalize z0.setRow (B + 1) (bcells a).toArray = z1 at hS' F10' F11' ⊢
  have hS := hS'
  have F10 := F10'
  have F11 := F11'
  clear hS' F10' F11'
  refine oneH (i := 3) (by kernel_rfl) ?_
  refine opSkip rfl rfl rfl _ (rx_store (.tmp 11) (.tmp 37) rfl (B + 2) rfl noH a HX.out rfl F11) ?_
  have oo : Only (B + 2) z1 (z1.setRow (B + 2) (bcells a).toArray) := (Only.refl (B + 2) z1).setRow _
  have F11' : HIs (z1.setRow (B + 2) (bcells a).toArray) (B + 2) a := his_store HX.out F11
  have F10' : HIs (z1.setRow (B + 2) (bcells a).toArray) (B + 1) a := F10.other oo (by omega)
  have hS' : (Below W.heap.size W (z1.setRow (B + 2) (bcells a).toArray) ∧ HIs (z1.setRow (B + 2) (bcells a).toArray) B a) := ⟨hS.1.trans (oo.below (by have := HB.out; omega) hS.1.size), hS.2.other oo (by omega)⟩
  refine ⟨hS', ?_⟩
  clear hS F11 F10 oo
  generalize z1.setRow (B + 2) (bcells a).toArray = z2 at hS' F11' F10' ⊢
  have hS := hS'
  have F11 := F11'
  have F10 := F10'
  clear hS' F11' F10'
  refine takeH (i := 4) (some 12) rfl rfl (by kernel_rfl) (by kernel_rfl) (by kernel_rfl) (fun _ _ _ h => h) (yAssign rfl (.const (.bool false)) rfl (.bool false) rfl) hS ?_
  simp only [Act.put, List.setIfInBounds_toArray, List.set_cons_succ, List.set_cons_zero]
  refine wpAnyH_done (by kernel_rfl) ?_ _
  have RZ : Hid (HIs z2 (B + 1) a ∧ HIs z2 (B + 2) a ∧ Below W.heap.size W z2) := ⟨F10, F11, hS.1⟩
  clear F10 F11 hS
  go_wp2_with fail
  exact bodyPost_ret (results_HHB Tryd.results28 _ _ (B + 1) (B + 2) rfl rfl _ _ RZ.out.1 RZ.out.2.1 _ rfl) rfl (RTold.mkNo HU.out rfl HX.out HX.out RZ.out.2.2)
set_option maxHeartbeats 4000000 in
set_option maxRecDepth 100000 in
theorem rtwo_last0 (a : List Nat) (n : Nat) (v : Value) (row : List (List Nat)) (W : World) (h : HIn W v row) (ha : IsH a) (hr : row.length ≠ 0) (h1 : row.length = 1) :
    Calls Tryd.prog 28 #[.int .i64 (n : Nat), .int .i64 (n : Nat), hv a, v, .bool false] W fun e W' => RTold W (Tree.two n n a row false) e W' := by
  have hlm := h.max
  obtain ⟨N, hN⟩ : ∃ N, row.length = N + 1 := ⟨row.length - 1, by omega⟩
  have HN : Hid (row.length = N + 1) := hN
  have hNm : N + 1 ≤ 9223372036854775807 := by omega
  have hneN : ((N : Int) + 1 == 0) = false := by simp; omega
  have hneN' : ¬ ((N : Int) + 1 = 0) := by omega
  have hLast : Tree.lastOf row = row.getD N [] := by unfold Tree.lastOf; rw [hN]; rfl
  have hOth : Tree.othersOf row = row.take N := by unfold Tree.othersOf; rw [hN]; rfl
  have HPT : Hid (IsH (row.getD N [])) := by rw [← hLast]; exact last_isH h.all hr

  have HU : Hid (Tree.two n n a row false = some (row.getD N [], row.getD N [])) := by show _ = _; rw [Tree.two_part' _ _ _ _ rfl hr, if_pos h1, hLast]
  obtain ⟨p, hp⟩ : ∃ p, row.getD N [] = p := ⟨_, rfl⟩
  obtain ⟨ys, hys⟩ : ∃ ys, row.take N = ys := ⟨_, rfl⟩
  have HPY : Hid (row.getD N [] = p ∧ row.take N = ys) := ⟨hp, hys⟩
  rw [hp] at HPT
  have HYL : Hid (ys.length = N) := by show _ = _; rw [← hys, List.length_take]; omega
  have HK0 : Hid (decide (((N : Nat) : Int) = 0) = true) := by
    show _ = _
    rw [decide_eq_true (by omega)]
  rw [hp] at HU
  clear hN hr hp hys h1 hLast hOth hlm
  have HX : Hid (IsH a) := ha
  obtain ⟨B, hB⟩ : ∃ B, B = W.heap.size := ⟨_, rfl⟩
  have HB : Hid (B = W.heap.size) := hB
  clear ha hB
  go_enter Tryd.func28, Tryd.ntmps28
  go_wp2_with (first
    | (refine wl_box (.tmp 2) rfl rfl a HX.out rfl ?_; rw [← HB.out]; intro w1 r1 s1 b1; have R1 : Hid (HIs w1 B a ∧ Below W.heap.size W w1 ∧ w1.heap.size = B + 1) := ⟨r1, HB.out ▸ b1, s1⟩; clear r1 s1 b1)
    | (refine wl_alloc rfl rfl ?_; rw [R1.out.2.2]; intro w2 r2 s2 b2; have R2 : Hid (HIs w2 B a ∧ HIs w2 (B + 1) noH ∧ Below W.heap.size W w2 ∧ w2.heap.size = B + 2) := ⟨R1.out.1.next (R1.out.2.2 ▸ b2), r2, below_append R1.out.2.1 (R1.out.2.2 ▸ b2), s2⟩; clear r2 s2 b2)
    | (refine wl_alloc rfl rfl ?_; rw [R2.out.2.2.2]; intro w3 r3 s3 b3; have R3 : Hid (HIs w3 B a ∧ HIs w3 (B + 1) noH ∧ HIs w3 (B + 2) noH ∧ Below W.heap.size W w3 ∧ w3.heap.size = B + 3) := ⟨R2.out.1.next (R2.out.2.2.2 ▸ b3), R2.out.2.1.next (R2.out.2.2.2 ▸ b3), r3, below_append R2.out.2.2.1 (R2.out.2.2.2 ▸ b3), s3⟩; clear r3 s3 b3)
    | (refine wl_lenN (.tmp 33) rfl rfl v row rfl h (N + 1) HN.out ?_)
    | (refine wl_lenN (.tmp 39) rfl rfl v row rfl h (N + 1) HN.out ?_)
    | (refine wl_lenN (.tmp 45) rfl rfl v row rfl h (N + 1) HN.out ?_)
    | (refine wl_index (.tmp 38) (.tmp 41) rfl rfl v row rfl (h.later R3.out.2.2.2.1) _ N rfl (by omega) (by have := HN.out; omega) ?_; intro pa a5; rw [HPY.out.1] at a5; have A5 : Hid (HAt w3 pa p) := a5; clear a5)
    | (refine wl_load (.tmp 42) rfl rfl pa rfl p A5.out ?_)
    | (refine wl_new rfl rfl rfl rfl rfl (.tmp 43) rfl p HPT.out (fun _ => rfl) (fun _ => rfl) ?_; rw [R3.out.2.2.2.2]; intro w4 r4 s4 b4; have R4 : Hid (HIs w4 B a ∧ HIs w4 (B + 1) noH ∧ HIs w4 (B + 2) noH ∧ Below W.heap.size W w4 ∧ HIs w4 (B + 3) p) := ⟨R3.out.1.next (R3.out.2.2.2.2 ▸ b4), R3.out.2.1.next (R3.out.2.2.2.2 ▸ b4), R3.out.2.2.1.next (R3.out.2.2.2.2 ▸ b4), below_append R3.out.2.2.2.1 (R3.out.2.2.2.2 ▸ b4), r4⟩; clear r4 s4 b4)
    | (refine wl_to (.tmp 44) (.tmp 47) rfl rfl v row rfl (h.later R4.out.2.2.2.1) _ N rfl (by omega) (by have := HN.out; omega) ?_; intro vo s6; rw [HPY.out.2] at s6; have S6 : Hid (HIn w4 vo ys) := s6; clear s6))
  obtain ⟨z0, hz0⟩ : ∃ z0 : World, z0 = { w4 with drawn := w4.drawn + 1 } := ⟨_, rfl⟩
  have hS : (Below W.heap.size W z0 ∧ HIs z0 (B + 3) p) := by rw [hz0]; exact ⟨below_append R4.out.2.2.2.1 (below_drawn w4 _), R4.out.2.2.2.2⟩
  have F10 : HIs z0 (B + 1) noH := by rw [hz0]; exact R4.out.2.1
  have F11 : HIs z0 (B + 2) noH := by rw [hz0]; exact R4.out.2.2.1
  refine wp_region_held (S := fun W' => (Below W.heap.size W W' ∧ HIs W' (B + 3) p)) (by kernel_rfl) ?_
  show wpAnyH _ _ _ _ _ 8 (Array.replicate 8 false) _ _
  rw [← hz0]
  clear hz0
  refine takeH (i := 0) (some 52) rfl rfl (by kernel_rfl) (by kernel_rfl) (by kernel_rfl) (fun _ _ _ h => h) (yRunW rfl (hv p) (fun W hW => rx_load (.tmp 13) rfl (.pointer (some ⟨(B + 3), 0, none⟩)) rfl p (hW.2.at))) hS ?_
  simp only [Act.put, List.setIfInBounds_toArray, List.set_cons_succ, List.set_cons_zero]
  refine takeH (i := 1) (some 53) rfl rfl (by kernel_rfl) (by kernel_rfl) (by kernel_rfl) (fun _ _ _ h => h) (yRunW rfl (hv p) (fun W hW => rx_load (.tmp 13) rfl (.pointer (some ⟨(B + 3), 0, none⟩)) rfl p (hW.2.at))) hS ?_
  simp only [Act.put, List.setIfInBounds_toArray, List.set_cons_succ, List.set_cons_zero]
  refine takeH (i := 2) (some 54) rfl rfl (by kernel_rfl) (by kernel_rfl) (by kernel_rfl) (fun _ _ _ h => h) (yMoveW rfl (.tmp 14) rfl (vo) rfl) hS ?_
  simp only [Act.put, List.setIfInBounds_toArray, List.set_cons_succ, List.set_cons_zero]
  refine takeH (i := 3) (some 55) rfl rfl (by kernel_rfl) (by kernel_rfl) (by kernel_rfl) (fun _ _ _ h => h) (yLen rfl (.tmp 54) rfl vo ys rfl _ (S6.out) N HYL.out) hS ?_
  simp only [Act.put, List.setIfInBounds_toArray, List.set_cons_succ, List.set_cons_zero]
  refine takeH (i := 4) (some 56) rfl rfl (by kernel_rfl) (by kernel_rfl) (by kernel_rfl) (fun _ _ _ h => h) (yEqI rfl (.tmp 55) (.const (.int .i64 0)) rfl ((N : Nat) : Int) 0 rfl rfl true HK0.out) hS ?_
  simp only [Act.put, List.setIfInBounds_toArray, List.set_cons_succ, List.set_cons_zero]
  refine oneH (i := 5) (by kernel_rfl) ?_
  refine opSkip rfl rfl rfl _ (rx_store (.tmp 10) (.tmp 52) rfl (B + 1) rfl noH p HPT.out rfl F10) ?_
  have oo : Only (B + 1) z0 (z0.setRow (B + 1) (bcells p).toArray) := (Only.refl (B + 1) z0).setRow _
  have F10' : HIs (z0.setRow (B + 1) (bcells p).toArray) (B + 1) p := his_store HPT.out F10
  have F11' : HIs (z0.setRow (B + 1) (bcells p).toArray) (B + 2) noH := F11.other oo (by omega)
  have hS' : (Below W.heap.size W (z0.setRow (B + 1) (bcells p).toArray) ∧ HIs (z0.setRow (B + 1) (bcells p).toArray) (B + 3) p) := ⟨hS.1.trans (oo.below (by have := HB.out; omega) hS.1.size), hS.2.other oo (by omega)⟩
  refine ⟨hS', ?_⟩
  clear hS F10 F11 oo
  generalize z0.setRow (B + 1) (bcells p).toArray = z1 at hS' F10' F11' ⊢
  have hS := hS'
  have F10 := F10'
  have F11 := F11'
  clear hS' F10' F11'
  refine oneH (i := 6) (by kernel_rfl) ?_
  refine opSkip rfl rfl rfl _ (rx_store (.tmp 11) (.tmp 53) rfl (B + 2) rfl noH p HPT.out rfl F11) ?_
  have oo : Only (B + 2) z1 (z1.setRow (B + 2) (bcells p).toArray) := (Only.refl (B + 2) z1).setRow _
  have F11' : HIs (z1.setRow (B + 2) (bcells p).toArray) (B + 2) p := his_store HPT.out F11
  have F10' : HIs (z1.setRow (B + 2) (bcells p).toArray) (B + 1) p := F10.other oo (by omega)
  have hS' : (Below W.heap.size W (z1.setRow (B + 2) (bcells p).toArray) ∧ HIs (z1.setRow (B + 2) (bcells p).toArray) (B + 3) p) := ⟨hS.1.trans (oo.below (by have := HB.out; omega) hS.1.size), hS.2.other oo (by omega)⟩
  refine ⟨hS', ?_⟩
  clear hS F11 F10 oo
  generalize z1.setRow (B + 2) (bcells p).toArray = z2 at hS' F11' F10' ⊢
  have hS := hS'
  have F11 := F11'
  have F10 := F10'
  clear hS' F11' F10'
  refine takeH (i := 7) (some 12) rfl rfl (by kernel_rfl) (by kernel_rfl) (by kernel_rfl) (fun _ _ _ h => h) (yAssign rfl (.tmp 56) rfl (.bool true) rfl) hS ?_
  simp only [Act.put, List.setIfInBounds_toArray, List.set_cons_succ, List.set_cons_zero]
  refine wpAnyH_done (by kernel_rfl) ?_ _
  have RZ : Hid (HIs z2 (B + 1) p ∧ HIs z2 (B + 2) p ∧ Below W.heap.size W z2) := ⟨F10, F11, hS.1⟩
  clear F10 F11 hS
  go_wp2_with fail
  exact bodyPost_ret (results_HHB Tryd.results28 _ _ (B + 1) (B + 2) rfl rfl _ _ RZ.out.1 RZ.out.2.1 _ rfl) rfl (RTold.mk HU.out rfl HPT.out HPT.out RZ.out.2.2)
set_option maxHeartbeats 4000000 in
set_option maxRecDepth 100000 in
theorem rtwo_last1 (a : List Nat) (n : Nat) (v : Value) (row : List (List Nat)) (W : World) (h : HIn W v row) (ha : IsH a) (hr : row.length ≠ 0) (h1 : row.length ≠ 1) :
    Calls Tryd.prog 28 #[.int .i64 (n : Nat), .int .i64 (n : Nat), hv a, v, .bool false] W fun e W' => RTold W (Tree.two n n a row false) e W' := by
  have hlm := h.max
  obtain ⟨N, hN⟩ : ∃ N, row.length = N + 1 := ⟨row.length - 1, by omega⟩
  have HN : Hid (row.length = N + 1) := hN
  have hNm : N + 1 ≤ 9223372036854775807 := by omega
  have hneN : ((N : Int) + 1 == 0) = false := by simp; omega
  have hneN' : ¬ ((N : Int) + 1 = 0) := by omega
  have hLast : Tree.lastOf row = row.getD N [] := by unfold Tree.lastOf; rw [hN]; rfl
  have hOth : Tree.othersOf row = row.take N := by unfold Tree.othersOf; rw [hN]; rfl
  have HPT : Hid (IsH (row.getD N [])) := by rw [← hLast]; exact last_isH h.all hr

  have HU : Hid (Tree.two n n a row false = none) := by show _ = _; rw [Tree.two_part' _ _ _ _ rfl hr, if_neg h1]
  obtain ⟨p, hp⟩ : ∃ p, row.getD N [] = p := ⟨_, rfl⟩
  obtain ⟨ys, hys⟩ : ∃ ys, row.take N = ys := ⟨_, rfl⟩
  have HPY : Hid (row.getD N [] = p ∧ row.take N = ys) := ⟨hp, hys⟩
  rw [hp] at HPT
  have HYL : Hid (ys.length = N) := by show _ = _; rw [← hys, List.length_take]; omega
  have HK0 : Hid (decide (((N : Nat) : Int) = 0) = false) := by
    show _ = _
    rw [decide_eq_false (by omega)]

  clear hN hr hp hys h1 hLast hOth hlm
  have HX : Hid (IsH a) := ha
  obtain ⟨B, hB⟩ : ∃ B, B = W.heap.size := ⟨_, rfl⟩
  have HB : Hid (B = W.heap.size) := hB
  clear ha hB
  go_enter Tryd.func28, Tryd.ntmps28
  go_wp2_with (first
    | (refine wl_box (.tmp 2) rfl rfl a HX.out rfl ?_; rw [← HB.out]; intro w1 r1 s1 b1; have R1 : Hid (HIs w1 B a ∧ Below W.heap.size W w1 ∧ w1.heap.size = B + 1) := ⟨r1, HB.out ▸ b1, s1⟩; clear r1 s1 b1)
    | (refine wl_alloc rfl rfl ?_; rw [R1.out.2.2]; intro w2 r2 s2 b2; have R2 : Hid (HIs w2 B a ∧ HIs w2 (B + 1) noH ∧ Below W.heap.size W w2 ∧ w2.heap.size = B + 2) := ⟨R1.out.1.next (R1.out.2.2 ▸ b2), r2, below_append R1.out.2.1 (R1.out.2.2 ▸ b2), s2⟩; clear r2 s2 b2)
    | (refine wl_alloc rfl rfl ?_; rw [R2.out.2.2.2]; intro w3 r3 s3 b3; have R3 : Hid (HIs w3 B a ∧ HIs w3 (B + 1) noH ∧ HIs w3 (B + 2) noH ∧ Below W.heap.size W w3 ∧ w3.heap.size = B + 3) := ⟨R2.out.1.next (R2.out.2.2.2 ▸ b3), R2.out.2.1.next (R2.out.2.2.2 ▸ b3), r3, below_append R2.out.2.2.1 (R2.out.2.2.2 ▸ b3), s3⟩; clear r3 s3 b3)
    | (refine wl_lenN (.tmp 33) rfl rfl v row rfl h (N + 1) HN.out ?_)
    | (refine wl_lenN (.tmp 39) rfl rfl v row rfl h (N + 1) HN.out ?_)
    | (refine wl_lenN (.tmp 45) rfl rfl v row rfl h (N + 1) HN.out ?_)
    | (refine wl_index (.tmp 38) (.tmp 41) rfl rfl v row rfl (h.later R3.out.2.2.2.1) _ N rfl (by omega) (by have := HN.out; omega) ?_; intro pa a5; rw [HPY.out.1] at a5; have A5 : Hid (HAt w3 pa p) := a5; clear a5)
    | (refine wl_load (.tmp 42) rfl rfl pa rfl p A5.out ?_)
    | (refine wl_new rfl rfl rfl rfl rfl (.tmp 43) rfl p HPT.out (fun _ => rfl) (fun _ => rfl) ?_; rw [R3.out.2.2.2.2]; intro w4 r4 s4 b4; have R4 : Hid (HIs w4 B a ∧ HIs w4 (B + 1) noH ∧ HIs w4 (B + 2) noH ∧ Below W.heap.size W w4 ∧ HIs w4 (B + 3) p) := ⟨R3.out.1.next (R3.out.2.2.2.2 ▸ b4), R3.out.2.1.next (R3.out.2.2.2.2 ▸ b4), R3.out.2.2.1.next (R3.out.2.2.2.2 ▸ b4), below_append R3.out.2.2.2.1 (R3.out.2.2.2.2 ▸ b4), r4⟩; clear r4 s4 b4)
    | (refine wl_to (.tmp 44) (.tmp 47) rfl rfl v row rfl (h.later R4.out.2.2.2.1) _ N rfl (by omega) (by have := HN.out; omega) ?_; intro vo s6; rw [HPY.out.2] at s6; have S6 : Hid (HIn w4 vo ys) := s6; clear s6))
  obtain ⟨z0, hz0⟩ : ∃ z0 : World, z0 = { w4 with drawn := w4.drawn + 1 } := ⟨_, rfl⟩
  have hS : (Below W.heap.size W z0 ∧ HIs z0 (B + 3) p) := by rw [hz0]; exact ⟨below_append R4.out.2.2.2.1 (below_drawn w4 _), R4.out.2.2.2.2⟩
  have F10 : HIs z0 (B + 1) noH := by rw [hz0]; exact R4.out.2.1
  have F11 : HIs z0 (B + 2) noH := by rw [hz0]; exact R4.out.2.2.1
  refine wp_region_held (S := fun W' => (Below W.heap.size W W' ∧ HIs W' (B + 3) p)) (by kernel_rfl) ?_
  show wpAnyH _ _ _ _ _ 8 (Array.replicate 8 false) _ _
  rw [← hz0]
  clear hz0
  refine takeH (i := 0) (some 52) rfl rfl (by kernel_rfl) (by kernel_rfl) (by kernel_rfl) (fun _ _ _ h => h) (yRunW rfl (hv p) (fun W hW => rx_load (.tmp 13) rfl (.pointer (some ⟨(B + 3), 0, none⟩)) rfl p (hW.2.at))) hS ?_
  simp only [Act.put, List.setIfInBounds_toArray, List.set_cons_succ, List.set_cons_zero]
  refine takeH (i := 1) (some 53) rfl rfl (by kernel_rfl) (by kernel_rfl) (by kernel_rfl) (fun _ _ _ h => h) (yRunW rfl (hv p) (fun W hW => rx_load (.tmp 13) rfl (.pointer (some ⟨(B + 3), 0, none⟩)) rfl p (hW.2.at))) hS ?_
  simp only [Act.put, List.setIfInBounds_toArray, List.set_cons_succ, List.set_cons_zero]
  refine takeH (i := 2) (some 54) rfl rfl (by kernel_rfl) (by kernel_rfl) (by kernel_rfl) (fun _ _ _ h => h) (yMoveW rfl (.tmp 14) rfl (vo) rfl) hS ?_
  simp only [Act.put, List.setIfInBounds_toArray, List.set_cons_succ, List.set_cons_zero]
  refine takeH (i := 3) (some 55) rfl rfl (by kernel_rfl) (by kernel_rfl) (by kernel_rfl) (fun _ _ _ h => h) (yLen rfl (.tmp 54) rfl vo ys rfl _ (S6.out) N HYL.out) hS ?_
  simp only [Act.put, List.setIfInBounds_toArray, List.set_cons_succ, List.set_cons_zero]
  refine takeH (i := 4) (some 56) rfl rfl (by kernel_rfl) (by kernel_rfl) (by kernel_rfl) (fun _ _ _ h => h) (yEqI rfl (.tmp 55) (.const (.int .i64 0)) rfl ((N : Nat) : Int) 0 rfl rfl false HK0.out) hS ?_
  simp only [Act.put, List.setIfInBounds_toArray, List.set_cons_succ, List.set_cons_zero]
  refine oneH (i := 5) (by kernel_rfl) ?_
  refine opSkip rfl rfl rfl _ (rx_store (.tmp 10) (.tmp 52) rfl (B + 1) rfl noH p HPT.out rfl F10) ?_
  have oo : Only (B + 1) z0 (z0.setRow (B + 1) (bcells p).toArray) := (Only.refl (B + 1) z0).setRow _
  have F10' : HIs (z0.setRow (B + 1) (bcells p).toArray) (B + 1) p := his_store HPT.out F10
  have F11' : HIs (z0.setRow (B + 1) (bcells p).toArray) (B + 2) noH := F11.other oo (by omega)
  have hS' : (Below W.heap.size W (z0.setRow (B + 1) (bcells p).toArray) ∧ HIs (z0.setRow (B + 1) (bcells p).toArray) (B + 3) p) := ⟨hS.1.trans (oo.below (by have := HB.out; omega) hS.1.size), hS.2.other oo (by omega)⟩
  refine ⟨hS', ?_⟩
  clear hS F10 F11 oo
  generalize z0.setRow (B + 1) (bcells p).toArray = z1 at hS' F10' F11' ⊢
  have hS := hS'
  have F10 := F10'
  have F11 := F11'
  clear hS' F10' F11'
  refine oneH (i := 6) (by kernel_rfl) ?_
  refine opSkip rfl rfl rfl _ (rx_store (.tmp 11) (.tmp 53) rfl (B + 2) rfl noH p HPT.out rfl F11) ?_
  have oo : Only (B + 2) z1 (z1.setRow (B + 2) (bcells p).toArray) := (Only.refl (B + 2) z1).setRow _
  have F11' : HIs (z1.setRow (B + 2) (bcells p).toArray) (B + 2) p := his_store HPT.out F11
  have F10' : HIs (z1.setRow (B + 2) (bcells p).toArray) (B + 1) p := F10.other oo (by omega)
  have hS' : (Below W.heap.size W (z1.setRow (B + 2) (bcells p).toArray) ∧ HIs (z1.setRow (B + 2) (bcells p).toArray) (B + 3) p) := ⟨hS.1.trans (oo.below (by have := HB.out; omega) hS.1.size), hS.2.other oo (by omega)⟩
  refine ⟨hS', ?_⟩
  clear hS F11 F10 oo
  generalize z1.setRow (B + 2) (bcells p).toArray = z2 at hS' F11' F10' ⊢
  have hS := hS'
  have F11 := F11'
  have F10 := F10'
  clear hS' F11' F10'
  refine takeH (i := 7) (some 12) rfl rfl (by kernel_rfl) (by kernel_rfl) (by kernel_rfl) (fun _ _ _ h => h) (yAssign rfl (.tmp 56) rfl (.bool false) rfl) hS ?_
  simp only [Act.put, List.setIfInBounds_toArray, List.set_cons_succ, List.set_cons_zero]
  refine wpAnyH_done (by kernel_rfl) ?_ _
  have RZ : Hid (HIs z2 (B + 1) p ∧ HIs z2 (B + 2) p ∧ Below W.heap.size W z2) := ⟨F10, F11, hS.1⟩
  clear F10 F11 hS
  go_wp2_with fail
  exact bodyPost_ret (results_HHB Tryd.results28 _ _ (B + 1) (B + 2) rfl rfl _ _ RZ.out.1 RZ.out.2.1 _ rfl) rfl (RTold.mkNo HU.out rfl HPT.out HPT.out RZ.out.2.2)
set_option maxHeartbeats 16000000 in
set_option maxRecDepth 100000 in
theorem rtwo_any (a : List Nat) (ha : IsH a) : ∀ (n m : Nat) (whole : Bool) (v : Value) (row : List (List Nat)) (W : World), 1 ≤ m → n ≤ 9223372036854775807 → m ≤ n → HIn W v row →
    Calls Tryd.prog 28 #[.int .i64 (m : Nat), .int .i64 (n : Nat), hv a, v, .bool whole] W fun e W' => RTold W (Tree.two m n a row whole) e W' := by
  intro n
  induction n using Nat.strongRecOn with
  | _ n ih =>
  intro m whole v row W h1 hmax hm h
  by_cases hmn : m = n
  · subst hmn
    cases whole with
    | true =>
      by_cases hr : row.length = 0
      · exact rtwo_whole0 a m v row W h ha hr
      · exact rtwo_whole1 a m v row W h ha hr
    | false =>
      by_cases hr : row.length = 0
      · exact rtwo_noneE a m v row W h ha hr
      · by_cases hr1 : row.length = 1
        · exact rtwo_last0 a m v row W h ha hr hr1
        · exact rtwo_last1 a m v row W h ha hr hr1
  by_cases hr : row.length = 0
  · exact rtwo_noneN a m n whole v row W h ha hmn hr
  have h2 : 2 ≤ n := by omega
  have hne : ((m : Int) == (n : Int)) = false := by simp; omega
  have hne' : ¬ ((m : Int) = (n : Int)) := by omega
  have hlm := h.max
  obtain ⟨N, hN⟩ : ∃ N, row.length = N + 1 := ⟨row.length - 1, by omega⟩
  have HN : Hid (row.length = N + 1) := hN
  have hNm : N + 1 ≤ 9223372036854775807 := by omega
  have hneN : ((N : Int) + 1 == 0) = false := by simp; omega
  have hneN' : ¬ ((N : Int) + 1 = 0) := by omega
  have hLast : Tree.lastOf row = row.getD N [] := by unfold Tree.lastOf; rw [hN]; rfl
  have hOth : Tree.othersOf row = row.take N := by unfold Tree.othersOf; rw [hN]; rfl
  have HPT : Hid (IsH (row.getD N [])) := by rw [← hLast]; exact last_isH h.all hr
  have hk := Tree.half_lt n h2
  have hkp := Tree.half_pos n
  have HK : Hid (∀ W, Calls Tryd.prog 41 #[.int .i64 (n : Nat)] W fun e w' => e = .returned (.int .i64 (Tree.half n : Nat)) ∧ W = w') := fun W => below41 n W h2 hmax
  have HX : Hid (IsH a) := ha
  obtain ⟨B, hB⟩ : ∃ B, B = W.heap.size := ⟨_, rfl⟩
  have HB : Hid (B = W.heap.size) := hB
  clear hB
  by_cases hlow : m ≤ Tree.half n
  · have HU : Hid (Tree.two m n a row whole = (Tree.two m (Tree.half n) a (Tree.othersOf row) whole).map fun w => (w.1, Tree.node w.2 (Tree.lastOf row))) := Tree.two_low m n a row whole h2 hmn hr hlow
    rw [hLast, hOth] at HU
    generalize Tree.half n = k at hk hkp HK HU hlow
    have hlow' : (m : Int) ≤ (k : Int) := by omega
    obtain ⟨p, hp⟩ : ∃ p, row.getD N [] = p := ⟨_, rfl⟩
    obtain ⟨ys, hys⟩ : ∃ ys, row.take N = ys := ⟨_, rfl⟩
    have HPY : Hid (row.getD N [] = p ∧ row.take N = ys) := ⟨hp, hys⟩
    rw [hp] at HPT
    rw [hp, hys] at HU
    clear hN hr hp hys hLast hOth hlm
    go_enter Tryd.func28, Tryd.ntmps28
    go_wp2_with (first
      | (refine wl_box (.tmp 2) rfl rfl a HX.out rfl ?_; rw [← HB.out]; intro w1 r1 s1 b1; have R1 : Hid (HIs w1 B a ∧ Below W.heap.size W w1 ∧ w1.heap.size = B + 1) := ⟨r1, HB.out ▸ b1, s1⟩; clear r1 s1 b1)
      | (refine wl_alloc rfl rfl ?_; rw [R1.out.2.2]; intro w2 r2 s2 b2; have R2 : Hid (HIs w2 B a ∧ HIs w2 (B + 1) noH ∧ Below W.heap.size W w2 ∧ w2.heap.size = B + 2) := ⟨R1.out.1.next (R1.out.2.2 ▸ b2), r2, below_append R1.out.2.1 (R1.out.2.2 ▸ b2), s2⟩; clear r2 s2 b2)
      | (refine wl_alloc rfl rfl ?_; rw [R2.out.2.2.2]; intro w3 r3 s3 b3; have R3 : Hid (HIs w3 B a ∧ HIs w3 (B + 1) noH ∧ HIs w3 (B + 2) noH ∧ Below W.heap.size W w3 ∧ w3.heap.size = B + 3) := ⟨R2.out.1.next (R2.out.2.2.2 ▸ b3), R2.out.2.1.next (R2.out.2.2.2 ▸ b3), r3, below_append R2.out.2.2.1 (R2.out.2.2.2 ▸ b3), s3⟩; clear r3 s3 b3)
      | (refine wl_lenN (.tmp 33) rfl rfl v row rfl h (N + 1) HN.out ?_)
      | (refine wl_lenN (.tmp 39) rfl rfl v row rfl h (N + 1) HN.out ?_)
      | (refine wl_lenN (.tmp 45) rfl rfl v row rfl h (N + 1) HN.out ?_)
      | (refine wl_index (.tmp 38) (.tmp 41) rfl rfl v row rfl (h.later R3.out.2.2.2.1) _ N rfl (by omega) (by have := HN.out; omega) ?_; intro pa a5; rw [HPY.out.1] at a5; have A5 : Hid (HAt w3 pa p) := a5; clear a5)
      | (refine wl_load (.tmp 42) rfl rfl pa rfl p A5.out ?_)
      | (refine wl_new rfl rfl rfl rfl rfl (.tmp 43) rfl p HPT.out (fun _ => rfl) (fun _ => rfl) ?_; rw [R3.out.2.2.2.2]; intro w4 r4 s4 b4; have R4 : Hid (HIs w4 B a ∧ HIs w4 (B + 1) noH ∧ HIs w4 (B + 2) noH ∧ Below W.heap.size W w4 ∧ HIs w4 (B + 3) p) := ⟨R3.out.1.next (R3.out.2.2.2.2 ▸ b4), R3.out.2.1.next (R3.out.2.2.2.2 ▸ b4), R3.out.2.2.1.next (R3.out.2.2.2.2 ▸ b4), below_append R3.out.2.2.2.1 (R3.out.2.2.2.2 ▸ b4), r4⟩; clear r4 s4 b4)
      | (refine wl_to (.tmp 44) (.tmp 47) rfl rfl v row rfl (h.later R4.out.2.2.2.1) _ N rfl (by omega) (by have := HN.out; omega) ?_; intro vo s6; rw [HPY.out.2] at s6; have S6 : Hid (HIn w4 vo ys) := s6; clear s6)
      | (go_at_call 41; refine (HK.out _).mono ?_; rintro e w5 ⟨rfl, w5e⟩; have R5 : Hid (HIs w5 B a ∧ HIs w5 (B + 1) noH ∧ HIs w5 (B + 2) noH ∧ Below W.heap.size W w5 ∧ HIs w5 (B + 3) p ∧ HIn w5 vo ys) := (by rw [← w5e]; exact ⟨R4.out.1, R4.out.2.1, R4.out.2.2.1, R4.out.2.2.2.1, R4.out.2.2.2.2, S6.out⟩); clear w5e)
      | (refine wl_load (.tmp 7) rfl rfl _ rfl a R5.out.1.at ?_))
    refine (ih k (by omega) m whole vo ys w5 h1 (by omega) (by omega) R5.out.2.2.2.2.2).mono ?_
    rintro e w6 ⟨x, y, rfl, hq, hy, b6⟩
    obtain ⟨bb, hbb⟩ : ∃ bb, (Tree.two m k a ys whole).isSome = bb := ⟨_, rfl⟩
    rw [hbb]
    have HBB : Hid ((Tree.two m k a ys whole).isSome = bb ∧ ∀ z, (Tree.two m k a ys whole) = some z → (x, y) = z) := ⟨hbb, hy⟩
    have R6 : Hid (HIs w6 (B + 1) noH ∧ HIs w6 (B + 2) noH ∧ Below W.heap.size W w6 ∧ HIs w6 (B + 3) p ∧ IsH x ∧ IsH y) := ⟨R5.out.2.1.next b6, R5.out.2.2.1.next b6, below_append R5.out.2.2.2.1 b6, R5.out.2.2.2.2.1.next b6, hq⟩
    clear hq hy b6 hbb R5
    go_wp2_with (first
      | (refine wl_alloc rfl rfl ?_; intro w7 r7 s7 b7; have R7 : Hid (HIs w7 (B + 1) noH ∧ HIs w7 (B + 2) noH ∧ Below W.heap.size W w7 ∧ HIs w7 (B + 3) p ∧ HIs w7 w6.heap.size noH ∧ (B + 3 < w6.heap.size ∧ w7.heap.size = w6.heap.size + 1)) := ⟨R6.out.1.next b7, R6.out.2.1.next b7, below_append R6.out.2.2.1 b7, R6.out.2.2.2.1.next b7, r7, R6.out.2.2.2.1.lt, s7⟩; clear r7 s7 b7)
      | (refine wl_alloc rfl rfl ?_; rw [R7.out.2.2.2.2.2.2]; intro w8 r8 s8 b8; have R8 : Hid (HIs w8 (B + 1) noH ∧ HIs w8 (B + 2) noH ∧ Below W.heap.size W w8 ∧ HIs w8 (B + 3) p ∧ HIs w8 w6.heap.size noH ∧ HIs w8 (w6.heap.size + 1) noH ∧ B + 3 < w6.heap.size) := (by rw [← R7.out.2.2.2.2.2.2] at b8 r8 ⊢; exact ⟨R7.out.1.next b8, R7.out.2.1.next b8, below_append R7.out.2.2.1 b8, R7.out.2.2.2.1.next b8, R7.out.2.2.2.2.1.next b8, r8, R7.out.2.2.2.2.2.1⟩); clear r8 s8 b8)
      | (refine wl_store (.tmp 16) (.tmp 69) rfl rfl rfl w6.heap.size rfl noH x R6.out.2.2.2.2.1 rfl R8.out.2.2.2.2.1 ?_; intro w9 r9 o9 s9; have R9 : Hid (HIs w9 (B + 1) noH ∧ HIs w9 (B + 2) noH ∧ Below W.heap.size W w9 ∧ HIs w9 (B + 3) p ∧ HIs w9 w6.heap.size x ∧ HIs w9 (w6.heap.size + 1) noH ∧ B + 3 < w6.heap.size) := (by have k8 := R8.out.2.2.2.2.2.2; have kB := HB.out; exact ⟨R8.out.1.other o9 (by omega), R8.out.2.1.other o9 (by omega), R8.out.2.2.1.trans (o9.below (by omega) R8.out.2.2.1.size), R8.out.2.2.2.1.other o9 (by omega), r9, R8.out.2.2.2.2.2.1.other o9 (by omega), k8⟩); clear r9 o9 s9)
      | (refine wl_store (.tmp 17) (.tmp 70) rfl rfl rfl (w6.heap.size + 1) rfl noH y R6.out.2.2.2.2.2 rfl R9.out.2.2.2.2.2.1 ?_; intro wa ra oa sa; have RA : Hid (HIs wa (B + 1) noH ∧ HIs wa (B + 2) noH ∧ Below W.heap.size W wa ∧ HIs wa (B + 3) p ∧ HIs wa w6.heap.size x ∧ HIs wa (w6.heap.size + 1) y ∧ B + 3 < w6.heap.size) := (by have k8 := R8.out.2.2.2.2.2.2; have kB := HB.out; exact ⟨R9.out.1.other oa (by omega), R9.out.2.1.other oa (by omega), R9.out.2.2.1.trans (oa.below (by omega) R9.out.2.2.1.size), R9.out.2.2.2.1.other oa (by omega), R9.out.2.2.2.2.1.other oa (by omega), ra, k8⟩); clear ra oa sa))
    generalize w6.heap.size = G at RA ⊢
    clear R7 R8 R9
    obtain ⟨z0, hz0⟩ : ∃ z0 : World, z0 = { wa with drawn := wa.drawn + 1 } := ⟨_, rfl⟩
    have hS : (Below W.heap.size W z0 ∧ HIs z0 (B + 3) p ∧ HIs z0 G x ∧ HIs z0 (G + 1) y) := by rw [hz0]; exact ⟨below_append RA.out.2.2.1 (below_drawn wa _), RA.out.2.2.2.1, RA.out.2.2.2.2.1, RA.out.2.2.2.2.2.1⟩
    have F10 : HIs z0 (B + 1) noH := by rw [hz0]; exact RA.out.1
    have F11 : HIs z0 (B + 2) noH := by rw [hz0]; exact RA.out.2.1
    refine wp_region_held (S := fun W' => (Below W.heap.size W W' ∧ HIs W' (B + 3) p ∧ HIs W' G x ∧ HIs W' (G + 1) y)) (by kernel_rfl) ?_
    show wpAnyH _ _ _ _ _ 8 (Array.replicate 8 false) _ _
    rw [← hz0]
    clear hz0
    refine takeH (i := 0) (some 72) rfl rfl (by kernel_rfl) (by kernel_rfl) (by kernel_rfl) (fun _ _ _ h => h) (yRunW rfl (hv x) (fun W hW => rx_load (.tmp 16) rfl (.pointer (some ⟨G, 0, none⟩)) rfl x (hW.2.2.1.at))) hS ?_
    simp only [Act.put, List.setIfInBounds_toArray, List.set_cons_succ, List.set_cons_zero]
    refine takeH (i := 1) (some 73) rfl rfl (by kernel_rfl) (by kernel_rfl) (by kernel_rfl) (fun _ _ _ h => h) (yRunW rfl (hv y) (fun W hW => rx_load (.tmp 17) rfl (.pointer (some ⟨(G + 1), 0, none⟩)) rfl y (hW.2.2.2.at))) hS ?_
    simp only [Act.put, List.setIfInBounds_toArray, List.set_cons_succ, List.set_cons_zero]
    refine takeH (i := 2) (some 74) rfl rfl (by kernel_rfl) (by kernel_rfl) (by kernel_rfl) (fun _ _ _ h => h) (yRunW rfl (hv p) (fun W hW => rx_load (.tmp 13) rfl (.pointer (some ⟨(B + 3), 0, none⟩)) rfl p (hW.2.1.at))) hS ?_
    simp only [Act.put, List.setIfInBounds_toArray, List.set_cons_succ, List.set_cons_zero]
    refine takeH (i := 4) (some 76) rfl rfl (by kernel_rfl) (by kernel_rfl) (by kernel_rfl) (fun _ _ _ h => h) (yMoveW rfl (.tmp 18) rfl (.bool bb) rfl) hS ?_
    simp only [Act.put, List.setIfInBounds_toArray, List.set_cons_succ, List.set_cons_zero]
    refine oneH (i := 3) (by kernel_rfl) ?_
    refine opCallW (some 75) rfl rfl rfl 36 _ (run_call en36' [.tmp 73, .tmp 74] _ rfl [hv y, hv p] rfl) ?_
    refine (refNode_any y p R6.out.2.2.2.2.2 HPT.out _).mono ?_
    rintro e z1 ⟨rfl, bb⟩
    have hS' : (Below W.heap.size W z1 ∧ HIs z1 (B + 3) p ∧ HIs z1 G x ∧ HIs z1 (G + 1) y) := ⟨below_append hS.1 bb, hS.2.1.next bb, hS.2.2.1.next bb, hS.2.2.2.next bb⟩
    refine ⟨_, rfl, hS', ?_⟩
    have F10' : HIs z1 (B + 1) noH := F10.next bb
    clear F10
    have F10 := F10'
    clear F10'
    have F11' : HIs z1 (B + 2) noH := F11.next bb
    clear F11
    have F11 := F11'
    clear F11'
    clear hS bb
    have hS := hS'
    clear hS'
    simp only [Act.put, List.setIfInBounds_toArray, List.set_cons_succ, List.set_cons_zero]
    refine oneH (i := 5) (by kernel_rfl) ?_
    refine opSkip rfl rfl rfl _ (rx_store (.tmp 10) (.tmp 72) rfl (B + 1) rfl noH x R6.out.2.2.2.2.1 rfl F10) ?_
    have oo : Only (B + 1) z1 (z1.setRow (B + 1) (bcells x).toArray) := (Only.refl (B + 1) z1).setRow _
    have F10' : HIs (z1.setRow (B + 1) (bcells x).toArray) (B + 1) x := his_store R6.out.2.2.2.2.1 F10
    have F11' : HIs (z1.setRow (B + 1) (bcells x).toArray) (B + 2) noH := F11.other oo (by omega)
    have hS' : (Below W.heap.size W (z1.setRow (B + 1) (bcells x).toArray) ∧ HIs (z1.setRow (B + 1) (bcells x).toArray) (B + 3) p ∧ HIs (z1.setRow (B + 1) (bcells x).toArray) G x ∧ HIs (z1.setRow (B + 1) (bcells x).toArray) (G + 1) y) := ⟨hS.1.trans (oo.below (by have := HB.out; omega) hS.1.size), hS.2.1.other oo (by have := RA.out.2.2.2.2.2.2; omega), hS.2.2.1.other oo (by have := RA.out.2.2.2.2.2.2; omega), hS.2.2.2.other oo (by have := RA.out.2.2.2.2.2.2; omega)⟩
    refine ⟨hS', ?_⟩
    clear hS F10 F11 oo
    generalize z1.setRow (B + 1) (bcells x).toArray = z2 at hS' F10' F11' ⊢
    have hS := hS'
    have F10 := F10'
    have F11 := F11'
    clear hS' F10' F11'
    refine oneH (i := 6) (by kernel_rfl) ?_
    refine opSkip rfl rfl rfl _ (rx_store (.tmp 11) (.tmp 75) rfl (B + 2) rfl noH (Tree.node y p) (node_isH _ _) rfl F11) ?_
    have oo : Only (B + 2) z2 (z2.setRow (B + 2) (bcells (Tree.node y p)).toArray) := (Only.refl (B + 2) z2).setRow _
    have F11' : HIs (z2.setRow (B + 2) (bcells (Tree.node y p)).toArray) (B + 2) (Tree.node y p) := his_store (node_isH _ _) F11
    have F10' : HIs (z2.setRow (B + 2) (bcells (Tree.node y p)).toArray) (B + 1) x := F10.other oo (by omega)
    have hS' : (Below W.heap.size W (z2.setRow (B + 2) (bcells (Tree.node y p)).toArray) ∧ HIs (z2.setRow (B + 2) (bcells (Tree.node y p)).toArray) (B + 3) p ∧ HIs (z2.setRow (B + 2) (bcells (Tree.node y p)).toArray) G x ∧ HIs (z2.setRow (B + 2) (bcells (Tree.node y p)).toArray) (G + 1) y) := ⟨hS.1.trans (oo.below (by have := HB.out; omega) hS.1.size), hS.2.1.other oo (by have := RA.out.2.2.2.2.2.2; omega), hS.2.2.1.other oo (by have := RA.out.2.2.2.2.2.2; omega), hS.2.2.2.other oo (by have := RA.out.2.2.2.2.2.2; omega)⟩
    refine ⟨hS', ?_⟩
    clear hS F11 F10 oo
    generalize z2.setRow (B + 2) (bcells (Tree.node y p)).toArray = z3 at hS' F11' F10' ⊢
    have hS := hS'
    have F11 := F11'
    have F10 := F10'
    clear hS' F11' F10'
    refine takeH (i := 7) (some 12) rfl rfl (by kernel_rfl) (by kernel_rfl) (by kernel_rfl) (fun _ _ _ h => h) (yAssign rfl (.tmp 76) rfl (.bool bb) rfl) hS ?_
    simp only [Act.put, List.setIfInBounds_toArray, List.set_cons_succ, List.set_cons_zero]
    refine wpAnyH_done (by kernel_rfl) ?_ _
    have RZ : Hid (HIs z3 (B + 1) x ∧ HIs z3 (B + 2) (Tree.node y p) ∧ Below W.heap.size W z3) := ⟨F10, F11, hS.1⟩
    clear F10 F11 hS
    go_wp2_with fail
    refine bodyPost_ret (results_HHB Tryd.results28 _ _ (B + 1) (B + 2) rfl rfl _ _ RZ.out.1 RZ.out.2.1 _ rfl) rfl ?_
    rw [HU.out]
    exact RTold.mapped HBB.out.1 HBB.out.2 rfl rfl R6.out.2.2.2.2.1 (node_isH _ _) RZ.out.2.2
  · have HU : Hid (Tree.two m n a row whole = (Tree.two (m - Tree.half n) (n - Tree.half n) a (Tree.othersOf row) false).map fun w => (Tree.node (Tree.lastOf row) w.1, Tree.node (Tree.lastOf row) w.2)) := Tree.two_high m n a row whole h2 hmn hr hlow
    rw [hLast, hOth] at HU
    generalize Tree.half n = k at hk hkp HK HU hlow
    have hlow' : ¬ (m : Int) ≤ (k : Int) := by omega
    obtain ⟨p, hp⟩ : ∃ p, row.getD N [] = p := ⟨_, rfl⟩
    obtain ⟨ys, hys⟩ : ∃ ys, row.take N = ys := ⟨_, rfl⟩
    have HPY : Hid (row.getD N [] = p ∧ row.take N = ys) := ⟨hp, hys⟩
    rw [hp] at HPT
    rw [hp, hys] at HU
    clear hN hr hp hys hLast hOth hlm
    go_enter Tryd.func28, Tryd.ntmps28
    go_wp2_with (first
      | (refine wl_box (.tmp 2) rfl rfl a HX.out rfl ?_; rw [← HB.out]; intro w1 r1 s1 b1; have R1 : Hid (HIs w1 B a ∧ Below W.heap.size W w1 ∧ w1.heap.size = B + 1) := ⟨r1, HB.out ▸ b1, s1⟩; clear r1 s1 b1)
      | (refine wl_alloc rfl rfl ?_; rw [R1.out.2.2]; intro w2 r2 s2 b2; have R2 : Hid (HIs w2 B a ∧ HIs w2 (B + 1) noH ∧ Below W.heap.size W w2 ∧ w2.heap.size = B + 2) := ⟨R1.out.1.next (R1.out.2.2 ▸ b2), r2, below_append R1.out.2.1 (R1.out.2.2 ▸ b2), s2⟩; clear r2 s2 b2)
      | (refine wl_alloc rfl rfl ?_; rw [R2.out.2.2.2]; intro w3 r3 s3 b3; have R3 : Hid (HIs w3 B a ∧ HIs w3 (B + 1) noH ∧ HIs w3 (B + 2) noH ∧ Below W.heap.size W w3 ∧ w3.heap.size = B + 3) := ⟨R2.out.1.next (R2.out.2.2.2 ▸ b3), R2.out.2.1.next (R2.out.2.2.2 ▸ b3), r3, below_append R2.out.2.2.1 (R2.out.2.2.2 ▸ b3), s3⟩; clear r3 s3 b3)
      | (refine wl_lenN (.tmp 33) rfl rfl v row rfl h (N + 1) HN.out ?_)
      | (refine wl_lenN (.tmp 39) rfl rfl v row rfl h (N + 1) HN.out ?_)
      | (refine wl_lenN (.tmp 45) rfl rfl v row rfl h (N + 1) HN.out ?_)
      | (refine wl_index (.tmp 38) (.tmp 41) rfl rfl v row rfl (h.later R3.out.2.2.2.1) _ N rfl (by omega) (by have := HN.out; omega) ?_; intro pa a5; rw [HPY.out.1] at a5; have A5 : Hid (HAt w3 pa p) := a5; clear a5)
      | (refine wl_load (.tmp 42) rfl rfl pa rfl p A5.out ?_)
      | (refine wl_new rfl rfl rfl rfl rfl (.tmp 43) rfl p HPT.out (fun _ => rfl) (fun _ => rfl) ?_; rw [R3.out.2.2.2.2]; intro w4 r4 s4 b4; have R4 : Hid (HIs w4 B a ∧ HIs w4 (B + 1) noH ∧ HIs w4 (B + 2) noH ∧ Below W.heap.size W w4 ∧ HIs w4 (B + 3) p) := ⟨R3.out.1.next (R3.out.2.2.2.2 ▸ b4), R3.out.2.1.next (R3.out.2.2.2.2 ▸ b4), R3.out.2.2.1.next (R3.out.2.2.2.2 ▸ b4), below_append R3.out.2.2.2.1 (R3.out.2.2.2.2 ▸ b4), r4⟩; clear r4 s4 b4)
      | (refine wl_to (.tmp 44) (.tmp 47) rfl rfl v row rfl (h.later R4.out.2.2.2.1) _ N rfl (by omega) (by have := HN.out; omega) ?_; intro vo s6; rw [HPY.out.2] at s6; have S6 : Hid (HIn w4 vo ys) := s6; clear s6)
      | (go_at_call 41; refine (HK.out _).mono ?_; rintro e w5 ⟨rfl, w5e⟩; have R5 : Hid (HIs w5 B a ∧ HIs w5 (B + 1) noH ∧ HIs w5 (B + 2) noH ∧ Below W.heap.size W w5 ∧ HIs w5 (B + 3) p ∧ HIn w5 vo ys) := (by rw [← w5e]; exact ⟨R4.out.1, R4.out.2.1, R4.out.2.2.1, R4.out.2.2.2.1, R4.out.2.2.2.2, S6.out⟩); clear w5e)
      | (refine wl_load (.tmp 7) rfl rfl _ rfl a R5.out.1.at ?_))
    rw [show (m : Int) - (k : Int) = ((m - k : Nat) : Int) by omega, show (n : Int) - (k : Int) = ((n - k : Nat) : Int) by omega]
    refine (ih (n - k) (by omega) (m - k) false vo ys w5 (by omega) (by omega) (by omega) R5.out.2.2.2.2.2).mono ?_
    rintro e w6 ⟨x, y, rfl, hq, hy, b6⟩
    obtain ⟨bb, hbb⟩ : ∃ bb, (Tree.two (m - k) (n - k) a ys false).isSome = bb := ⟨_, rfl⟩
    rw [hbb]
    have HBB : Hid ((Tree.two (m - k) (n - k) a ys false).isSome = bb ∧ ∀ z, (Tree.two (m - k) (n - k) a ys false) = some z → (x, y) = z) := ⟨hbb, hy⟩
    have R6 : Hid (HIs w6 (B + 1) noH ∧ HIs w6 (B + 2) noH ∧ Below W.heap.size W w6 ∧ HIs w6 (B + 3) p ∧ IsH x ∧ IsH y) := ⟨R5.out.2.1.next b6, R5.out.2.2.1.next b6, below_append R5.out.2.2.2.1 b6, R5.out.2.2.2.2.1.next b6, hq⟩
    clear hq hy b6 hbb R5
    go_wp2_with (first
      | (refine wl_alloc rfl rfl ?_; intro w7 r7 s7 b7; have R7 : Hid (HIs w7 (B + 1) noH ∧ HIs w7 (B + 2) noH ∧ Below W.heap.size W w7 ∧ HIs w7 (B + 3) p ∧ HIs w7 w6.heap.size noH ∧ (B + 3 < w6.heap.size ∧ w7.heap.size = w6.heap.size + 1)) := ⟨R6.out.1.next b7, R6.out.2.1.next b7, below_append R6.out.2.2.1 b7, R6.out.2.2.2.1.next b7, r7, R6.out.2.2.2.1.lt, s7⟩; clear r7 s7 b7)
      | (refine wl_alloc rfl rfl ?_; rw [R7.out.2.2.2.2.2.2]; intro w8 r8 s8 b8; have R8 : Hid (HIs w8 (B + 1) noH ∧ HIs w8 (B + 2) noH ∧ Below W.heap.size W w8 ∧ HIs w8 (B + 3) p ∧ HIs w8 w6.heap.size noH ∧ HIs w8 (w6.heap.size + 1) noH ∧ B + 3 < w6.heap.size) := (by rw [← R7.out.2.2.2.2.2.2] at b8 r8 ⊢; exact ⟨R7.out.1.next b8, R7.out.2.1.next b8, below_append R7.out.2.2.1 b8, R7.out.2.2.2.1.next b8, R7.out.2.2.2.2.1.next b8, r8, R7.out.2.2.2.2.2.1⟩); clear r8 s8 b8)
      | (refine wl_store (.tmp 19) (.tmp 87) rfl rfl rfl w6.heap.size rfl noH x R6.out.2.2.2.2.1 rfl R8.out.2.2.2.2.1 ?_; intro w9 r9 o9 s9; have R9 : Hid (HIs w9 (B + 1) noH ∧ HIs w9 (B + 2) noH ∧ Below W.heap.size W w9 ∧ HIs w9 (B + 3) p ∧ HIs w9 w6.heap.size x ∧ HIs w9 (w6.heap.size + 1) noH ∧ B + 3 < w6.heap.size) := (by have k8 := R8.out.2.2.2.2.2.2; have kB := HB.out; exact ⟨R8.out.1.other o9 (by omega), R8.out.2.1.other o9 (by omega), R8.out.2.2.1.trans (o9.below (by omega) R8.out.2.2.1.size), R8.out.2.2.2.1.other o9 (by omega), r9, R8.out.2.2.2.2.2.1.other o9 (by omega), k8⟩); clear r9 o9 s9)
      | (refine wl_store (.tmp 20) (.tmp 88) rfl rfl rfl (w6.heap.size + 1) rfl noH y R6.out.2.2.2.2.2 rfl R9.out.2.2.2.2.2.1 ?_; intro wa ra oa sa; have RA : Hid (HIs wa (B + 1) noH ∧ HIs wa (B + 2) noH ∧ Below W.heap.size W wa ∧ HIs wa (B + 3) p ∧ HIs wa w6.heap.size x ∧ HIs wa (w6.heap.size + 1) y ∧ B + 3 < w6.heap.size) := (by have k8 := R8.out.2.2.2.2.2.2; have kB := HB.out; exact ⟨R9.out.1.other oa (by omega), R9.out.2.1.other oa (by omega), R9.out.2.2.1.trans (oa.below (by omega) R9.out.2.2.1.size), R9.out.2.2.2.1.other oa (by omega), R9.out.2.2.2.2.1.other oa (by omega), ra, k8⟩); clear ra oa sa))
    generalize w6.heap.size = G at RA ⊢
    clear R7 R8 R9
    obtain ⟨z0, hz0⟩ : ∃ z0 : World, z0 = { wa with drawn := wa.drawn + 1 } := ⟨_, rfl⟩
    have hS : (Below W.heap.size W z0 ∧ HIs z0 (B + 3) p ∧ HIs z0 G x ∧ HIs z0 (G + 1) y) := by rw [hz0]; exact ⟨below_append RA.out.2.2.1 (below_drawn wa _), RA.out.2.2.2.1, RA.out.2.2.2.2.1, RA.out.2.2.2.2.2.1⟩
    have F10 : HIs z0 (B + 1) noH := by rw [hz0]; exact RA.out.1
    have F11 : HIs z0 (B + 2) noH := by rw [hz0]; exact RA.out.2.1
    refine wp_region_held (S := fun W' => (Below W.heap.size W W' ∧ HIs W' (B + 3) p ∧ HIs W' G x ∧ HIs W' (G + 1) y)) (by kernel_rfl) ?_
    show wpAnyH _ _ _ _ _ 10 (Array.replicate 10 false) _ _
    rw [← hz0]
    clear hz0
    refine takeH (i := 0) (some 90) rfl rfl (by kernel_rfl) (by kernel_rfl) (by kernel_rfl) (fun _ _ _ h => h) (yRunW rfl (hv p) (fun W hW => rx_load (.tmp 13) rfl (.pointer (some ⟨(B + 3), 0, none⟩)) rfl p (hW.2.1.at))) hS ?_
    simp only [Act.put, List.setIfInBounds_toArray, List.set_cons_succ, List.set_cons_zero]
    refine takeH (i := 1) (some 91) rfl rfl (by kernel_rfl) (by kernel_rfl) (by kernel_rfl) (fun _ _ _ h => h) (yRunW rfl (hv x) (fun W hW => rx_load (.tmp 19) rfl (.pointer (some ⟨G, 0, none⟩)) rfl x (hW.2.2.1.at))) hS ?_
    simp only [Act.put, List.setIfInBounds_toArray, List.set_cons_succ, List.set_cons_zero]
    refine takeH (i := 3) (some 93) rfl rfl (by kernel_rfl) (by kernel_rfl) (by kernel_rfl) (fun _ _ _ h => h) (yRunW rfl (hv p) (fun W hW => rx_load (.tmp 13) rfl (.pointer (some ⟨(B + 3), 0, none⟩)) rfl p (hW.2.1.at))) hS ?_
    simp only [Act.put, List.setIfInBounds_toArray, List.set_cons_succ, List.set_cons_zero]
    refine takeH (i := 4) (some 94) rfl rfl (by kernel_rfl) (by kernel_rfl) (by kernel_rfl) (fun _ _ _ h => h) (yRunW rfl (hv y) (fun W hW => rx_load (.tmp 20) rfl (.pointer (some ⟨(G + 1), 0, none⟩)) rfl y (hW.2.2.2.at))) hS ?_
    simp only [Act.put, List.setIfInBounds_toArray, List.set_cons_succ, List.set_cons_zero]
    refine takeH (i := 6) (some 96) rfl rfl (by kernel_rfl) (by kernel_rfl) (by kernel_rfl) (fun _ _ _ h => h) (yMoveW rfl (.tmp 21) rfl (.bool bb) rfl) hS ?_
    simp only [Act.put, List.setIfInBounds_toArray, List.set_cons_succ, List.set_cons_zero]
    refine oneH (i := 2) (by kernel_rfl) ?_
    refine opCallW (some 92) rfl rfl rfl 36 _ (run_call en36' [.tmp 90, .tmp 91] _ rfl [hv p, hv x] rfl) ?_
    refine (refNode_any p x HPT.out R6.out.2.2.2.2.1 _).mono ?_
    rintro e z1 ⟨rfl, bb⟩
    have hS' : (Below W.heap.size W z1 ∧ HIs z1 (B + 3) p ∧ HIs z1 G x ∧ HIs z1 (G + 1) y) := ⟨below_append hS.1 bb, hS.2.1.next bb, hS.2.2.1.next bb, hS.2.2.2.next bb⟩
    refine ⟨_, rfl, hS', ?_⟩
    have F10' : HIs z1 (B + 1) noH := F10.next bb
    clear F10
    have F10 := F10'
    clear F10'
    have F11' : HIs z1 (B + 2) noH := F11.next bb
    clear F11
    have F11 := F11'
    clear F11'
    clear hS bb
    have hS := hS'
    clear hS'
    simp only [Act.put, List.setIfInBounds_toArray, List.set_cons_succ, List.set_cons_zero]
    refine oneH (i := 5) (by kernel_rfl) ?_
    refine opCallW (some 95) rfl rfl rfl 36 _ (run_call en36' [.tmp 93, .tmp 94] _ rfl [hv p, hv y] rfl) ?_
    refine (refNode_any p y HPT.out R6.out.2.2.2.2.2 _).mono ?_
    rintro e z2 ⟨rfl, bb⟩
    have hS' : (Below W.heap.size W z2 ∧ HIs z2 (B + 3) p ∧ HIs z2 G x ∧ HIs z2 (G + 1) y) := ⟨below_append hS.1 bb, hS.2.1.next bb, hS.2.2.1.next bb, hS.2.2.2.next bb⟩
    refine ⟨_, rfl, hS', ?_⟩
    have F10' : HIs z2 (B + 1) noH := F10.next bb
    clear F10
    have F10 := F10'
    clear F10'
    have F11' : HIs z2 (B + 2) noH := F11.next bb
    clear F11
    have F11 := F11'
    clear F11'
    clear hS bb
    have hS := hS'
    clear hS'
    simp only [Act.put, List.setIfInBounds_toArray, List.set_cons_succ, List.set_cons_zero]
    refine oneH (i := 7) (by kernel_rfl) ?_
    refine opSkip rfl rfl rfl _ (rx_store (.tmp 10) (.tmp 92) rfl (B + 1) rfl noH (Tree.node p x) (node_isH _ _) rfl F10) ?_
    have oo : Only (B + 1) z2 (z2.setRow (B + 1) (bcells (Tree.node p x)).toArray) := (Only.refl (B + 1) z2).setRow _
    have F10' : HIs (z2.setRow (B + 1) (bcells (Tree.node p x)).toArray) (B + 1) (Tree.node p x) := his_store (node_isH _ _) F10
    have F11' : HIs (z2.setRow (B + 1) (bcells (Tree.node p x)).toArray) (B + 2) noH := F11.other oo (by omega)
    have hS' : (Below W.heap.size W (z2.setRow (B + 1) (bcells (Tree.node p x)).toArray) ∧ HIs (z2.setRow (B + 1) (bcells (Tree.node p x)).toArray) (B + 3) p ∧ HIs (z2.setRow (B + 1) (bcells (Tree.node p x)).toArray) G x ∧ HIs (z2.setRow (B + 1) (bcells (Tree.node p x)).toArray) (G + 1) y) := ⟨hS.1.trans (oo.below (by have := HB.out; omega) hS.1.size), hS.2.1.other oo (by have := RA.out.2.2.2.2.2.2; omega), hS.2.2.1.other oo (by have := RA.out.2.2.2.2.2.2; omega), hS.2.2.2.other oo (by have := RA.out.2.2.2.2.2.2; omega)⟩
    refine ⟨hS', ?_⟩
    clear hS F10 F11 oo
    generalize z2.setRow (B + 1) (bcells (Tree.node p x)).toArray = z3 at hS' F10' F11' ⊢
    have hS := hS'
    have F10 := F10'
    have F11 := F11'
    clear hS' F10' F11'
    refine oneH (i := 8) (by kernel_rfl) ?_
    refine opSkip rfl rfl rfl _ (rx_store (.tmp 11) (.tmp 95) rfl (B + 2) rfl noH (Tree.node p y) (node_isH _ _) rfl F11) ?_
    have oo : Only (B + 2) z3 (z3.setRow (B + 2) (bcells (Tree.node p y)).toArray) := (Only.refl (B + 2) z3).setRow _
    have F11' : HIs (z3.setRow (B + 2) (bcells (Tree.node p y)).toArray) (B + 2) (Tree.node p y) := his_store (node_isH _ _) F11
    have F10' : HIs (z3.setRow (B + 2) (bcells (Tree.node p y)).toArray) (B + 1) (Tree.node p x) := F10.other oo (by omega)
    have hS' : (Below W.heap.size W (z3.setRow (B + 2) (bcells (Tree.node p y)).toArray) ∧ HIs (z3.setRow (B + 2) (bcells (Tree.node p y)).toArray) (B + 3) p ∧ HIs (z3.setRow (B + 2) (bcells (Tree.node p y)).toArray) G x ∧ HIs (z3.setRow (B + 2) (bcells (Tree.node p y)).toArray) (G + 1) y) := ⟨hS.1.trans (oo.below (by have := HB.out; omega) hS.1.size), hS.2.1.other oo (by have := RA.out.2.2.2.2.2.2; omega), hS.2.2.1.other oo (by have := RA.out.2.2.2.2.2.2; omega), hS.2.2.2.other oo (by have := RA.out.2.2.2.2.2.2; omega)⟩
    refine ⟨hS', ?_⟩
    clear hS F11 F10 oo
    generalize z3.setRow (B + 2) (bcells (Tree.node p y)).toArray = z4 at hS' F11' F10' ⊢
    have hS := hS'
    have F11 := F11'
    have F10 := F10'
    clear hS' F11' F10'
    refine takeH (i := 9) (some 12) rfl rfl (by kernel_rfl) (by kernel_rfl) (by kernel_rfl) (fun _ _ _ h => h) (yAssign rfl (.tmp 96) rfl (.bool bb) rfl) hS ?_
    simp only [Act.put, List.setIfInBounds_toArray, List.set_cons_succ, List.set_cons_zero]
    refine wpAnyH_done (by kernel_rfl) ?_ _
    have RZ : Hid (HIs z4 (B + 1) (Tree.node p x) ∧ HIs z4 (B + 2) (Tree.node p y) ∧ Below W.heap.size W z4) := ⟨F10, F11, hS.1⟩
    clear F10 F11 hS
    go_wp2_with fail
    refine bodyPost_ret (results_HHB Tryd.results28 _ _ (B + 1) (B + 2) rfl rfl _ _ RZ.out.1 RZ.out.2.1 _ rfl) rfl ?_
    rw [HU.out]
    exact RTold.mapped HBB.out.1 HBB.out.2 rfl rfl (node_isH _ _) (node_isH _ _) RZ.out.2.2
end Go.Proofs.YtjdmpanemdhbbaaDoor

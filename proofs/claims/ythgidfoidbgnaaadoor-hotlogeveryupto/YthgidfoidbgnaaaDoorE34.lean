/- Layer 14: Append. -/
import Derived.Test.YthgidfoidbgnaaaDoorE33
namespace Go.Proofs.YthgidfoidbgnaaaDoor
open Go.RowKit Go.Maps


/-- nothing has turned but the plant's blocks, what is free and what is in use, and what is new -/
structure Sq (w w' : World) (c c' : Nat → Colour) (gf gm : Nat) : Prop where
 cc : ∀ b, b < w.heap.size → c' b = c b
 ch : Ch (fun b => (c b).1 = 2 ∨ b = gf ∨ b = gm) w w'
theorem Sp.sq {w w' : World} {c c' : Nat → Colour} (h : Sp w w' c c') (gf gm : Nat) : Sq w w' c c' gf gm := ⟨h.cc, h.ch.mono fun _ _ e => Or.inl e⟩
theorem Sq.trans {w w1 w2 : World} {c c1 c2 : Nat → Colour} {gf gm : Nat} (h : Sq w w1 c c1 gf gm) (k : Sq w1 w2 c1 c2 gf gm) : Sq w w2 c c2 gf gm :=
 ⟨fun b hb => (k.cc b (Nat.lt_of_lt_of_le hb h.ch.size)).trans (h.cc b hb), h.ch.trans' k.ch fun b hb hs => by rw [h.cc b hb] at hs; exact hs⟩
theorem Sq.one {w w' : World} {gf gm : Nat} (c : Nat → Colour) (h : Ch (fun b => b = gf ∨ b = gm) w w') : Sq w w' c c gf gm := ⟨fun _ _ => rfl, h.mono fun _ _ e => Or.inr e⟩
theorem Live.ch' {w w' : World} {c : Nat → Colour} {g : Nat} {m : Pl} {S : Nat → Prop} (h : Live w c 2 g m) (hc : Ch S w w') (hS : ∀ b, b < w.heap.size → S b → (c b).1 ≠ 2) : Live w' c 2 g m :=
 ⟨h.1.ch hc hS fun _ _ => rfl, h.2.1, fun b hb => h.2.2 b (Nat.le_trans hc.size hb)⟩
theorem take_len (b : List Nat) : ∃ N, costN b.length = N + 1 := ⟨(b.length + 63) / 64, by unfold costN; omega⟩
set_option maxHeartbeats 4000000 in
set_option maxRecDepth 100000 in
theorem appendH_long (w : World) (gh : Nat) (vb : Value) (b : List Nat) (hin : SliceIn w vb b) (hl : 512 < b.length) : Calls Tryd.prog 21 #[ptr gh, vb] w fun e w' => e = .returned (.tuple #[.agg (plC 0 0 0 false).toArray, .int .i64 5]) ∧ Below w.heap.size w w' := by
 have HIN : Hid (SliceIn w vb b) := hin
 clear hin
 obtain ⟨PQ, HPQ⟩ := exPQ fun (e : Ending) (w' : World) => e = .returned (.tuple #[.agg (plC 0 0 0 false).toArray, .int .i64 5]) ∧ Below w.heap.size w w'
 rw [← HPQ.out]
 go_enter Tryd.func21, Tryd.ntmps21
 go_upto_region 0 with fail
 refine wp_region_lit ?_
 refine wl rfl (ptr w.heap.size) _ (run_allocA (plC 0 0 0 false) zero30 rfl) ?_
 have hb_ := below_alloc w (.cells (plC 0 0 0 false).toArray 30)
 have r_ := Row.new w 30 (plC 0 0 0 false)
 obtain ⟨w1, hW_⟩ : ∃ W, W = w.alloc (.cells (plC 0 0 0 false).toArray 30) := ⟨_, rfl⟩
 obtain ⟨q1, hq_⟩ : ∃ q, q = w.heap.size := ⟨_, rfl⟩
 rw [← hW_] at hb_
 rw [← hW_, ← hq_] at r_
 rw [← hW_, ← hq_]
 have HA : Hid (Row w1 q1 30 (plC 0 0 0 false) ∧ Below w.heap.size w w1 ∧ w.heap.size ≤ q1) := ⟨r_, hb_, by omega⟩
 clear r_ hb_ hW_ hq_
 simp only [Act.put, aS, aC, aZ]
 refine wl rfl (.int .i64 0) _ (run_asZ (.const (.int .i64 0)) rfl (.int .i64 0) rfl) ?_
 simp only [Act.put, aS, aC, aZ]
 refine wpList_nil ?_
 go_upto_region 1 with fail
 refine wp_region_lit ?_
 refine wl rfl vb _ (run_mvZ (.tmp 1) rfl vb rfl) ?_
 refine wl rfl (.int .i64 (b.length : Nat)) _ (run_lenS HIN.out (.tmp 9) rfl rfl) ?_
 refine wl rfl (.bool true) _ (run_gtrZ (.tmp 10) (.const (.int .i64 512)) rfl (b.length : Nat) 512 rfl rfl true (decide_eq_true (by omega))) ?_
 simp only [Act.put, aS, aC, aZ]
 refine wpList_nil ?_
 go_upto_region 2 with fail
 refine wp_region_lit ?_
 refine wl rfl (.agg (plC 0 0 0 false).toArray) _ (run_build30z rfl) ?_
 simp only [Act.put, aS, aC, aZ]
 refine wlS rfl rfl _ (run_storeA ag30 (.tmp 4) (.tmp 12) rfl q1 30 rfl (plC 0 0 0 false) _ rfl rfl HA.out.1 rfl (plC_one _ _ _ _)) ?_
 have hb_ := (Ch.setRow (S := (· = q1)) (Ch.refl _ w1) (Or.inl rfl) (plC 0 0 0 false).toArray)
 have r_ := HA.out.1.setRow (plC 0 0 0 false)
 obtain ⟨w2, hW_⟩ : ∃ W, W = w1.setRow q1 (plC 0 0 0 false).toArray := ⟨_, rfl⟩
 rw [← hW_] at hb_ r_ ⊢
 clear hW_
 refine wl rfl (.int .i64 5) _ (run_asZ (.const (.int .i64 5)) rfl (.int .i64 5) rfl) ?_
 simp only [Act.put, aS, aC, aZ]
 refine wpList_nil ?_
 have HR : Hid (Row w2 q1 30 (plC 0 0 0 false) ∧ Below w.heap.size w w2) := ⟨r_, HA.out.2.1.trans (hb_.below HA.out.2.1.size fun k hk e => by have := HA.out.2.2; omega)⟩
 clear r_ hb_
 go_wp2_with fail
 rw [HPQ.out]
 exact bodyPost_ret (results_cell_tmp ag30 Tryd.results21 _ _ q1 30 rfl (plC 0 0 0 false) rfl HR.out.1) rfl ⟨rfl, HR.out.2⟩
set_option maxHeartbeats 4000000 in
set_option maxRecDepth 100000 in
theorem appendH_any {w : World} {gh gp gf gm d n : Nat} {fr : List Nat} {f : Int → Option Int} {c : Nat → Colour} {m : Pl} (h : HotM w gh gp gf gm d n fr f) (ht : Fr.TabIn w) (hz : TzIn w) (hp : Live w c 2 gp m) (hc : HotC c gh gf gm) (hf : ∀ s ∈ fr, s < 65536) (hk : fr.length ≤ 1000) (hn : n ≤ 9007199254740992) (hst : m.steps + 20 < 1099511627775) (hd : d ≤ 1000) (vb : Value) (b : List Nat) (hin : SliceIn w vb b) (hl : b.length ≤ 512) : Calls Tryd.prog 21 #[ptr gh, vb] w fun e w' => ∃ c', Sq w w' c c' gf gm ∧ (((∀ a, ¬ AllFree fr a (costN b.length)) ∧ e = .returned (.tuple #[.agg (plC 0 0 0 false).toArray, .int .i64 3]) ∧ HotM w' gh gp gf gm d n fr f ∧ Live w' c' 2 gp m) ∨ ∃ a, FirstFit fr a (costN b.length) ∧ a < 16 * fr.length ∧ ((¬ (m.lay (d : Nat) a (imgP d a m.steps b)).1 = 0 ∧ e = .returned (.tuple #[.agg (plC 0 0 0 false).toArray, .int .i64 (m.lay (d : Nat) a (imgP d a m.steps b)).1]) ∧ HotM w' gh gp gf gm d n fr f ∧ Live w' c' 2 gp (m.lay (d : Nat) a (imgP d a m.steps b)).2) ∨ ((m.lay (d : Nat) a (imgP d a m.steps b)).1 = 0 ∧ e = .returned (.tuple #[.agg (plC (d : Nat) (a : Nat) (costN b.length : Nat) false).toArray, .int .i64 0]) ∧ HotM w' gh gp gf gm d (if (f (a : Nat)).isSome then n else n + 1) (fr.set (a / 16) (lessM (fr.getD (a / 16) 0) (rowM (a % 16) (costN b.length)))) (fun q => if q = (a : Nat) then some (costN b.length : Nat) else f q) ∧ Live w' c' 2 gp (m.lay (d : Nat) a (imgP d a m.steps b)).2))) := by
 have hN9 := (costN_le hl).2
 obtain ⟨N, hN⟩ := take_len b
 have HIN : Hid (SliceIn w vb b ∧ (∀ s ∈ fr, s < 65536) ∧ n ≤ 9007199254740992 ∧ m.steps + 20 < 1099511627775) := ⟨hin, hf, hn, hst⟩
 have HM : Hid (HotM w gh gp gf gm d n fr f ∧ Fr.TabIn w ∧ TzIn w ∧ Live w c 2 gp m ∧ HotC c gh gf gm) := ⟨h, ht, hz, hp, hc⟩
 have HCN : Hid (costN b.length = N + 1) := hN
 rw [hN] at hN9 ⊢
 clear h ht hz hp hc hf hn hst hin hN
 obtain ⟨PQ, HPQ⟩ := exPQ fun (e : Ending) (w' : World) => ∃ c', Sq w w' c c' gf gm ∧ (((∀ a, ¬ AllFree fr a (N + 1)) ∧ e = .returned (.tuple #[.agg (plC 0 0 0 false).toArray, .int .i64 3]) ∧ HotM w' gh gp gf gm d n fr f ∧ Live w' c' 2 gp m) ∨ ∃ a, FirstFit fr a (N + 1) ∧ a < 16 * fr.length ∧ ((¬ (m.lay (d : Nat) a (imgP d a m.steps b)).1 = 0 ∧ e = .returned (.tuple #[.agg (plC 0 0 0 false).toArray, .int .i64 (m.lay (d : Nat) a (imgP d a m.steps b)).1]) ∧ HotM w' gh gp gf gm d n fr f ∧ Live w' c' 2 gp (m.lay (d : Nat) a (imgP d a m.steps b)).2) ∨ ((m.lay (d : Nat) a (imgP d a m.steps b)).1 = 0 ∧ e = .returned (.tuple #[.agg (plC (d : Nat) (a : Nat) ((N + 1 : Nat) : Int) false).toArray, .int .i64 0]) ∧ HotM w' gh gp gf gm d (if (f (a : Nat)).isSome then n else n + 1) (fr.set (a / 16) (lessM (fr.getD (a / 16) 0) (rowM (a % 16) (N + 1)))) (fun q => if q = (a : Nat) then some ((N + 1 : Nat) : Int) else f q) ∧ Live w' c' 2 gp (m.lay (d : Nat) a (imgP d a m.steps b)).2)))
 rw [← HPQ.out]
 go_enter Tryd.func21, Tryd.ntmps21
 go_upto_region 0 with fail
 refine wp_region_lit ?_
 refine wl rfl (ptr w.heap.size) _ (run_allocA (plC 0 0 0 false) zero30 rfl) ?_
 have hb_ := below_alloc w (.cells (plC 0 0 0 false).toArray 30)
 have r_ := Row.new w 30 (plC 0 0 0 false)
 obtain ⟨w1, hW_⟩ : ∃ W, W = w.alloc (.cells (plC 0 0 0 false).toArray 30) := ⟨_, rfl⟩
 obtain ⟨q1, hq_⟩ : ∃ q, q = w.heap.size := ⟨_, rfl⟩
 rw [← hW_] at hb_
 rw [← hW_, ← hq_] at r_
 rw [← hW_, ← hq_]
 have HA : Hid (Row w1 q1 30 (plC 0 0 0 false) ∧ Below w.heap.size w w1 ∧ w.heap.size ≤ q1 ∧ HotM w1 gh gp gf gm d n fr f ∧ Fr.TabIn w1 ∧ TzIn w1 ∧ Live w1 c 2 gp m ∧ HotC c gh gf gm) := ⟨r_, hb_, by omega, HM.out.1.later hb_, HM.out.2.1.later hb_, HM.out.2.2.1.later hb_, HM.out.2.2.2.1.below hb_, HM.out.2.2.2.2⟩
 clear r_ hb_ hW_ hq_
 simp only [Act.put, aS, aC, aZ]
 refine wl rfl (.int .i64 0) _ (run_asZ (.const (.int .i64 0)) rfl (.int .i64 0) rfl) ?_
 simp only [Act.put, aS, aC, aZ]
 refine wpList_nil ?_
 go_upto_region 1 with fail
 refine wp_region_lit ?_
 refine wl rfl vb _ (run_mvZ (.tmp 1) rfl vb rfl) ?_
 refine wl rfl (.int .i64 (b.length : Nat)) _ (run_lenS HIN.out.1 (.tmp 9) rfl rfl) ?_
 refine wl rfl (.bool false) _ (run_gtrZ (.tmp 10) (.const (.int .i64 512)) rfl (b.length : Nat) 512 rfl rfl false (decide_eq_false (by omega))) ?_
 simp only [Act.put, aS, aC, aZ]
 refine wpList_nil ?_
 have HLF := leastFree_any HA.out.2.2.2.1 HA.out.2.2.2.2.2.1 HIN.out.2.1 hk N (by omega)
 by_cases hsome : ∃ a, FirstFit fr a (N + 1)
 ·obtain ⟨a, hfa⟩ := hsome
  have hot4 : ∀ W, Below w.heap.size w W → HotM W gh gp gf gm d n fr f ∧ Fr.TabIn W ∧ TzIn W ∧ Live W c 2 gp m ∧ HotC c gh gf gm := fun W hb => ⟨HM.out.1.later hb, HM.out.2.1.later hb, HM.out.2.2.1.later hb, HM.out.2.2.2.1.below hb, HM.out.2.2.2.2⟩
  go_upto_region 3 with fail
  refine wp_region_lit ?_
  refine wl rfl (ptr gh) _ (run_mvZ (.tmp 0) rfl (ptr gh) rfl) ?_
  refine wl rfl vb _ (run_mvZ (.tmp 1) rfl vb rfl) ?_
  refine wl rfl (.int .i64 (b.length : Nat)) _ (run_lenS HIN.out.1 (.tmp 15) rfl rfl) ?_
  simp only [Act.put, aS, aC, aZ]
  refine wpList_callW eN41 [.tmp 16] _ rfl rfl [(.int .i64 (b.length : Nat))] rfl ?_
  refine (cost_any w1 b.length (by omega)).mono ?_
  rintro e w_ ⟨he_, rfl⟩
  rw [HCN.out] at he_
  subst he_
  refine ⟨_, rfl, ?_⟩
  simp only [Act.put, aS, aC, aZ]
  refine wpList_callW eN40 [.tmp 14, .tmp 17] _ rfl rfl [(ptr gh), (.int .i64 ((N + 1 : Nat) : Int))] rfl ?_
  refine HLF.mono ?_
  rintro e w2 ⟨hb2, h2_⟩
  obtain ⟨hal, he_⟩ : a < 16 * fr.length ∧ e = .returned (.tuple #[.agg (plC (d : Nat) (a : Nat) ((N + 1 : Nat) : Int) false).toArray, .bool true]) := (by
   rcases h2_ with ⟨a', h1_, h3_, h4_⟩ | ⟨h1_, _⟩
   ·have ea : a = a' := (by
     rcases Nat.lt_trichotomy a a' with q | q | q
     ·exact absurd hfa.1 (h1_.2 a q)
     ·exact q
     ·exact absurd h1_.1 (hfa.2 a' q))
    subst ea
    exact ⟨h3_, h4_⟩
   ·exact absurd hfa.1 (h1_ a))
  clear h2_
  subst he_
  have HB2 : Hid (Below w1.heap.size w1 w2) := hb2
  clear hb2
  refine ⟨_, rfl, ?_⟩
  simp only [Act.put, aS, aC, aZ]
  refine wl rfl (.tuple #[(.agg (plC (d : Nat) (a : Nat) ((N + 1 : Nat) : Int) false).toArray), (.bool true)]) _ (run_mvZ (.tmp 18) rfl (.tuple #[(.agg (plC (d : Nat) (a : Nat) ((N + 1 : Nat) : Int) false).toArray), (.bool true)]) rfl) ?_
  refine wl rfl (.agg (plC (d : Nat) (a : Nat) ((N + 1 : Nat) : Int) false).toArray) _ (run_extZ (.tmp 13) 0 rfl #[(.agg (plC (d : Nat) (a : Nat) ((N + 1 : Nat) : Int) false).toArray), (.bool true)] rfl (.agg (plC (d : Nat) (a : Nat) ((N + 1 : Nat) : Int) false).toArray) rfl) ?_
  refine wl rfl (.bool true) _ (run_extZ (.tmp 13) 1 rfl #[(.agg (plC (d : Nat) (a : Nat) ((N + 1 : Nat) : Int) false).toArray), (.bool true)] rfl (.bool true) rfl) ?_
  refine wl rfl (ptr w2.heap.size) _ (run_allocA (plC 0 0 0 false) zero30 rfl) ?_
  have hb_ := below_alloc w2 (.cells (plC 0 0 0 false).toArray 30)
  have r_ := Row.new w2 30 (plC 0 0 0 false)
  obtain ⟨w3, hW_⟩ : ∃ W, W = w2.alloc (.cells (plC 0 0 0 false).toArray 30) := ⟨_, rfl⟩
  obtain ⟨q2, hq_⟩ : ∃ q, q = w2.heap.size := ⟨_, rfl⟩
  rw [← hW_] at hb_
  rw [← hW_, ← hq_] at r_
  rw [← hW_, ← hq_]
  have HQ : Hid (Row w3 q2 30 (plC 0 0 0 false) ∧ Row w3 q1 30 (plC 0 0 0 false) ∧ Below w.heap.size w w3 ∧ w.heap.size ≤ q2 ∧ q1 ≠ q2) := ⟨r_, (HA.out.1.later HB2.out HA.out.1.lt).later hb_ (Nat.lt_of_lt_of_le HA.out.1.lt HB2.out.size), (HA.out.2.1.trans (HB2.out.mono HA.out.2.1.size)).trans (hb_.mono (Nat.le_trans HA.out.2.1.size HB2.out.size)), (by have h1 := HA.out.2.1.size; have h2 := HB2.out.size; omega), (by have h1 := HA.out.1.lt; have h2 := HB2.out.size; omega)⟩
  clear r_ hb_ hW_ hq_
  simp only [Act.put, aS, aC, aZ]
  refine wlS rfl rfl _ (run_storeA ag30 (.tmp 6) (.tmp 19) rfl q2 30 rfl (plC (d : Nat) (a : Nat) ((N + 1 : Nat) : Int) false) _ rfl rfl HQ.out.1 rfl (plC_one _ _ _ _)) ?_
  have hb_ := (Ch.setRow (S := (· = q2)) (Ch.refl _ w3) (Or.inl rfl) (plC (d : Nat) (a : Nat) ((N + 1 : Nat) : Int) false).toArray)
  have r_ := HQ.out.1.setRow (plC (d : Nat) (a : Nat) ((N + 1 : Nat) : Int) false)
  obtain ⟨w4, hW_⟩ : ∃ W, W = w3.setRow q2 (plC (d : Nat) (a : Nat) ((N + 1 : Nat) : Int) false).toArray := ⟨_, rfl⟩
  rw [← hW_] at hb_ r_ ⊢
  clear hW_
  have HA4 : Hid (Row w4 q2 30 (plC (d : Nat) (a : Nat) ((N + 1 : Nat) : Int) false) ∧ Row w4 q1 30 (plC 0 0 0 false) ∧ Below w.heap.size w w4 ∧ w.heap.size ≤ q1 ∧ w.heap.size ≤ q2 ∧ q1 ≠ q2 ∧ HotM w4 gh gp gf gm d n fr f ∧ Fr.TabIn w4 ∧ TzIn w4 ∧ Live w4 c 2 gp m ∧ HotC c gh gf gm) := ⟨r_, hb_.row (fun e => HQ.out.2.2.2.2 e) HQ.out.2.1, HQ.out.2.2.1.trans (hb_.below HQ.out.2.2.1.size fun k hk e => by have := HQ.out.2.2.2.1; omega), HA.out.2.2.1, HQ.out.2.2.2.1, HQ.out.2.2.2.2, hot4 _ (HQ.out.2.2.1.trans (hb_.below HQ.out.2.2.1.size fun k hk e => by have := HQ.out.2.2.2.1; omega))⟩
  clear r_ hb_ hot4
  refine wl rfl (.bool true) _ (run_asZ (.tmp 20) rfl (.bool true) rfl) ?_
  simp only [Act.put, aS, aC, aZ]
  refine wpList_nil ?_
  go_upto_region 4 with fail
  refine wp_region_lit ?_
  refine wl rfl (.bool true) _ (run_mvZ (.tmp 7) rfl (.bool true) rfl) ?_
  refine wl rfl (.bool false) _ (run_not (.tmp 21) 4 rfl true rfl) ?_
  simp only [Act.put, aS, aC, aZ]
  refine wpList_nil ?_
  have HFA : Hid (FirstFit fr a (N + 1)) := hfa
  clear hfa HLF
  obtain ⟨er, her⟩ : ∃ er, er = (m.lay (d : Nat) a (imgP d a m.steps b)).1 := ⟨_, rfl⟩
  obtain ⟨m2, hm2⟩ : ∃ er, er = (m.lay (d : Nat) a (imgP d a m.steps b)).2 := ⟨_, rfl⟩
  have HW : Hid (er = (m.lay (d : Nat) a (imgP d a m.steps b)).1 ∧ m2 = (m.lay (d : Nat) a (imgP d a m.steps b)).2) := ⟨her, hm2⟩
  clear her hm2
  obtain ⟨tg, htg⟩ : ∃ t, t = m.steps := ⟨_, rfl⟩
  have HTG : Hid (tg = m.steps) := htg
  clear htg
  have hot4 : ∀ W, Below w.heap.size w W → HotM W gh gp gf gm d n fr f ∧ Fr.TabIn W ∧ TzIn W ∧ Live W c 2 gp m ∧ HotC c gh gf gm := fun W hb => ⟨HM.out.1.later hb, HM.out.2.1.later hb, HM.out.2.2.1.later hb, HM.out.2.2.2.1.below hb, HM.out.2.2.2.2⟩
  go_upto_region 6 with fail
  refine wp_region_until (S := fun X => Row X q2 30 (plC (d : Nat) (a : Nat) ((N + 1 : Nat) : Int) false) ∧ Row X q1 30 (plC 0 0 0 false) ∧ Below w.heap.size w X) 8 (by kernel_rfl) ?_
  show wpAnyU _ _ _ _ _ _ 10 (Array.replicate 10 false) _ _
  obtain ⟨X, hX⟩ : ∃ X : World, X = { w4 with drawn := w4.drawn + 1 } := ⟨_, rfl⟩
  rw [← hX]
  have HS_ : Row X q2 30 (plC (d : Nat) (a : Nat) ((N + 1 : Nat) : Int) false) ∧ Row X q1 30 (plC 0 0 0 false) ∧ Below w.heap.size w X := (by rw [hX]; exact ⟨HA4.out.1, HA4.out.2.1, HA4.out.2.2.1.trans ⟨rfl, rfl, rfl, Nat.le_refl _, fun _ _ => rfl⟩⟩)
  clear hX
  refine tV 0 [8] 24 rfl rfl (gRun rfl (ptr gh) fun _ h => run_mvZ (.tmp 0) rfl (ptr gh) rfl) HS_ ?_
  refine tV 1 [2, 8] 25 rfl rfl (gRun rfl (.pointer (some ⟨q2, 0 + 1, none⟩)) fun _ h => run_fieldOp' f30_1 (.tmp 6) rfl q2 (0) rfl) HS_ ?_
  refine tV 2 [8] 26 rfl rfl (gRun rfl (.int .i64 (a : Nat)) fun _ h => run_load1 o3 (.tmp 25) rfl q2 (0 + 1) rfl (.int .i64 (a : Nat)) (h.1.at 1 _ rfl)) HS_ ?_
  refine tV 3 [7, 8] 27 rfl rfl (gRun rfl (.agg ((plC (d : Nat) (a : Nat) ((N + 1 : Nat) : Int) false)).toArray) fun _ h => run_loadA ag30 (.tmp 6) rfl q2 (0) rfl ((plC (d : Nat) (a : Nat) ((N + 1 : Nat) : Int) false)) rfl (rows_one h.1)) HS_ ?_
  simp only [Act.put, aS, aC, aZ]
  refine tV 4 [5, 7, 8] 28 rfl rfl (gRun rfl (ptr gh) fun _ h => run_mvZ (.tmp 0) rfl (ptr gh) rfl) HS_ ?_
  refine tV 6 [7, 8] 30 rfl rfl (gRun rfl vb fun _ h => run_mvZ (.tmp 1) rfl vb rfl) HS_ ?_
  simp only [Act.put, aS, aC, aZ]
  refine oneU (i := 5) (by kernel_rfl) ?_
  refine opCallG (some 29) rfl rfl rfl 44 _ (run_call eN44 [.tmp 28] _ rfl [(ptr gh)] rfl) ?_
  refine (tag_any (hot4 X HS_.2.2).1 (hot4 X HS_.2.2).2.2.2.1 (by have := HIN.out.2.2.2; omega)).mono ?_
  rintro e W_ ⟨he_, rfl⟩
  rw [← HTG.out] at he_
  subst he_
  refine ⟨_, rfl, ?_⟩
  refine ⟨fun _ => HS_, ?_⟩
  simp only [Act.put, aS, aC, aZ]
  refine oneU (i := 7) (by kernel_rfl) ?_
  refine opCallG (some 31) rfl rfl rfl 43 _ (run_call eN43 [.tmp 27, .tmp 29, .tmp 30] _ rfl [(.agg ((plC (d : Nat) (a : Nat) ((N + 1 : Nat) : Int) false)).toArray), (.int .u64 (tg : Nat)), vb] rfl) ?_
  refine (imageOf_any X d a (N + 1) tg false vb b (HIN.out.1.later HS_.2.2) (hot4 X HS_.2.2).2.1 hl (by omega) (by omega)).mono ?_
  rintro e W1 ⟨gi, he_, hgi_, hr_, hb_⟩
  rw [HCN.out] at he_
  subst he_
  have HG : Hid (ImgIn W1 gi (imgP d a tg b) ∧ (imgP d a tg b).length = N + 1 ∧ X.heap.size ≤ gi) := ⟨⟨hr_, fun s hs => (by obtain ⟨j, _, rfl⟩ := List.mem_map.1 hs; exact ⟨secI_length d a tg b j, secI_lt d a tg HIN.out.1.lt256 j⟩)⟩, (imgP_length d a tg b).trans HCN.out, hgi_⟩
  have HSX : Hid (Below w.heap.size w X) := HS_.2.2
  replace HS_ : Row W1 q2 30 (plC (d : Nat) (a : Nat) ((N + 1 : Nat) : Int) false) ∧ Row W1 q1 30 (plC 0 0 0 false) ∧ Below w.heap.size w W1 := ⟨HS_.1.later hb_ HS_.1.lt, HS_.2.1.later hb_ HS_.2.1.lt, HS_.2.2.trans (hb_.mono HS_.2.2.size)⟩
  clear hr_ hb_ hgi_
  refine ⟨_, rfl, ?_⟩
  refine ⟨fun _ => HS_, ?_⟩
  simp only [Act.put, aS, aC, aZ]
  refine oneU (i := 8) (by kernel_rfl) ?_
  refine opCallG (some 32) rfl rfl rfl 42 _ (run_call eN42 [.tmp 24, .tmp 26, .tmp 31] _ rfl [(ptr gh), (.int .i64 (a : Nat)), (whole gi (N + 1))] rfl) ?_
  have HWR := write_any' (hot4 W1 HS_.2.2).1 (hot4 W1 HS_.2.2).2.2.2.1 (hot4 W1 HS_.2.2).2.2.2.2 HG.out.1 (HM.out.2.2.2.1.2.2 gi (by have h1 := HG.out.2.2; have h2 := HSX.out.size; omega)) (by rw [HG.out.2.1]; have := HIN.out.2.2.2; omega) a (by omega) (by rw [HG.out.2.1]; omega)
  rw [HG.out.2.1, HTG.out, ← HW.out.1, ← HW.out.2] at HWR
  refine HWR.mono ?_
  rintro e W2 ⟨c2, rfl, hsp, hlv⟩
  refine ⟨_, rfl, ?_⟩
  refine ⟨(fun h => absurd (show true = false from h) (by decide)), ?_⟩
  have HJ : Hid (HotM W2 gh gp gf gm d n fr f ∧ HotC c2 gh gf gm ∧ Live W2 c2 2 gp m2 ∧ Sp w W2 c c2 ∧ Row W2 q2 30 (plC (d : Nat) (a : Nat) ((N + 1 : Nat) : Int) false) ∧ Row W2 q1 30 (plC 0 0 0 false) ∧ (c2 q1).1 ≠ 2 ∧ (c2 q2).1 ≠ 2) := ⟨((hot4 W1 HS_.2.2).1.sp hsp HM.out.2.2.2.2).1, ((hot4 W1 HS_.2.2).1.sp hsp HM.out.2.2.2.2).2, hlv, (Sp.bel c HS_.2.2).trans hsp, (hsp.row HS_.1 (HM.out.2.2.2.1.2.2 q2 HA4.out.2.2.2.2.1)).1, (hsp.row HS_.2.1 (HM.out.2.2.2.1.2.2 q1 HA4.out.2.2.2.1)).1, (hsp.row HS_.2.1 (HM.out.2.2.2.1.2.2 q1 HA4.out.2.2.2.1)).2, (hsp.row HS_.1 (HM.out.2.2.2.1.2.2 q2 HA4.out.2.2.2.2.1)).2⟩
  clear hsp hlv HWR
  simp only [Act.put, aS, aC, aZ]
  refine oneU (i := 9) (by kernel_rfl) ?_
  refine opValueG (some 8) rfl rfl rfl (.int .i64 er) _ (run_asZ (.tmp 32) rfl (.int .i64 er) rfl) ?_
  refine ⟨fun h => absurd (show true = false from h) (by decide), ?_⟩
  simp only [Act.put, aS, aC, aZ]
  refine wpAnyU_done (by kernel_rfl) ?_ _
  clear hot4
  by_cases hz : er = 0
  ·go_upto_region 7 with fail
   refine wp_region_lit ?_
   refine wl rfl (.int .i64 er) _ (run_mvZ (.tmp 8) rfl (.int .i64 er) rfl) ?_
   refine wl rfl (.bool false) _ (run_neZ (.tmp 33) (.const (.int .i64 0)) rfl er 0 rfl rfl false (by rw [decide_eq_true hz]; rfl)) ?_
   simp only [Act.put, aS, aC, aZ]
   refine wpList_nil ?_
   have HZ : Hid (er = 0) := hz
   clear hz
   go_upto_region 9 with fail
   refine wp_region_lit ?_
   refine wl rfl (ptr gh) _ (run_mvZ (.tmp 0) rfl (ptr gh) rfl) ?_
   refine wl rfl (.agg ((plC (d : Nat) (a : Nat) ((N + 1 : Nat) : Int) false)).toArray) _ (run_loadA ag30 (.tmp 6) rfl q2 (0) rfl ((plC (d : Nat) (a : Nat) ((N + 1 : Nat) : Int) false)) rfl (rows_one HJ.out.2.2.2.2.1)) ?_
   simp only [Act.put, aS, aC, aZ]
   refine wpList_callW eN37 [.tmp 37, .tmp 38] _ rfl rfl [(ptr gh), (.agg ((plC (d : Nat) (a : Nat) ((N + 1 : Nat) : Int) false)).toArray)] rfl ?_
   refine (take_any HJ.out.1 HIN.out.2.1 HIN.out.2.2.1 (d : Nat) a (N + 1) false (by omega) (by have := HFA.out.1.1; omega) HFA.out.1.2.1).mono ?_
   rintro e W3 ⟨rfl, hm_, hch_⟩
   refine ⟨_, rfl, ?_⟩
   have HT : Hid (HotM W3 gh gp gf gm d (if (f (a : Nat)).isSome then n else n + 1) (fr.set (a / 16) (lessM (fr.getD (a / 16) 0) (rowM (a % 16) (N + 1)))) (fun q => if q = (a : Nat) then some ((N + 1 : Nat) : Int) else f q) ∧ Live W3 c2 2 gp m2 ∧ Sq w W3 c c2 gf gm ∧ Row W3 q2 30 (plC (d : Nat) (a : Nat) ((N + 1 : Nat) : Int) false) ∧ Row W3 q1 30 (plC 0 0 0 false)) := ⟨hm_, HJ.out.2.2.1.ch' hch_ (fun b _ e => by rcases e with rfl | rfl; exact HJ.out.2.1.2.1; exact HJ.out.2.1.2.2), (HJ.out.2.2.2.1.sq gf gm).trans (Sq.one c2 hch_), hch_.row (fun e => (by rcases e with rfl | rfl; exact absurd (HM.out.1.lt (Or.inr (Or.inl rfl))) (by have := HA4.out.2.2.2.2.1; omega); exact absurd (HM.out.1.lt (Or.inr (Or.inr rfl))) (by have := HA4.out.2.2.2.2.1; omega))) HJ.out.2.2.2.2.1, hch_.row (fun e => (by rcases e with rfl | rfl; exact absurd (HM.out.1.lt (Or.inr (Or.inl rfl))) (by have := HA4.out.2.2.2.1; omega); exact absurd (HM.out.1.lt (Or.inr (Or.inr rfl))) (by have := HA4.out.2.2.2.1; omega))) HJ.out.2.2.2.2.2.1⟩
   clear hm_ hch_
   simp only [Act.put, aS, aC, aZ]
   refine wpList_nil ?_
   go_upto_region 10 with fail
   refine wp_region_lit ?_
   refine wl rfl (.agg ((plC (d : Nat) (a : Nat) ((N + 1 : Nat) : Int) false)).toArray) _ (run_loadA ag30 (.tmp 6) rfl q2 (0) rfl ((plC (d : Nat) (a : Nat) ((N + 1 : Nat) : Int) false)) rfl (rows_one HT.out.2.2.2.1)) ?_
   simp only [Act.put, aS, aC, aZ]
   refine wlS rfl rfl _ (run_storeA ag30 (.tmp 4) (.tmp 40) rfl q1 30 rfl (plC (d : Nat) (a : Nat) ((N + 1 : Nat) : Int) false) _ rfl rfl HT.out.2.2.2.2 rfl (plC_one _ _ _ _)) ?_
   have hb_ := (Ch.setRow (S := (· = q1)) (Ch.refl _ W3) (Or.inl rfl) (plC (d : Nat) (a : Nat) ((N + 1 : Nat) : Int) false).toArray)
   have r_ := HT.out.2.2.2.2.setRow (plC (d : Nat) (a : Nat) ((N + 1 : Nat) : Int) false)
   obtain ⟨W4, hW_⟩ : ∃ W, W = W3.setRow q1 (plC (d : Nat) (a : Nat) ((N + 1 : Nat) : Int) false).toArray := ⟨_, rfl⟩
   rw [← hW_] at hb_ r_ ⊢
   clear hW_
   refine wl rfl (.int .i64 0) _ (run_asZ (.const (.int .i64 0)) rfl (.int .i64 0) rfl) ?_
   simp only [Act.put, aS, aC, aZ]
   refine wpList_nil ?_
   have HR : Hid (Row W4 q1 30 (plC (d : Nat) (a : Nat) ((N + 1 : Nat) : Int) false) ∧ Ch (· = q1) W3 W4) := ⟨r_, hb_⟩
   clear r_ hb_
   have HQ1 : Hid (w.heap.size ≤ q1 ∧ gh ≠ q1 ∧ gf ≠ q1 ∧ gm ≠ q1) := ⟨HA4.out.2.2.2.1, (fun e => absurd (HM.out.1.lt (Or.inl rfl)) (by have := HA4.out.2.2.2.1; omega)), (fun e => absurd (HM.out.1.lt (Or.inr (Or.inl rfl))) (by have := HA4.out.2.2.2.1; omega)), (fun e => absurd (HM.out.1.lt (Or.inr (Or.inr rfl))) (by have := HA4.out.2.2.2.1; omega))⟩
   go_wp2_with fail
   rw [HPQ.out]
   refine bodyPost_ret (results_cell_tmp ag30 Tryd.results21 _ _ q1 30 rfl (plC (d : Nat) (a : Nat) ((N + 1 : Nat) : Int) false) rfl HR.out.1) rfl ⟨c2, ⟨HT.out.2.2.1.cc, ?_⟩, Or.inr ⟨a, HFA.out, hal, Or.inr ⟨by rw [← HW.out.1]; exact HZ.out, rfl, HT.out.1.ch HR.out.2 ⟨HQ1.out.2.1, HQ1.out.2.2.1, HQ1.out.2.2.2⟩, ?_⟩⟩⟩
   ·exact HT.out.2.2.1.ch.trans' HR.out.2 (fun k hk e => absurd hk (by have := HQ1.out.1; omega))
   ·rw [← HW.out.2]
    exact HT.out.2.1.ch' HR.out.2 (fun k hk e => by rw [e]; exact HJ.out.2.2.2.2.2.2.1)
  ·go_upto_region 7 with fail
   refine wp_region_lit ?_
   refine wl rfl (.int .i64 er) _ (run_mvZ (.tmp 8) rfl (.int .i64 er) rfl) ?_
   refine wl rfl (.bool true) _ (run_neZ (.tmp 33) (.const (.int .i64 0)) rfl er 0 rfl rfl true (by rw [decide_eq_false hz]; rfl)) ?_
   simp only [Act.put, aS, aC, aZ]
   refine wpList_nil ?_
   have HZ : Hid (¬ er = 0) := hz
   clear hz
   go_upto_region 8 with fail
   refine wp_region_lit ?_
   refine wl rfl (.agg (plC 0 0 0 false).toArray) _ (run_build30z rfl) ?_
   refine wl rfl (.int .i64 er) _ (run_mvZ (.tmp 8) rfl (.int .i64 er) rfl) ?_
   simp only [Act.put, aS, aC, aZ]
   refine wlS rfl rfl _ (run_storeA ag30 (.tmp 4) (.tmp 35) rfl q1 30 rfl (plC 0 0 0 false) _ rfl rfl HJ.out.2.2.2.2.2.1 rfl (plC_one _ _ _ _)) ?_
   have hb_ := (Ch.setRow (S := (· = q1)) (Ch.refl _ W2) (Or.inl rfl) (plC 0 0 0 false).toArray)
   have r_ := HJ.out.2.2.2.2.2.1.setRow (plC 0 0 0 false)
   obtain ⟨W4, hW_⟩ : ∃ W, W = W2.setRow q1 (plC 0 0 0 false).toArray := ⟨_, rfl⟩
   rw [← hW_] at hb_ r_ ⊢
   clear hW_
   refine wl rfl (.int .i64 er) _ (run_asZ (.tmp 36) rfl (.int .i64 er) rfl) ?_
   simp only [Act.put, aS, aC, aZ]
   refine wpList_nil ?_
   have HR : Hid (Row W4 q1 30 (plC 0 0 0 false) ∧ Ch (· = q1) W2 W4) := ⟨r_, hb_⟩
   clear r_ hb_
   have HQ1 : Hid (w.heap.size ≤ q1 ∧ gh ≠ q1 ∧ gf ≠ q1 ∧ gm ≠ q1) := ⟨HA4.out.2.2.2.1, (fun e => absurd (HM.out.1.lt (Or.inl rfl)) (by have := HA4.out.2.2.2.1; omega)), (fun e => absurd (HM.out.1.lt (Or.inr (Or.inl rfl))) (by have := HA4.out.2.2.2.1; omega)), (fun e => absurd (HM.out.1.lt (Or.inr (Or.inr rfl))) (by have := HA4.out.2.2.2.1; omega))⟩
   go_wp2_with fail
   rw [HPQ.out]
   refine bodyPost_ret (results_cell_tmp ag30 Tryd.results21 _ _ q1 30 rfl (plC 0 0 0 false) rfl HR.out.1) rfl ⟨c2, ⟨HJ.out.2.2.2.1.cc, ?_⟩, Or.inr ⟨a, HFA.out, hal, Or.inl ⟨by rw [← HW.out.1]; exact HZ.out, by rw [← HW.out.1]; rfl, HJ.out.1.ch HR.out.2 ⟨HQ1.out.2.1, HQ1.out.2.2.1, HQ1.out.2.2.2⟩, ?_⟩⟩⟩
   ·exact (HJ.out.2.2.2.1.sq gf gm).ch.trans' HR.out.2 (fun k hk e => absurd hk (by have := HQ1.out.1; omega))
   ·rw [← HW.out.2]
    exact HJ.out.2.2.1.ch' HR.out.2 (fun k hk e => by rw [e]; exact HJ.out.2.2.2.2.2.2.1)
 ·have hot4 : ∀ W, Below w.heap.size w W → HotM W gh gp gf gm d n fr f ∧ Fr.TabIn W ∧ TzIn W ∧ Live W c 2 gp m ∧ HotC c gh gf gm := fun W hb => ⟨HM.out.1.later hb, HM.out.2.1.later hb, HM.out.2.2.1.later hb, HM.out.2.2.2.1.below hb, HM.out.2.2.2.2⟩
  go_upto_region 3 with fail
  refine wp_region_lit ?_
  refine wl rfl (ptr gh) _ (run_mvZ (.tmp 0) rfl (ptr gh) rfl) ?_
  refine wl rfl vb _ (run_mvZ (.tmp 1) rfl vb rfl) ?_
  refine wl rfl (.int .i64 (b.length : Nat)) _ (run_lenS HIN.out.1 (.tmp 15) rfl rfl) ?_
  simp only [Act.put, aS, aC, aZ]
  refine wpList_callW eN41 [.tmp 16] _ rfl rfl [(.int .i64 (b.length : Nat))] rfl ?_
  refine (cost_any w1 b.length (by omega)).mono ?_
  rintro e w_ ⟨he_, rfl⟩
  rw [HCN.out] at he_
  subst he_
  refine ⟨_, rfl, ?_⟩
  simp only [Act.put, aS, aC, aZ]
  refine wpList_callW eN40 [.tmp 14, .tmp 17] _ rfl rfl [(ptr gh), (.int .i64 ((N + 1 : Nat) : Int))] rfl ?_
  refine HLF.mono ?_
  rintro e w2 ⟨hb2, h2_⟩
  obtain ⟨hno, he_⟩ : (∀ a, ¬ AllFree fr a (N + 1)) ∧ e = .returned (.tuple #[.agg (plC 0 0 0 false).toArray, .bool false]) := (by
   rcases h2_ with ⟨a', h1_, _, _⟩ | h1_
   ·exact absurd ⟨a', h1_⟩ hsome
   ·exact h1_)
  clear h2_
  subst he_
  have HB2 : Hid (Below w1.heap.size w1 w2) := hb2
  clear hb2
  refine ⟨_, rfl, ?_⟩
  simp only [Act.put, aS, aC, aZ]
  refine wl rfl (.tuple #[(.agg (plC 0 0 0 false).toArray), (.bool false)]) _ (run_mvZ (.tmp 18) rfl (.tuple #[(.agg (plC 0 0 0 false).toArray), (.bool false)]) rfl) ?_
  refine wl rfl (.agg (plC 0 0 0 false).toArray) _ (run_extZ (.tmp 13) 0 rfl #[(.agg (plC 0 0 0 false).toArray), (.bool false)] rfl (.agg (plC 0 0 0 false).toArray) rfl) ?_
  refine wl rfl (.bool false) _ (run_extZ (.tmp 13) 1 rfl #[(.agg (plC 0 0 0 false).toArray), (.bool false)] rfl (.bool false) rfl) ?_
  refine wl rfl (ptr w2.heap.size) _ (run_allocA (plC 0 0 0 false) zero30 rfl) ?_
  have hb_ := below_alloc w2 (.cells (plC 0 0 0 false).toArray 30)
  have r_ := Row.new w2 30 (plC 0 0 0 false)
  obtain ⟨w3, hW_⟩ : ∃ W, W = w2.alloc (.cells (plC 0 0 0 false).toArray 30) := ⟨_, rfl⟩
  obtain ⟨q2, hq_⟩ : ∃ q, q = w2.heap.size := ⟨_, rfl⟩
  rw [← hW_] at hb_
  rw [← hW_, ← hq_] at r_
  rw [← hW_, ← hq_]
  have HQ : Hid (Row w3 q2 30 (plC 0 0 0 false) ∧ Row w3 q1 30 (plC 0 0 0 false) ∧ Below w.heap.size w w3 ∧ w.heap.size ≤ q2 ∧ q1 ≠ q2) := ⟨r_, (HA.out.1.later HB2.out HA.out.1.lt).later hb_ (Nat.lt_of_lt_of_le HA.out.1.lt HB2.out.size), (HA.out.2.1.trans (HB2.out.mono HA.out.2.1.size)).trans (hb_.mono (Nat.le_trans HA.out.2.1.size HB2.out.size)), (by have h1 := HA.out.2.1.size; have h2 := HB2.out.size; omega), (by have h1 := HA.out.1.lt; have h2 := HB2.out.size; omega)⟩
  clear r_ hb_ hW_ hq_
  simp only [Act.put, aS, aC, aZ]
  refine wlS rfl rfl _ (run_storeA ag30 (.tmp 6) (.tmp 19) rfl q2 30 rfl (plC 0 0 0 false) _ rfl rfl HQ.out.1 rfl (plC_one _ _ _ _)) ?_
  have hb_ := (Ch.setRow (S := (· = q2)) (Ch.refl _ w3) (Or.inl rfl) (plC 0 0 0 false).toArray)
  have r_ := HQ.out.1.setRow (plC 0 0 0 false)
  obtain ⟨w4, hW_⟩ : ∃ W, W = w3.setRow q2 (plC 0 0 0 false).toArray := ⟨_, rfl⟩
  rw [← hW_] at hb_ r_ ⊢
  clear hW_
  have HA4 : Hid (Row w4 q2 30 (plC 0 0 0 false) ∧ Row w4 q1 30 (plC 0 0 0 false) ∧ Below w.heap.size w w4 ∧ w.heap.size ≤ q1 ∧ w.heap.size ≤ q2 ∧ q1 ≠ q2 ∧ HotM w4 gh gp gf gm d n fr f ∧ Fr.TabIn w4 ∧ TzIn w4 ∧ Live w4 c 2 gp m ∧ HotC c gh gf gm) := ⟨r_, hb_.row (fun e => HQ.out.2.2.2.2 e) HQ.out.2.1, HQ.out.2.2.1.trans (hb_.below HQ.out.2.2.1.size fun k hk e => by have := HQ.out.2.2.2.1; omega), HA.out.2.2.1, HQ.out.2.2.2.1, HQ.out.2.2.2.2, hot4 _ (HQ.out.2.2.1.trans (hb_.below HQ.out.2.2.1.size fun k hk e => by have := HQ.out.2.2.2.1; omega))⟩
  clear r_ hb_ hot4
  refine wl rfl (.bool false) _ (run_asZ (.tmp 20) rfl (.bool false) rfl) ?_
  simp only [Act.put, aS, aC, aZ]
  refine wpList_nil ?_
  go_upto_region 4 with fail
  refine wp_region_lit ?_
  refine wl rfl (.bool false) _ (run_mvZ (.tmp 7) rfl (.bool false) rfl) ?_
  refine wl rfl (.bool true) _ (run_not (.tmp 21) 4 rfl false rfl) ?_
  simp only [Act.put, aS, aC, aZ]
  refine wpList_nil ?_
  have HNO : Hid (∀ a, ¬ AllFree fr a (N + 1)) := hno
  clear hno HLF hsome
  go_upto_region 5 with fail
  refine wp_region_lit ?_
  refine wl rfl (.agg (plC 0 0 0 false).toArray) _ (run_build30z rfl) ?_
  simp only [Act.put, aS, aC, aZ]
  refine wlS rfl rfl _ (run_storeA ag30 (.tmp 4) (.tmp 23) rfl q1 30 rfl (plC 0 0 0 false) _ rfl rfl HA4.out.2.1 rfl (plC_one _ _ _ _)) ?_
  have hb_ := (Ch.setRow (S := (· = q1)) (Ch.refl _ w4) (Or.inl rfl) (plC 0 0 0 false).toArray)
  have r_ := HA4.out.2.1.setRow (plC 0 0 0 false)
  obtain ⟨W4, hW_⟩ : ∃ W, W = w4.setRow q1 (plC 0 0 0 false).toArray := ⟨_, rfl⟩
  rw [← hW_] at hb_ r_ ⊢
  clear hW_
  refine wl rfl (.int .i64 3) _ (run_asZ (.const (.int .i64 3)) rfl (.int .i64 3) rfl) ?_
  simp only [Act.put, aS, aC, aZ]
  refine wpList_nil ?_
  have HR : Hid (Row W4 q1 30 (plC 0 0 0 false) ∧ Ch (· = q1) w4 W4) := ⟨r_, hb_⟩
  clear r_ hb_
  have HQ1 : Hid (w.heap.size ≤ q1 ∧ gh ≠ q1 ∧ gf ≠ q1 ∧ gm ≠ q1) := ⟨HA4.out.2.2.2.1, (fun e => absurd (HM.out.1.lt (Or.inl rfl)) (by have := HA4.out.2.2.2.1; omega)), (fun e => absurd (HM.out.1.lt (Or.inr (Or.inl rfl))) (by have := HA4.out.2.2.2.1; omega)), (fun e => absurd (HM.out.1.lt (Or.inr (Or.inr rfl))) (by have := HA4.out.2.2.2.1; omega))⟩
  go_wp2_with fail
  rw [HPQ.out]
  refine bodyPost_ret (results_cell_tmp ag30 Tryd.results21 _ _ q1 30 rfl (plC 0 0 0 false) rfl HR.out.1) rfl ⟨c, ⟨fun _ _ => rfl, ?_⟩, Or.inl ⟨HNO.out, rfl, HA4.out.2.2.2.2.2.2.1.ch HR.out.2 ⟨HQ1.out.2.1, HQ1.out.2.2.1, HQ1.out.2.2.2⟩, ?_⟩⟩
  ·exact ((Sp.bel c HA4.out.2.2.1).sq gf gm).ch.trans' HR.out.2 (fun k hk e => absurd hk (by have := HQ1.out.1; omega))
  ·exact HA4.out.2.2.2.2.2.2.2.2.2.1.ch' HR.out.2 (fun k hk e => by rw [e]; exact HM.out.2.2.2.1.2.2 q1 HQ1.out.1)

end Go.Proofs.YthgidfoidbgnaaaDoor

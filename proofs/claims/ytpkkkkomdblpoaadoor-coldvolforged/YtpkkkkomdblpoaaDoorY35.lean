/- Layer 15: objects as the document tells them. Layer 15: what the law of forged objects wants. -/
import Derived.Test.YtpkkkkomdblpoaaDoorY34
namespace Go.Proofs.YtpkkkkomdblpoaaDoor
open Go.RowKit Go.Maps

open Cold
/-- an object as the document tells it -/
structure Td where
 id : List Nat
 bs : List Nat
 d : Nat
 a : Nat
 n : Nat
 fl : Bool
instance : Inhabited Td := ⟨⟨[], [], 0, 0, 0, false⟩⟩
def tdC (x : Td) (vb : Value) : List Value := [str x.id, vb, .int .i64 (x.d : Nat), .int .i64 (x.a : Nat), .int .i64 (x.n : Nat), .bool false, .bool x.fl]
theorem el35 : ElC 35 48 7 80 (tdC default (.slice none 0 0)) := ⟨Tryd.underlying35, by kernel_rfl, by kernel_rfl, rfl, ag48, by decide, by decide⟩
theorem tdC_is (x : Td) {W : World} {vb : Value} {bs : List Nat} (h : SliceIn W vb bs) : (tdC x vb).length = 7 ∧ ∀ u ∈ tdC x vb, u.oneCell' = true := by
 obtain ⟨p, cp, e, _⟩ := h
 subst e
 refine ⟨rfl, fun u hu => ?_⟩
 simp only [tdC, List.mem_cons, List.not_mem_nil, or_false] at hu
 rcases hu with rfl | rfl | rfl | rfl | rfl | rfl | rfl <;> rfl
/-- bytes that no turn writes; they may have been handed in -/
def Sb (t gv : Nat) (c : Nat → Colour) (W : World) (v : Value) (cs : List Nat) : Prop := SliceIn W v cs ∧ (cs = [] ∨ ∀ b, v.ownBlock = some b → b < W.heap.size ∧ b ≠ gv ∧ (c b).1 ≠ t)
theorem Sb.sq {t gv : Nat} {c c' : Nat → Colour} {W W' : World} {v : Value} {cs : List Nat} (h : Sb t gv c W v cs) (s : Sq t gv W W' c c') : Sb t gv c' W' v cs := by
 rcases h.2 with rfl | h2
 ·exact ⟨slice_nil h.1, Or.inl rfl⟩
 ·exact ⟨sliceK h.1 fun b e hb => s.ch.block b hb fun x => x.elim (h2 b e).2.1 (h2 b e).2.2, Or.inr fun b e => ⟨Nat.lt_of_lt_of_le (h2 b e).1 s.ch.size, (h2 b e).2.1, by rw [s.cc b (h2 b e).1]; exact (h2 b e).2.2⟩⟩
/-- rows of such objects, of the law's own; their bytes lie in other blocks -/
def TdIn (B t gv : Nat) (c : Nat → Colour) (W : World) (v : Value) (l : List Td) : Prop :=
 (∀ b, v.ownBlock = some b → Out t gv c W b) ∧ ∃ L, COwn 48 7 W B v L ∧ L.length = l.length ∧ ∀ k, k < l.length → ∃ vb, L.getD k [] = tdC (l.getD k default) vb ∧ Sb t gv c W vb (l.getD k default).bs ∧ ((l.getD k default).bs = [] ∨ ∀ b, vb.ownBlock = some b → v.ownBlock ≠ some b)
theorem TdIn.sq {B t gv : Nat} {c c' : Nat → Colour} {W W' : World} {v : Value} {l : List Td} (h : TdIn B t gv c W v l) (s : Sq t gv W W' c c') : TdIn B t gv c' W' v l := by
 obtain ⟨h0, L, h1, h2, h3⟩ := h
 refine ⟨fun b e => (s.out (h0 b e)).1, L, ⟨h1.1, ownK h1.2 fun b e => (s.out (h0 b e)).2⟩, h2, fun k hk => ?_⟩
 obtain ⟨vb, e, k1, k2⟩ := h3 k hk
 exact ⟨vb, e, k1.sq s, k2⟩
/-- a set of blocks of the law's own has turned -/
theorem VOn.own {W W' : World} {c : Nat → Colour} {t gp gv d : Nat} {sz : Int} {m : Pl} {os : List Ob} {sd : Bool} {S : Nat → Prop} (h : VOn W c t gp gv d sz m os sd) (hc : Ch S W W') (hS : ∀ b, S b → Out t gv c W b) : VOn W' c t gp gv d sz m os sd := by
 refine h.away hc (fun x => (hS _ x).2.1 rfl) (fun b _ hx x => (hS b x).2.2.1 hx) ?_
 exact h.env.ch hc (fun x => by have := (hS 0 x).2.2.2; omega) (fun x => by have := (hS 1 x).2.2.2; omega) (fun x => by have := (hS 2 x).2.2.2; omega)
theorem Fr0.own {w W W' : World} {c : Nat → Colour} {t gv : Nat} {S : Nat → Prop} (h : Fr0 w W c t gv) (hc : Ch S W W') (hS : ∀ b, S b → w.heap.size ≤ b) : Fr0 w W' c t gv := ⟨h.bel.trans (hc.below h.bel.size fun i hi e => by have := hS i e; omega), h.gv0, h.col⟩
theorem Sb.own {t gv : Nat} {c : Nat → Colour} {W W' : World} {v : Value} {cs : List Nat} {S : Nat → Prop} (h : Sb t gv c W v cs) (hc : Ch S W W') (hS : cs = [] ∨ ∀ b, v.ownBlock = some b → ¬ S b) : Sb t gv c W' v cs := by
 refine ⟨sliceKn h.1 hS hc, h.2.imp (fun e => e) fun h2 b e => ?_⟩
 have k := h2 b e
 exact ⟨Nat.lt_of_lt_of_le k.1 hc.size, k.2⟩
/-- one more behind -/
theorem TdIn.snoc {B t gv : Nat} {c : Nat → Colour} {W : World} {v : Value} {l : List Td} (h : TdIn B t gv c W v l) (x : Td) (vb : Value) (g : Nat) (hs : Sb t gv c W vb x.bs) (hv : x.bs = [] ∨ ∀ b, vb.ownBlock = some b → v.ownBlock ≠ some b) (hg : ∀ j u, (tdC x vb)[j]? = some u → W.cell? ⟨g, j, none⟩ = some u) (hsz : l.length ≤ 1000000) (hB : B ≤ W.heap.size) (hnew : ∀ (W' : World), W.heap.size < W'.heap.size → Out t gv c W' W.heap.size) :
  ∃ v' W', (∀ ty, (Builtin.append_ #[35, 35] ty #[v, .slice (some ⟨g, 0, none⟩) 1 1]).run Tryd.prog W = .ok v' W') ∧ TdIn B t gv c W' v' (l ++ [x]) ∧ Ch (fun b => v.ownBlock = some b) W W' ∧ (∀ b, v'.ownBlock = some b → v.ownBlock = some b ∨ W.heap.size ≤ b) := by
 obtain ⟨h0, L, h1, h2, h3⟩ := h
 obtain ⟨v', W', hr, ho, hgr, hvv⟩ := run_appC el35 B v L (tdC x vb) h1 (tdC_is x hs.1) g hg (by rw [h2]; exact hsz) hB
 have hc : Ch (fun b => v.ownBlock = some b) W W' := (Ch.refl _ W).grown hgr fun k hk => Or.inl hk
 have key : ∀ {u : Value} {cs : List Nat}, Sb t gv c W u cs → (cs = [] ∨ ∀ b, u.ownBlock = some b → v.ownBlock ≠ some b) → Sb t gv c W' u cs ∧ (cs = [] ∨ ∀ b, u.ownBlock = some b → v'.ownBlock ≠ some b) := fun {u cs} hu hn => by
  refine ⟨hu.own hc hn, ?_⟩
  by_cases q : cs = []
  ·exact Or.inl q
  ·refine Or.inr fun b e e2 => ?_
   rcases hvv with e3 | e3
   ·exact (hn.resolve_left q) b e (e3 ▸ e2)
   ·rw [e3] at e2
    have := Option.some.inj e2
    have := slice_blk hu.1 q b e
    omega
 refine ⟨v', W', hr, ⟨fun b e => ?_, L ++ [tdC x vb], ho, by simp [h2], fun k hk => ?_⟩, hc, fun b e => ?_⟩
 ·rcases hvv with e3 | e3
  ·rw [e3] at e
   have k := h0 b e
   exact ⟨Nat.lt_of_lt_of_le k.1 hc.size, k.2⟩
  ·have e4 : W.heap.size = b := Option.some.inj (e3.symm.trans e)
   rw [← e4]
   exact hnew W' (by rw [e4]; exact (ho.2.lt b e).2)
 ·rcases Nat.lt_or_ge k l.length with q | q
  ·obtain ⟨ub, e, k1, k2⟩ := h3 k q
   have k3 := key k1 k2
   refine ⟨ub, ?_, ?_, ?_⟩
   ·rw [getD_left _ _ _ _ (by rw [h2]; exact q), getD_left _ _ _ _ q]; exact e
   ·rw [getD_left _ _ _ _ q]; exact k3.1
   ·rw [getD_left _ _ _ _ q]; exact k3.2
  ·have e0 : k = l.length := by simp at hk; omega
   have k3 := key hs hv
   refine ⟨vb, ?_, ?_, ?_⟩
   ·rw [getD_last _ _ _ k (by rw [h2]; exact e0), getD_last l x _ k e0]
   ·rw [getD_last l x _ k e0]; exact k3.1
   ·rw [getD_last l x _ k e0]; exact k3.2
 ·rcases hvv with e3 | e3
  ·rw [e3] at e; exact Or.inl e
  ·rw [e3] at e; exact Or.inr (Nat.le_of_eq (Option.some.inj e))
theorem tdC_pl (x : Td) (vb : Value) (j : Nat) (v : Value) (h : (plC (x.d : Nat) (x.a : Nat) (x.n : Nat) false)[j]? = some v) : (tdC x vb)[2 + j]? = some v := by
 have h4 : j < 4 := (List.getElem?_eq_some_iff.1 h).1
 rcases j with _ | _ | _ | _ | j
 ·exact h
 ·exact h
 ·exact h
 ·exact h
 ·omega
theorem run_lenT {w W : World} {a : Act} {o : Oper} {B t gv : Nat} {c : Nat → Colour} {v : Value} {l : List Td} (h : TdIn B t gv c W v l) (x : Operand) (ho : o.op = .call { callee := .builtin .len, args := #[x], argTypes := #[35] }) (hx : a.eval x = v) : (execOp a.eval o).run Tryd.prog w = .ok (.value (.int .i64 (l.length : Nat))) w := by
 obtain ⟨_, L, h1, h2, _⟩ := h
 rw [← h2]
 exact run_lenC el35 h1 x ho hx
set_option maxHeartbeats 4000000 in
set_option maxRecDepth 100000 in
theorem same_any {w : World} {B B2 t gv : Nat} {c : Nat → Colour} {v vT : Value} {L : List (List Value)} {l : List Td} (hv : COwn 40 4 w B2 v L) (hT : TdIn B t gv c w vT l) (hl : L.length = l.length) (hsz : l.length ≤ 1000000) (hx : ∀ k, k < l.length → L.getD k [] = plC ((l.getD k default).d : Nat) ((l.getD k default).a : Nat) ((l.getD k default).n : Nat) false) : Calls Tryd.prog 21 #[v, vT] w fun e w' => e = .returned (.bool true) ∧ Below w.heap.size w w' := by
 obtain ⟨n, hn⟩ : ∃ n, n = l.length := ⟨_, rfl⟩
 have HM : Hid (COwn 40 4 w B2 v L ∧ TdIn B t gv c w vT l ∧ L.length = n ∧ (∀ k, k < n → L.getD k [] = plC ((l.getD k default).d : Nat) ((l.getD k default).a : Nat) ((l.getD k default).n : Nat) false) ∧ n = l.length) := ⟨hv, hT, by rw [hl, hn], by rw [hn]; exact hx, hn⟩
 rw [← hn] at hsz
 clear hv hT hl hx hn
 obtain ⟨PQ, HPQ⟩ := exPQ fun (e : Ending) (w' : World) => e = .returned (.bool true) ∧ Below w.heap.size w w'
 rw [← HPQ.out]
 go_enter Tryd.func21, Tryd.ntmps21
 go_upto_region 0 with fail
 refine wp_region_lit ?_
 refine wl rfl (.bool false) _ (run_asZ (.const (.bool false)) rfl (.bool false) rfl) ?_
 simp only [Act.put, aS, aC, aZ]
 refine wpList_nil ?_
 go_upto_region 1 with fail
 refine wp_region_lit ?_
 refine wl rfl v _ (run_mvZ (.tmp 0) rfl v rfl) ?_
 refine wl rfl (.int .i64 (n : Nat)) _ ((by rw [← HM.out.2.2.1]; exact run_lenC el56 HM.out.1 (.tmp 6) rfl rfl)) ?_
 refine wl rfl vT _ (run_mvZ (.tmp 1) rfl vT rfl) ?_
 simp only [Act.put, aS, aC, aZ]
 refine wl rfl (.int .i64 (n : Nat)) _ ((by rw [HM.out.2.2.2.2]; exact run_lenT HM.out.2.1 (.tmp 8) rfl rfl)) ?_
 refine wl rfl (.bool false) _ (run_neZ (.tmp 7) (.tmp 9) rfl (n : Nat) (n : Nat) rfl rfl false (by simp)) ?_
 simp only [Act.put, aS, aC, aZ]
 refine wpList_nil ?_
 go_upto_region 3 with fail
 refine wp_region_lit ?_
 refine wl rfl (.int .i64 0) _ (run_asZ (.const (.int .i64 0)) rfl (.int .i64 0) rfl) ?_
 simp only [Act.put, aS, aC, aZ]
 refine wpList_nil ?_
 go_wp2_with fail
 go_loopw [5] (fun vk W => ∃ k : Nat, vk = .int .i64 (k : Nat) ∧ k ≤ n ∧ Hid (Below w.heap.size w W)) (fun vk _ => n - (intOf vk).toNat)
 case atStart => exact ⟨0, rfl, Nat.zero_le _, Below.refl _ _⟩
 case round =>
  obtain ⟨k, rfl, hk, HI⟩ := hrel
  by_cases hlt : k < n
  ·go_upto_region 4 with fail
   refine wp_region_lit ?_
   refine wl rfl (.int .i64 (k : Nat)) _ (run_mvZ (.tmp 5) rfl (.int .i64 (k : Nat)) rfl) ?_
   refine wl rfl v _ (run_mvZ (.tmp 0) rfl v rfl) ?_
   refine wl rfl (.int .i64 (n : Nat)) _ ((by rw [← HM.out.2.2.1]; exact run_lenC el56 HM.out.1 (.tmp 12) rfl rfl)) ?_
   simp only [Act.put, aS, aC, aZ]
   refine wl rfl (.bool true) _ (run_lssZ (.tmp 11) (.tmp 13) rfl (k : Nat) (n : Nat) rfl rfl true (decide_eq_true (by omega))) ?_
   simp only [Act.put, aS, aC, aZ]
   refine wpList_nil ?_
   obtain ⟨g, _, _, hx_, hc_⟩ := HM.out.1.ix el56 k (by rw [HM.out.2.2.1]; exact hlt)
   rw [HM.out.2.2.2.1 k hlt] at hc_
   obtain ⟨_, M, hM1, hM2, hM3⟩ := HM.out.2.1
   obtain ⟨vb, hMk, hsl, _⟩ := hM3 k (by rw [← HM.out.2.2.2.2]; exact hlt)
   obtain ⟨g2, _, _, hx2_, hc2_⟩ := hM1.ix el35 k (by rw [hM2, ← HM.out.2.2.2.2]; exact hlt)
   rw [hMk] at hc2_
   obtain ⟨td, htd⟩ : ∃ x, x = l.getD k default := ⟨_, rfl⟩
   rw [← htd] at hc_ hc2_
   have HX : Hid ((∀ w', (Instr.indexAt 56 v (.int .i64 (k : Nat))).run Tryd.prog w' = .ok (.pointer (some ⟨g, k * 4, none⟩)) w') ∧ (∀ W' : World, Below w.heap.size w W' → ∀ j u, (plC (td.d : Nat) (td.a : Nat) (td.n : Nat) false)[j]? = some u → W'.cell? ⟨g, k * 4 + j, none⟩ = some u) ∧ (∀ w', (Instr.indexAt 35 vT (.int .i64 (k : Nat))).run Tryd.prog w' = .ok (.pointer (some ⟨g2, k * 7, none⟩)) w') ∧ (∀ W' : World, Below w.heap.size w W' → ∀ j u, (tdC td vb)[j]? = some u → W'.cell? ⟨g2, k * 7 + j, none⟩ = some u)) := ⟨hx_, fun W' hb => hc_ W' (HM.out.1.later hb), hx2_, fun W' hb => hc2_ W' (hM1.later hb)⟩
   clear hx_ hc_ hM1 hM2 hM3 hMk hsl hx2_ hc2_ htd
   go_upto_region 6 with fail
   refine wp_region_held (S := fun X => Below w.heap.size w X) (by kernel_rfl) ?_
   show wpAnyH _ _ _ _ _ 10 (Array.replicate 10 false) _ _
   obtain ⟨X, hX⟩ : ∃ X : World, X = { wr with drawn := wr.drawn + 1 } := ⟨_, rfl⟩
   rw [← hX]
   have HS_ : Below w.heap.size w X := (by rw [hX]; exact HI.out.trans ((Below.refl w.heap.size wr).trans ⟨rfl, rfl, rfl, Nat.le_refl _, fun _ _ => rfl⟩))
   have HXX : Hid (Below w.heap.size w X) := HS_
   clear hX
   refine tH 0 17 rfl rfl (gRun rfl v fun _ h => run_mvZ (.tmp 0) rfl v rfl) HS_ ?_
   refine tH 1 18 rfl rfl (gRun rfl (.int .i64 (k : Nat)) fun _ h => run_mvZ (.tmp 5) rfl (.int .i64 (k : Nat)) rfl) HS_ ?_
   refine tH 2 19 rfl rfl (gRun rfl (.pointer (some ⟨g, k * 4, none⟩)) fun _ h => run_idx (.tmp 17) (.tmp 18) rfl _ _ _ rfl rfl HX.out.1) HS_ ?_
   simp only [Act.put, aS, aC, aZ]
   refine tH 3 20 rfl rfl (gRun rfl (.agg ((plC (td.d : Nat) (td.a : Nat) (td.n : Nat) false)).toArray) fun _ h => run_loadA ag40 (.tmp 19) rfl g (k * 4) rfl ((plC (td.d : Nat) (td.a : Nat) (td.n : Nat) false)) rfl (HX.out.2.1 _ h)) HS_ ?_
   refine tH 4 21 rfl rfl (gRun rfl vT fun _ h => run_mvZ (.tmp 1) rfl vT rfl) HS_ ?_
   refine tH 5 22 rfl rfl (gRun rfl (.int .i64 (k : Nat)) fun _ h => run_mvZ (.tmp 5) rfl (.int .i64 (k : Nat)) rfl) HS_ ?_
   simp only [Act.put, aS, aC, aZ]
   refine tH 6 23 rfl rfl (gRun rfl (.pointer (some ⟨g2, k * 7, none⟩)) fun _ h => run_idx (.tmp 21) (.tmp 22) rfl _ _ _ rfl rfl HX.out.2.2.1) HS_ ?_
   refine tH 7 24 rfl rfl (gRun rfl (.pointer (some ⟨g2, k * 7 + 2, none⟩)) fun _ h => run_fieldOp' f48_2 (.tmp 23) rfl g2 (k * 7) rfl) HS_ ?_
   refine tH 8 25 rfl rfl (gRun rfl (.agg ((plC (td.d : Nat) (td.a : Nat) (td.n : Nat) false)).toArray) fun _ h => run_loadA ag40 (.tmp 24) rfl g2 (k * 7 + 2) rfl ((plC (td.d : Nat) (td.a : Nat) (td.n : Nat) false)) rfl (fun j u hu => by rw [Nat.add_assoc]; exact HX.out.2.2.2 _ h (2 + j) u (tdC_pl td vb j u hu))) HS_ ?_
   simp only [Act.put, aS, aC, aZ]
   refine tH 9 26 rfl rfl (gRun rfl (.bool false) fun _ h => run_nePl (.tmp 20) (.tmp 25) rfl _ _ _ _ _ _ _ _ rfl rfl false (by simp)) HS_ ?_
   simp only [Act.put, aS, aC, aZ]
   refine wpAnyH_done (by kernel_rfl) ?_ _
   go_upto_region 5 with fail
   refine wp_region_lit ?_
   refine wl rfl (.int .i64 (k : Nat)) _ (run_mvZ (.tmp 5) rfl (.int .i64 (k : Nat)) rfl) ?_
   refine wl rfl (.int .i64 ((k + 1 : Nat) : Int)) _ (run_addZ (.tmp 15) (.const (.int .i64 1)) rfl (k : Nat) 1 _ rfl rfl (by omega) (by omega) (by omega)) ?_
   refine wl rfl (.int .i64 ((k + 1 : Nat) : Int)) _ (run_asZ (.tmp 16) rfl (.int .i64 ((k + 1 : Nat) : Int)) rfl) ?_
   simp only [Act.put, aS, aC, aZ]
   refine wpList_nil ?_
   go_wp2_with fail
   exact ⟨⟨k + 1, rfl, by omega, HXX.out⟩, by simp [intOf]; omega⟩
  ·go_upto_region 4 with fail
   refine wp_region_lit ?_
   refine wl rfl (.int .i64 (k : Nat)) _ (run_mvZ (.tmp 5) rfl (.int .i64 (k : Nat)) rfl) ?_
   refine wl rfl v _ (run_mvZ (.tmp 0) rfl v rfl) ?_
   refine wl rfl (.int .i64 (n : Nat)) _ ((by rw [← HM.out.2.2.1]; exact run_lenC el56 HM.out.1 (.tmp 12) rfl rfl)) ?_
   simp only [Act.put, aS, aC, aZ]
   refine wl rfl (.bool false) _ (run_lssZ (.tmp 11) (.tmp 13) rfl (k : Nat) (n : Nat) rfl rfl false (decide_eq_false (by omega))) ?_
   simp only [Act.put, aS, aC, aZ]
   refine wpList_nil ?_
   go_upto_region 8 with fail
   refine wp_region_lit ?_
   refine wl rfl (.bool true) _ (run_asZ (.const (.bool true)) rfl (.bool true) rfl) ?_
   simp only [Act.put, aS, aC, aZ]
   refine wpList_nil ?_
   go_wp2_with fail
   rw [HPQ.out]
   exact ⟨rfl, HI.out⟩

end Go.Proofs.YtpkkkkomdblpoaaDoor

namespace Go.Proofs.YtpkkkkomdblpoaaDoor
open Go.RowKit Go.Maps

open Cold
theorem run_rem40 {w : World} {a : Act} {o : Oper} (x : Operand) (n : Nat) (hn : 0 < n ∧ n < 1000) (ho : o.op = .binOp .rem 3 x (.const (.int .i64 (n : Nat))) 3) (p : Nat) (hx : a.eval x = .int .i64 (p : Nat)) : (execOp a.eval o).run Tryd.prog w = .ok (.value (.int .i64 ((p % n : Nat) : Int))) w := by
 have e : (a.eval (.const (.int .i64 (n : Nat)))) = .int .i64 (n : Nat) := rfl
 have ht : Int.tmod ((p : Nat) : Int) ((n : Nat) : Int) = ((p % n : Nat) : Int) := rfl
 simp only [execOp, ho, hx, e]
 simp [go_sem, ht]
 omega
theorem IntsIn.ix {w : World} {v : Value} {l : List Int} (h : IntsIn w v l) (k : Nat) (hk : k < l.length) : ∃ b j, (∀ w', (Instr.indexAt 28 v (.int .i64 (k : Nat))).run Tryd.prog w' = .ok (.pointer (some ⟨b, j, none⟩)) w') ∧ ∀ W, Below w.heap.size w W → W.cell? ⟨b, j, none⟩ = some (.int .i64 (l.getD k 0)) := by
 obtain ⟨i3, hi3, hsz⟩ := Option.map_eq_some_iff.1 (show (Tryd.prog.info? 3).map (·.size) = some 1 by kernel_rfl)
 obtain ⟨p, cap, rfl, _, _, h⟩ := h
 rcases h with rfl | ⟨b, off, rfl, hc⟩
 ·simp at hk
 ·exact ⟨b, off + k, fun w' => by simp [Instr.indexAt, asIntOf, run_underlying Tryd.underlying28, hk, sizeOf, typeInfo, hi3, hsz, add_none], fun W hW => cell_later hW (hc k hk)⟩
theorem run_lenI {w w0 : World} {a : Act} {o : Oper} {v : Value} {l : List Int} (h : IntsIn w0 v l) (x : Operand) (ho : o.op = .call { callee := .builtin .len, args := #[x], argTypes := #[28] }) (hx : a.eval x = v) : (execOp a.eval o).run Tryd.prog w = .ok (.value (.int .i64 (l.length : Nat))) w := by
 obtain ⟨p, cap, rfl, _⟩ := h
 exact run_lenZ sl28 x ho p _ _ hx
/-- an empty row of bytes, of objects -/
theorem run_lit38 {w : World} {a : Act} {o : Oper} (ho : o.op = .buildSlice 38 0 #[]) : (execOp a.eval o).run Tryd.prog w = .ok (.value (.slice (some ⟨w.heap.size, 0, none⟩) 0 0)) (w.alloc (.cells #[] 5)) := by
 have hr : (Instr.buildSlice 38 0 #[]).run Tryd.prog w = .ok (.slice (some ⟨w.heap.size, 0, none⟩) 0 0) (w.alloc (.cells #[] 5)) := by kernel_rfl
 simp [execOp, ho, hr]
theorem run_lit35 {w : World} {a : Act} {o : Oper} (ho : o.op = .buildSlice 35 0 #[]) : (execOp a.eval o).run Tryd.prog w = .ok (.value (.slice (some ⟨w.heap.size, 0, none⟩) 0 0)) (w.alloc (.cells #[] 48)) := by
 have hr : (Instr.buildSlice 35 0 #[]).run Tryd.prog w = .ok (.slice (some ⟨w.heap.size, 0, none⟩) 0 0) (w.alloc (.cells #[] 48)) := by kernel_rfl
 simp [execOp, ho, hr]
theorem BOwn.new (w : World) (base : Nat) (hb : base ≤ w.heap.size) : BOwn (w.alloc (.cells #[] 5)) base (.slice (some ⟨w.heap.size, 0, none⟩) 0 0) [] := World.ownsRow_made w #[] 0 hb (Nat.zero_le _) rfl
theorem COwn.new (w : World) (base : Nat) (hb : base ≤ w.heap.size) : COwn 48 7 (w.alloc (.cells #[] 48)) base (.slice (some ⟨w.heap.size, 0, none⟩) 0 0) [] := ⟨CAll.nil 7, World.ownsRow_made w #[] 0 hb (Nat.zero_le _) rfl⟩
theorem run_build48 {w : World} {a : Act} {o : Oper} (x y z : Operand) (ho : o.op = .build 48 #[(0, x), (1, y), (2, z)]) (t : Td) (hf : t.fl = false) (vb : Value) {W : World} {bs : List Nat} (hv : SliceIn W vb bs) (hx : a.eval x = str t.id) (hy : a.eval y = vb) (hz : a.eval z = .agg (plC (t.d : Nat) (t.a : Nat) (t.n : Nat) false).toArray) : (execOp a.eval o).run Tryd.prog w = .ok (.value (.agg (tdC t vb).toArray)) w := by
 obtain ⟨p, cp, rfl, _⟩ := hv
 obtain ⟨id, bs2, d, a2, n, fl⟩ := t
 subst hf
 have hr : (Instr.build 48 #[(0, str id), (1, .slice p bs.length cp), (2, .agg (plC (d : Nat) (a2 : Nat) (n : Nat) false).toArray)]).run Tryd.prog w = .ok (.agg (tdC ⟨id, bs2, d, a2, n, false⟩ (.slice p bs.length cp)).toArray) w := by kernel_rfl
 simp only [execOp, ho, List.map_toArray, List.map_cons, List.map_nil, hx, hy, hz, hr, Sem.run_bind, Sem.run_pure, Result.andThen_ok]
/-- the objects of a volume as the document tells them -/
def tdAt (d : Nat) (os : List Ob) (k : Nat) : Td := ⟨(os.getD k ([], [])).1, (os.getD k ([], [])).2, d, offO os k, nb (os.getD k ([], [])).2.length, false⟩
def tdsOf (d : Nat) (os : List Ob) : List Td := (List.range os.length).map (tdAt d os)
theorem tdsOf_length (d : Nat) (os : List Ob) : (tdsOf d os).length = os.length := by simp [tdsOf]
theorem tdsOf_at (d : Nat) (os : List Ob) (k : Nat) (h : k < os.length) : (tdsOf d os).getD k default = tdAt d os k := by simp [tdsOf, h]
theorem tdsOf_snoc (d : Nat) (os : List Ob) (o : Ob) : tdsOf d (os ++ [o]) = tdsOf d os ++ [⟨o.1, o.2, d, wide os, nb o.2.length, false⟩] := by
 unfold tdsOf
 rw [List.length_append, List.length_singleton, List.range_succ, List.map_append]
 congr 1
 ·apply List.map_congr_left
  intro k hk
  have hk := List.mem_range.1 hk
  unfold tdAt
  rw [getD_left _ _ _ _ hk, offO_snoc os o k (Nat.le_of_lt hk)]
 ·show [tdAt d (os ++ [o]) os.length] = _
  unfold tdAt
  rw [getD_last os o _ _ rfl, offO_snoc os o _ (Nat.le_refl _), offO_end]
/-- the first of the bytes -/
theorem cut512 {W : World} {v : Value} {cs : List Nat} (hin : SliceIn W v cs) (h : 512 < cs.length) : ∃ v', (∀ w', (Instr.slice 38 v none (some (.int .i64 512)) none).run Tryd.prog w' = .ok v' w') ∧ SliceIn W v' (cs.take 512) ∧ ∀ b, v'.ownBlock = some b → v.ownBlock = some b := by
 obtain ⟨v', hr, hs⟩ := run_bsub hin (lo := none) (hi := some (.int .i64 512)) (mx := none) (l := 0) (h := 512) ⟨Or.inl ⟨rfl, rfl⟩, Or.inr ⟨512, rfl, rfl, Or.inl rfl⟩, by omega, by omega⟩
 refine ⟨v', hr, hs, ?_⟩
 obtain ⟨p, cap, rfl, hl, hin⟩ := hin
 have hl2 := hl
 rcases hin with rfl | ⟨g, off, rfl, _⟩
 ·simp at h
 ·obtain ⟨i, hi5, hsz⟩ := Option.map_eq_some_iff.1 info5
  have hsize : ∀ w' : World, (sizeOf 5).run Tryd.prog w' = .ok 1 w' := fun w' => by simp [sizeOf, typeInfo, hi5, hsz]
  have h9 := hr W
  rw [run_slice_h _ _ _ _ _ sl38 _ _ (by omega) (by omega), elem51, hsize] at h9
  have h8 : sliced (some ⟨g, off, none⟩) 0 512 cap 1 = v' := by
   have : (Result.ok (sliced (some ⟨g, off, none⟩) 0 512 cap 1) W : Result Value) = .ok v' W := h9
   injection this
  intro b hb
  rw [← h8] at hb
  simpa [sliced, Value.ownBlock, Addr.add] using hb
/-- the desk of the law: the volume, and what was told of it -/
structure Fg (w W : World) (c : Nat → Colour) (gp gv : Nat) (sz : Int) (m : Pl) (os : List Ob) (K : Nat) (vT : Value) : Prop where
 k : Wk w W c 2 gp gv 0 sz m os false [] K
 t : TdIn w.heap.size 2 gv c W vT (tdsOf 0 os)
 n : ∀ o ∈ os, o.1 = [97]
section
variable {w W W' : World} {c c' : Nat → Colour} {gp gv : Nat} {sz : Int} {m m' : Pl} {os : List Ob} {K : Nat} {vT : Value}
theorem Fg.bel (h : Fg w W c gp gv sz m os K vT) (hb : Below W.heap.size W W') : Fg w W' c gp gv sz m os K vT := ⟨h.k.bel hb, h.t.sq (Sq.bel c hb), h.n⟩
theorem Fg.few (h : Fg w W c gp gv sz m os K vT) : 2 * os.length ≤ 4096 ∧ wide os = (ctn m 0).length ∧ wide os ≤ 4096 := by
 have h1 := h.k.v.len
 have h2 := wide_len os
 simp only [Bool.false_eq_true, if_false, Nat.add_zero] at h1
 omega
/-- an append that was refused, or one more object told -/
theorem Fg.no (h : Fg w W c gp gv sz m os K vT) (s : Sq 2 gv W W' c c') {sd : Bool} (v : VOn W' c' 2 gp gv 0 sz m' os sd) (hsd : sd = false) (o : m' = m ∨ Oth2 m m' 0) : Fg w W' c' gp gv sz m' os (K + 16) vT := by
 subst hsd
 exact ⟨h.k.sq1 s v o, h.t.sq s, h.n⟩
theorem Fg.yes (h : Fg w W c gp gv sz m os K vT) {bs : List Nat} {os' : List Ob} (hos : os' = os ++ [([97], bs)]) {K' : Nat} (k : Wk w W' c' 2 gp gv 0 sz m' os' false [] K') (t : TdIn w.heap.size 2 gv c' W' vT (tdsOf 0 os)) (vb : Value) (g : Nat) (hs : Sb 2 gv c' W' vb bs) (hv : bs = [] ∨ ∀ b, vb.ownBlock = some b → vT.ownBlock ≠ some b) (hg : ∀ j u, (tdC ⟨[97], bs, 0, wide os, nb bs.length, false⟩ vb)[j]? = some u → W'.cell? ⟨g, j, none⟩ = some u) :
  ∃ v' W2, (∀ ty, (Builtin.append_ #[35, 35] ty #[vT, .slice (some ⟨g, 0, none⟩) 1 1]).run Tryd.prog W' = .ok v' W2) ∧ Fg w W2 c' gp gv sz m' os' K' v' := by
 have hf := h.few
 obtain ⟨v', W2, hr, ht, hc, _⟩ := t.snoc ⟨[97], bs, 0, wide os, nb bs.length, false⟩ vb g hs hv hg (by rw [tdsOf_length]; omega) k.f.bel.size (fun W3 hlt => k.v.outNew (Nat.le_refl _) hlt)
 refine ⟨v', W2, hr, ⟨⟨k.v.own hc fun b e => t.1 b e, k.f.own hc fun b e => ?_, Mine.nil _ _ _ _ _, k.k⟩, ?_, fun o ho => ?_⟩⟩
 ·obtain ⟨_, L, hL, _⟩ := t
  exact (hL.2.lt b e).1
 ·rw [hos, tdsOf_snoc]; exact ht
 ·rw [hos] at ho
  rcases List.mem_append.1 ho with ho | ho
  ·exact h.n o ho
  ·rw [List.mem_singleton.1 ho]
end

end Go.Proofs.YtpkkkkomdblpoaaDoor

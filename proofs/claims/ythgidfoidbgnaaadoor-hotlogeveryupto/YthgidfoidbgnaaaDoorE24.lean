/- Maps from numbers to numbers. Layer 14: a hot disk in memory; free segments. -/
import Derived.Test.YthgidfoidbgnaaaDoorE23
namespace Go.Proofs.YthgidfoidbgnaaaDoor
open Go.RowKit Go.Maps Go.MapKept

/-- numbers in a map -/
def svVn (z : Int) : Value := .int .i64 z
def svDn (z : Int) : DataW Unit := .lit (.int .i64 z)
theorem svVn_inj {a b : Int} (h : svVn a = svVn b) : a = b := by simpa [svVn] using h
theorem svDn_inj {a b : Int} (h : svDn a = svDn b) : a = b := by simpa [svDn] using h
open Classical in
noncomputable def svRn (v : Value) : Option (DataW Unit × List MemPlace) := if h : ∃ s, v = svVn s then some (svDn h.choose, []) else none
theorem svRn_of (s : Int) : svRn (svVn s) = some (svDn s, []) := by
 have hx : ∃ s', svVn s = svVn s' := ⟨s, rfl⟩
 unfold svRn
 rw [dif_pos hx, ← svVn_inj hx.choose_spec]
theorem svRn_inv {v : Value} {z : DataW Unit × List MemPlace} (h : svRn v = some z) : ∃ s, v = svVn s ∧ z = (svDn s, []) := by
 unfold svRn at h
 split at h
 ·rename_i hx
  exact ⟨hx.choose, hx.choose_spec, (Option.some.inj h).symm⟩
 ·cases h
def keyI (p : Int) : Lit := .int .i64 p
theorem keyI_inj {p q : Int} (h : keyI p = keyI q) : p = q := by simpa [keyI] using h
theorem keyI_ne {p q : Int} (h : p ≠ q) : keyI p ≠ keyI q := fun e => h (keyI_inj e)
def Wf (p : Int) : Prop := (Lit.int .i64 p).wf = true
theorem Wf.of {p : Int} (h : -9223372036854775808 ≤ p ∧ p ≤ 9223372036854775807) : Wf p := WalkArith.wf_i64 (by omega)
theorem keyOf_I {p : Int} (h : Wf p) : keyOf Tryd.prog 3 (.int .i64 p) = some (keyI p) := keyOf_int_mk Tryd.underlying3 h
theorem isKey_I (p : Int) : WideAt.IsKeyLit (keyI p) := trivial
theorem map88 : Tryd.prog.underlying 88 = some (.map 3 3) := by kernel_rfl
theorem zero3i (w : World) : (zeroValue 3).run Tryd.prog w = .ok (svVn 0) w := by kernel_rfl

/-- block b is a map of n entries, at each number what f says -/
def MapN (w : World) (b n : Nat) (f : Int → Option Int) : Prop :=
 ∃ D, w.ownsMap Tryd.prog 3 svRn b n D ∧ Maps.size D = n ∧ (∀ p, Maps.has D (keyI p) = (f p).isSome) ∧ (∀ p a, f p = some a → ∀ z, D.atKey (keyI p) z = svDn a)
section
variable {w : World} {b n : Nat} {f : Int → Option Int}
theorem MapN.lt (h : MapN w b n f) : b < w.heap.size := by
 obtain ⟨D, hown, _⟩ := h
 exact hown.lt
theorem MapN.kept (h : MapN w b n f) {w' : World} (hb : w'.heap[b]? = w.heap[b]?) : MapN w' b n f := by
 obtain ⟨D, ⟨es, clock, h1, h2⟩, h⟩ := h
 exact ⟨D, ⟨es, clock, hb.trans h1, h2⟩, h⟩
theorem MapN.made (w : World) : MapN (w.alloc (.map #[] 0)) w.heap.size 0 (fun _ => none) :=
 ⟨.map [], World.ownsMap_made w _ _ _, rfl, fun _ => rfl, fun _ a (h : none = some a) => (nomatch h)⟩
theorem MapN.ne_row (h : MapN w b n f) {g : Nat} {t : TypeId} {cs : Array Value} {z : Nat × Nat} (hr : w.heap[g]? = some (.cells cs t z)) : b ≠ g := by
 rintro rfl
 obtain ⟨D, ⟨es, clock, h1, _⟩, _⟩ := h
 rw [hr] at h1
 cases h1
theorem MapN.look (h : MapN w b n f) (p : Int) (hp : Wf p) : (Instr.lookup 88 (.map (some b)) (.int .i64 p) true).run Tryd.prog w = .ok (.tuple #[svVn ((f p).getD 0), .bool (f p).isSome]) w := by
 obtain ⟨D, hown, _, hh, ha⟩ := h
 obtain ⟨v, ps, hrun, hv⟩ := hown.look_ok law3 map88 (zero3i w) (svRn_of 0) (keyOf_I hp)
 obtain ⟨a, rfl, hd⟩ := svRn_inv hv
 have hd := (Prod.mk.inj hd).1
 rw [hrun, hh p]
 cases hf : f p with
 | none =>
  rw [atKey_of_not_has (by rw [hh p, hf]; rfl)] at hd
  rw [svDn_inj hd.symm]
  rfl
 | some c =>
  rw [ha p c hf] at hd
  rw [svDn_inj hd.symm]
  rfl
theorem MapN.store (h : MapN w b n f) (hn : n ≤ 9007199254740992) (p : Int) (hp : Wf p) (a : Int) :
  ∃ w', (Instr.mapUpdate 88 (.map (some b)) (.int .i64 p) (svVn a)).run Tryd.prog w = .ok () w' ∧ MapN w' b (if (f p).isSome then n else n + 1) (fun q => if q = p then some a else f q) ∧ w.mapTurned w' b := by
 obtain ⟨D, hown, hs, hh, ha⟩ := h
 obtain ⟨w', hrun, hown', ht'⟩ := hown.store law3 map88 (by unfold maxLen; omega) (keyOf_I hp) (svRn_of a)
 refine ⟨w', hrun, ⟨D.put (keyI p) (svDn a), ?_, ?_, ?_, ?_⟩, ht'⟩
 ·obtain ⟨es, clock, h1, h2, h3, h4⟩ := hown'
  refine ⟨es, clock, h1, h2, ?_, h4⟩
  have e1 : es.size = Maps.size (D.put (keyI p) (svDn a)) := by rw [h4]; simp [Maps.size, length_sorted]
  rw [e1, size_put (hown.tidy law3), hh p, hs]
  exact Nat.le_refl _
 ·rw [size_put (hown.tidy law3), hh p, hs]
 ·intro q
  dsimp only
  by_cases hq : q = p
  ·subst hq
   rw [if_pos rfl, has_put_same hown.isMap (isKey_I q)]
   rfl
  ·rw [if_neg hq, has_put_other (keyI_ne hq)]
   exact hh q
 ·intro q c hq z
  dsimp only at hq
  by_cases hqp : q = p
  ·subst hqp
   rw [if_pos rfl] at hq
   cases hq
   exact atKey_put_same hown.isMap (isKey_I q) _ _
  ·rw [if_neg hqp] at hq
   rw [atKey_put_other (keyI_ne hqp)]
   exact ha q c hq z
theorem MapN.drop (h : MapN w b n f) (p : Int) (hp : Wf p) (hf : (f p).isSome = true) (ty : TypeId) :
  ∃ w', (Builtin.delete_ #[88, 3] ty #[.map (some b), .int .i64 p]).run Tryd.prog w = .ok (.tuple #[]) w' ∧ MapN w' b (n - 1) (fun q => if q = p then none else f q) ∧ w.mapTurned w' b := by
 obtain ⟨D, hown, hs, hh, ha⟩ := h
 obtain ⟨w', hrun, hown', ht'⟩ := hown.drop law3 map88 (keyOf_I hp) ty
 have hsz : Maps.size (D.del (keyI p)) = n - 1 := by
  have := size_del (hown.tidy law3) (k := keyI p)
  rw [hh p, hf, hs] at this
  simp at this
  omega
 refine ⟨w', hrun, ⟨D.del (keyI p), ?_, hsz, ?_, ?_⟩, ht'⟩
 ·obtain ⟨es, clock, h1, h2, h3, h4⟩ := hown'
  refine ⟨es, clock, h1, h2, ?_, h4⟩
  have e1 : es.size = Maps.size (D.del (keyI p)) := by rw [h4]; simp [Maps.size, length_sorted]
  rw [e1, hsz]
  exact Nat.le_refl _
 ·intro q
  dsimp only
  by_cases hq : q = p
  ·subst hq
   rw [if_pos rfl, has_del_same]
   rfl
  ·rw [if_neg hq, has_del_other (keyI_ne hq)]
   exact hh q
 ·intro q c hq z
  dsimp only at hq
  by_cases hqp : q = p
  ·rw [if_pos hqp] at hq
   cases hq
  ·rw [if_neg hqp] at hq
   rw [atKey_del_other (keyI_ne hqp)]
   exact ha q c hq z
end
theorem mapTurned_ch {w w' : World} {b : Nat} (h : w.mapTurned w' b) : Ch (· = b) w w' := by
 have hg := h.grown
 exact ⟨hg.os, hg.tape, hg.output, hg.size, fun k hk hne => hg.block k hk (fun e => hne (by injection e))⟩
section
variable {w : World} {a : Act} {o : Oper} {b n : Nat} {f : Int → Option Int}
theorem run_lookI (h : MapN w b n f) (m x : Operand) (ho : o.op = .lookup 88 m x true) (p : Int) (hp : Wf p) (hm : a.eval m = .map (some b)) (hx : a.eval x = .int .i64 p) :
  (execOp a.eval o).run Tryd.prog w = .ok (.value (.tuple #[svVn ((f p).getD 0), .bool (f p).isSome])) w := by
 simp [execOp, ho, hm, hx, h.look p hp]
theorem run_putI (m x y : Operand) (ho : o.op = .mapUpdate 88 m x y) (p : Int) (c : Value) (hm : a.eval m = .map (some b)) (hx : a.eval x = .int .i64 p) (hy : a.eval y = c) {w' : World} (hr : (Instr.mapUpdate 88 (.map (some b)) (.int .i64 p) c).run Tryd.prog w = .ok () w') : (execOp a.eval o).run Tryd.prog w = .ok .skip w' := by
 simp [execOp, ho, hm, hx, hy, hr]
theorem run_delI (m x : Operand) (ho : o.op = .call { callee := .builtin .delete, args := #[m, x], argTypes := #[88, 3] }) (p : Int) (hm : a.eval m = .map (some b)) (hx : a.eval x = .int .i64 p) {w' : World} (hr : (Builtin.delete_ #[88, 3] o.type #[.map (some b), .int .i64 p]).run Tryd.prog w = .ok (.tuple #[]) w') : (execOp a.eval o).run Tryd.prog w = .ok (.value (.tuple #[])) w' := by
 simp only [execOp, ho, resolve, invoke, builtin, Sem.run_bind, Sem.run_pure, Result.andThen_ok, List.map_toArray, List.map_cons, List.map_nil, hm, hx, hr]
end
end Go.Proofs.YthgidfoidbgnaaaDoor

namespace Go.Proofs.YthgidfoidbgnaaaDoor
open Go.RowKit Go.Maps


def u16C (fr : List Nat) : List Value := fr.map fun s => .int .u16 (s : Nat)
theorem u16C_length (fr : List Nat) : (u16C fr).length = fr.length := by simp [u16C]
theorem u16C_at (fr : List Nat) (i : Nat) (h : i < fr.length) : (u16C fr)[i]? = some (.int .u16 (fr.getD i 0 : Nat)) := by simp [u16C, h]
theorem u16C_set (fr : List Nat) (i v : Nat) : u16C (fr.set i v) = (u16C fr).set i (.int .u16 (v : Nat)) := by simp [u16C, List.map_set]
theorem size114 : (Tryd.prog.info? 114).map (·.size) = some 1 := by kernel_rfl
theorem info114 : (Tryd.prog.info? 114).map (fun i => (i.zero, i.size, i.bytes)) = some (some (.int .u16 0), 1, 2) := by kernel_rfl
/-- the place of an element of a slice that is a whole block -/
theorem ixW {t e sz : Nat} (hu : Tryd.prog.underlying t = some (.slice e)) (hs : (Tryd.prog.info? e).map (·.size) = some sz) (g n k : Nat) (hk : k < n) (w : World) : (Instr.indexAt t (whole g n) (.int .i64 (k : Nat))).run Tryd.prog w = .ok (.pointer (some ⟨g, k * sz, none⟩)) w := by
 obtain ⟨i, hi, hsz⟩ := Option.map_eq_some_iff.1 hs
 simp [whole, Instr.indexAt, asIntOf, run_underlying hu, hk, sizeOf, typeInfo, hi, hsz, add_none]
theorem ix86 (g n k : Nat) (hk : k < n) (w : World) : (Instr.indexAt 86 (whole g n) (.int .i64 (k : Nat))).run Tryd.prog w = .ok (.pointer (some ⟨g, k, none⟩)) w := by
 have h := ixW Tryd.underlying86 size114 g n k hk w
 rw [Nat.mul_one] at h
 exact h
/-- a hot disk in memory -/
structure HotM (W : World) (gh gp gf gm d n : Nat) (fr : List Nat) (f : Int → Option Int) : Prop where
 row : Row W gh 90 [ptr gp, .int .i64 (d : Nat), whole gf fr.length, .map (some gm)]
 free : Row W gf 114 (u16C fr)
 map : MapN W gm n f
section
variable {W W' : World} {gh gp gf gm d n : Nat} {fr : List Nat} {f : Int → Option Int}
theorem HotM.kept (h : HotM W gh gp gf gm d n fr f) (hk : ∀ b, b = gh ∨ b = gf ∨ b = gm → W'.heap[b]? = W.heap[b]?) : HotM W' gh gp gf gm d n fr f :=
 ⟨(hk gh (Or.inl rfl)).trans h.row, (hk gf (Or.inr (Or.inl rfl))).trans h.free, h.map.kept (hk gm (Or.inr (Or.inr rfl)))⟩
theorem HotM.lt (h : HotM W gh gp gf gm d n fr f) {b : Nat} (hb : b = gh ∨ b = gf ∨ b = gm) : b < W.heap.size := by
 rcases hb with rfl | rfl | rfl
 ·exact h.row.lt
 ·exact h.free.lt
 ·exact h.map.lt
theorem HotM.ch {S : Nat → Prop} (h : HotM W gh gp gf gm d n fr f) (hc : Ch S W W') (hS : ¬ S gh ∧ ¬ S gf ∧ ¬ S gm) : HotM W' gh gp gf gm d n fr f :=
 h.kept fun b hb => hc.block b (h.lt hb) (by rcases hb with rfl | rfl | rfl; exact hS.1; exact hS.2.1; exact hS.2.2)
theorem HotM.later (h : HotM W gh gp gf gm d n fr f) (hb : Below W.heap.size W W') : HotM W' gh gp gf gm d n fr f := h.kept fun b hk => hb.block b (h.lt hk)
end

theorem rep_step (k i : Nat) (h : i < k) : (List.replicate i 65535 ++ List.replicate (k - i) 0).set i 65535 = List.replicate (i + 1) 65535 ++ List.replicate (k - (i + 1)) 0 := by
 rw [List.set_append_right _ _ (by simp), List.length_replicate, Nat.sub_self, show k - i = (k - (i + 1)) + 1 by omega, List.replicate_succ, List.replicate_succ']
 simp
theorem made114 (n : Nat) : (madeCells (Value.int IntKind.u16 0).cells (n * 1)).toList = u16C (List.replicate n 0) := by
 apply List.ext_getElem?
 intro i
 by_cases h : i < n
 ·simp [madeCells, u16C, Value.cells, h, Nat.mod_one]
 ·simp [madeCells, u16C, Value.cells, h, Nat.mod_one]
set_option maxHeartbeats 4000000 in
set_option maxRecDepth 100000 in
theorem allFree_any (w : World) (k : Nat) (hk : k ≤ 1000) : Calls Tryd.prog 34 #[.int .i64 (k : Nat)] w fun e w' => ∃ gf, e = .returned (whole gf k) ∧ w.heap.size ≤ gf ∧ Row w' gf 114 (u16C (List.replicate k 65535)) ∧ Below w.heap.size w w' := by
 obtain ⟨PQ, HPQ⟩ := exPQ fun (e : Ending) (w' : World) => ∃ gf, e = .returned (whole gf k) ∧ w.heap.size ≤ gf ∧ Row w' gf 114 (u16C (List.replicate k 65535)) ∧ Below w.heap.size w w'
 rw [← HPQ.out]
 go_enter Tryd.func34, Tryd.ntmps34
 go_upto_region 0 with fail
 refine wp_region_lit ?_
 refine wl rfl (.slice none 0 0) _ (run_asZ (.const (.slice none 0 0)) rfl (.slice none 0 0) rfl) ?_
 simp only [Act.put, aS, aC, aZ]
 refine wpList_nil ?_
 go_upto_region 1 with fail
 refine wp_region_lit ?_
 refine wl rfl (.int .i64 (k : Nat)) _ (run_mvZ (.tmp 0) rfl (.int .i64 (k : Nat)) rfl) ?_
 simp only [Act.put, aS, aC, aZ]
 refine wl_make (.tmp 5) (.tmp 5) 86 114 (.int .u16 0) 1 2 rfl rfl Tryd.underlying86 info114 k rfl rfl (by omega) (by omega) fun W1 hr1 hs1 hb1 => ?_
 rw [made114] at hr1
 obtain ⟨gf, hgf⟩ : ∃ g, g = w.heap.size := ⟨_, rfl⟩
 rw [← hgf] at hr1 ⊢
 have HW : Hid (gf = w.heap.size ∧ Below w.heap.size w W1 ∧ Row W1 gf 114 (u16C (List.replicate k 0))) := ⟨hgf, hb1, hr1⟩
 clear hgf hb1 hr1 hs1
 simp only [Act.put, aS, aC, aZ]
 refine wl rfl (whole gf k) _ (run_asZ (.tmp 6) rfl (whole gf k) rfl) ?_
 simp only [Act.put, aS, aC, aZ]
 refine wpList_nil ?_
 go_upto_region 2 with fail
 refine wp_region_lit ?_
 refine wl rfl (whole gf k) _ (run_mvZ (.tmp 3) rfl (whole gf k) rfl) ?_
 refine wl rfl (.int .i64 (k : Nat)) _ (run_lenZ sl86 (.tmp 7) rfl (some ⟨gf, 0, none⟩) k k rfl) ?_
 refine wl rfl (.int .i64 0) _ (run_mvZ (.const (.int .i64 0)) rfl (.int .i64 0) rfl) ?_
 simp only [Act.put, aS, aC, aZ]
 refine wpList_nil ?_
 go_wp2_with fail
 go_loopw [9] (fun vi W => ∃ i : Nat, vi = .int .i64 (i : Nat) ∧ i ≤ k ∧ Hid (Below w.heap.size w W ∧ Row W gf 114 (u16C (List.replicate i 65535 ++ List.replicate (k - i) 0)))) (fun vi _ => k - (intOf vi).toNat)
 case atStart => exact ⟨0, rfl, Nat.zero_le _, HW.out.2.1, by rw [List.replicate_zero, List.nil_append]; exact HW.out.2.2⟩
 case round =>
  obtain ⟨i, rfl, hi, HI⟩ := hrel
  by_cases hlt : i < k
  ·go_upto_region 3 with fail
   refine wp_region_lit ?_
   refine wl rfl (.bool true) _ (run_lssZ (.tmp 9) (.tmp 8) rfl (i : Nat) (k : Nat) rfl rfl true (decide_eq_true (by omega))) ?_
   simp only [Act.put, aS, aC, aZ]
   refine wpList_nil ?_
   go_upto_region 4 with fail
   refine wp_region_lit ?_
   refine wl rfl (.int .i64 (i : Nat)) _ (run_mvZ (.tmp 9) rfl (.int .i64 (i : Nat)) rfl) ?_
   refine wl rfl (.int .i64 (i : Nat)) _ (run_asZ (.tmp 11) rfl (.int .i64 (i : Nat)) rfl) ?_
   simp only [Act.put, aS, aC, aZ]
   refine wpList_nil ?_
   go_upto_region 5 with fail
   refine wp_region_lit ?_
   refine wl rfl (whole gf k) _ (run_mvZ (.tmp 3) rfl (whole gf k) rfl) ?_
   refine wl rfl (.int .i64 (i : Nat)) _ (run_mvZ (.tmp 4) rfl (.int .i64 (i : Nat)) rfl) ?_
   simp only [Act.put, aS, aC, aZ]
   refine wpList_callW eN53 [.const (.int .i64 0), .const (.int .i64 16)] _ rfl rfl [.int .i64 0, .int .i64 16] rfl ?_
   refine (row_any wr 0 16 (by decide)).mono ?_
   rintro e w_ ⟨rfl, rfl⟩
   refine ⟨_, rfl, ?_⟩
   simp only [Act.put, aS, aC, aZ]
   refine wl rfl (.pointer (some ⟨gf, i, none⟩)) _ (run_idx (.tmp 12) (.tmp 13) rfl _ _ _ rfl rfl (ix86 gf k i hlt)) ?_
   simp only [Act.put, aS, aC, aZ]
   refine wl_put (t := 114) size114 (.tmp 15) (.tmp 14) rfl rfl rfl gf i 114 _ rfl (.int .u16 65535) rfl ⟨rfl, rfl⟩ HI.out.2 (by rw [u16C_length]; simp; omega) ?_
   refine wpList_nil ?_
   have HN : Hid (Below w.heap.size w (wr.setCell ⟨gf, i, none⟩ (.int .u16 65535)) ∧ Row (wr.setCell ⟨gf, i, none⟩ (.int .u16 65535)) gf 114 (u16C (List.replicate (i + 1) 65535 ++ List.replicate (k - (i + 1)) 0))) := ⟨HI.out.1.trans ((Ch.setCell (S := (· = gf)) (Ch.refl _ wr) (Or.inl rfl) i _).below HI.out.1.size fun j hj e => by rw [e, HW.out.1] at hj; exact absurd hj (Nat.lt_irrefl _)), by rw [← rep_step k i hlt, u16C_set]; exact HI.out.2.setCell i _⟩
   obtain ⟨W2, hW2⟩ : ∃ W2, W2 = wr.setCell ⟨gf, i, none⟩ (.int .u16 65535) := ⟨_, rfl⟩
   rw [← hW2] at HN ⊢
   clear hW2
   go_wp2_with fail
   refine ⟨⟨i + 1, by go_num, by omega, HN.out⟩, ?_⟩
   simp [intOf]; omega
  ·go_upto_region 3 with fail
   refine wp_region_lit ?_
   refine wl rfl (.bool false) _ (run_lssZ (.tmp 9) (.tmp 8) rfl (i : Nat) (k : Nat) rfl rfl false (decide_eq_false (by omega))) ?_
   simp only [Act.put, aS, aC, aZ]
   refine wpList_nil ?_
   have ei : i = k := by omega
   subst ei
   go_wp2_with fail
   rw [HPQ.out]
   exact ⟨gf, rfl, by rw [HW.out.1]; exact Nat.le_refl _, by have h := HI.out.2; rw [Nat.sub_self, List.replicate_zero, List.append_nil] at h; exact h, HI.out.1⟩

end Go.Proofs.YthgidfoidbgnaaaDoor

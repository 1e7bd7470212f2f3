/- Layer 14: Open. -/
import Derived.Test.YthgidfoidbgnaaaDoorE34
namespace Go.Proofs.YthgidfoidbgnaaaDoor
open Go.RowKit Go.Maps


/-- a place, as it is handed in -/
structure Pq where
 dv : Int
 at_ : Int
 ln : Int
 bd : Bool
instance : Inhabited Pq := ⟨⟨0, 0, 0, false⟩⟩
def Pq.cells (x : Pq) : List Value := plC x.dv x.at_ x.ln x.bd
def Pq.ok (x : Pq) : Prop := I64 x.dv ∧ I64 x.at_ ∧ I64 x.ln
/-- places in a slice -/
def PlsIn (W : World) (v : Value) (us : List Pq) : Prop :=
 ∃ p cap, v = .slice p us.length cap ∧ us.length ≤ cap ∧ us.length ≤ 140737488355328 ∧ (us = [] ∨ ∃ b off, p = some ⟨b, off, none⟩ ∧ ∀ i, i < us.length → ∀ j, j < 4 → W.cell? ⟨b, off + (i * 4 + j), none⟩ = (us.getD i default).cells[j]?) ∧ ∀ x ∈ us, x.ok
theorem und43 : Tryd.prog.underlying 43 = some (.slice 30) := by kernel_rfl
theorem sz30 : (Tryd.prog.info? 30).map (·.size) = some 4 := by kernel_rfl
theorem ix_pl {w : World} {v : Value} {us : List Pq} (hin : PlsIn w v us) (k : Nat) (hk : k < us.length) : ∃ b j, (∀ w', (Instr.indexAt 43 v (.int .i64 (k : Nat))).run Tryd.prog w' = .ok (.pointer (some ⟨b, j, none⟩)) w') ∧ (us.getD k default).ok ∧ ∀ W, Below w.heap.size w W → ∀ (i : Nat) u, (us.getD k default).cells[i]? = some u → W.cell? ⟨b, j + i, none⟩ = some u := by
 obtain ⟨i3, hi3, hsz⟩ := Option.map_eq_some_iff.1 sz30
 obtain ⟨p, cap, rfl, hl, _, h, hop⟩ := hin
 rcases h with rfl | ⟨b, off, rfl, hc⟩
 ·simp at hk
 ·have hm : us.getD k default ∈ us := by rw [List.getD_eq_getElem?_getD, List.getElem?_eq_getElem hk]; exact List.getElem_mem hk
  refine ⟨b, off + k * 4, fun w' => by simp [Instr.indexAt, asIntOf, run_underlying und43, hk, sizeOf, typeInfo, hi3, hsz, add_none], hop _ hm, fun W hW i u hu => ?_⟩
  have hi : i < 4 := by
   have := (List.getElem?_eq_some_iff.1 hu).1
   simpa [Pq.cells, plC] using this
  have h9 := hc k hk i hi
  rw [hu] at h9
  rw [Nat.add_assoc]
  exact cell_later hW h9
theorem run_lenP {w w0 : World} {a : Act} {o : Oper} {v : Value} {us : List Pq} (h : PlsIn w0 v us) (x : Operand) (ho : o.op = .call { callee := .builtin .len, args := #[x], argTypes := #[43] }) (hx : a.eval x = v) : (execOp a.eval o).run Tryd.prog w = .ok (.value (.int .i64 (us.length : Nat))) w := by
 obtain ⟨p, cap, rfl, _⟩ := h
 exact run_lenZ sl43 x ho p _ _ hx
/-- the places taken one by one; none: one of them is none, or is not free -/
def opn (d : Nat) : List Pq → List Nat → (Int → Option Int) → Nat → Option (List Nat × (Int → Option Int) × Nat)
 | [], fr, f, n => some (fr, f, n)
 | x :: r, fr, f, n => if isPl d fr.length x.dv x.at_ x.ln = true ∧ frB fr x.at_.toNat x.ln.toNat = true then opn d r (fr.set (x.at_.toNat / 16) (lessM (fr.getD (x.at_.toNat / 16) 0) (rowM (x.at_.toNat % 16) x.ln.toNat))) (fun q => if q = (x.at_.toNat : Nat) then some (x.ln.toNat : Nat) else f q) (if (f (x.at_.toNat : Nat)).isSome then n else n + 1) else none
theorem isPl_nat {d k : Nat} {dv at_ ln : Int} (h : isPl d k dv at_ ln = true) : dv = (d : Nat) ∧ at_ = (at_.toNat : Nat) ∧ ln = (ln.toNat : Nat) ∧ 1 ≤ ln.toNat ∧ at_.toNat / 16 < k ∧ at_.toNat % 16 + ln.toNat ≤ 16 := by
 have h := of_decide_eq_true h
 omega
theorem lessM_lt {s : Nat} (r : Nat) (h : s < 65536) : lessM s r < 65536 := Nat.lt_of_le_of_lt Nat.and_le_left h
theorem run_field84 {w : World} {a : Act} {o : Oper} (x : Operand) (ho : o.op = .field 84 x 0) (vd vt : Value) (h1 : ∃ p n c, vd = .slice p n c) (h2 : ∃ p n c, vt = .slice p n c) (hx : a.eval x = .agg #[vd, vt]) : (execOp a.eval o).run Tryd.prog w = .ok (.value vd) w := by
 obtain ⟨p, n, c, rfl⟩ := h1
 obtain ⟨p2, n2, c2, rfl⟩ := h2
 have hr : (Instr.field 84 (.agg #[.slice p n c, .slice p2 n2 c2]) 0).run Tryd.prog w = .ok (.slice p n c) w := by kernel_rfl
 simp [execOp, ho, hx, hr]
theorem run_quo16 {w : World} {a : Act} {o : Oper} (x : Operand) (ho : o.op = .binOp .quo 3 x (.const (.int .i64 16)) 3) (p : Nat) (hp : p < 1000000) (hx : a.eval x = .int .i64 (p : Nat)) : (execOp a.eval o).run Tryd.prog w = .ok (.value (.int .i64 ((p / 16 : Nat) : Int))) w := by
 have e : (a.eval (.const (.int .i64 16))) = .int .i64 16 := rfl
 have hwr : IntKind.i64.wrap ((p : Int) / 16) = (p : Int) / 16 := by
  simp [IntKind.wrap, IntKind.signed, IntKind.bits]
  omega
 simp only [execOp, ho, hx, e]
 simp [go_sem, hwr]
theorem run_mkMap88 {w : World} {a : Act} {o : Oper} (ho : o.op = .makeMap 88 none) : (execOp a.eval o).run Tryd.prog w = .ok (.value (.map (some w.heap.size))) (w.alloc (.map #[] 0)) := by
 simp [execOp, ho, run_makeMap]
def hcells (gp d gf k gm : Nat) : List Value := [ptr gp, .int .i64 (d : Nat), whole gf k, .map (some gm)]
theorem run_build90 {w : World} {a : Act} {o : Oper} (x y z u : Operand) (ho : o.op = .build 90 #[(0, x), (1, y), (2, z), (3, u)]) (gp d gf k gm : Nat) (hx : a.eval x = ptr gp) (hy : a.eval y = .int .i64 (d : Nat)) (hz : a.eval z = whole gf k) (hu : a.eval u = .map (some gm)) : (execOp a.eval o).run Tryd.prog w = .ok (.value (.agg (hcells gp d gf k gm).toArray)) w := by
 have hr : (Instr.build 90 #[(0, ptr gp), (1, .int .i64 (d : Nat)), (2, whole gf k), (3, .map (some gm))]).run Tryd.prog w = .ok (.agg (hcells gp d gf k gm).toArray) w := by kernel_rfl
 simp only [execOp, ho, List.map_toArray, List.map_cons, List.map_nil, hx, hy, hz, hu, hr, Sem.run_bind, Sem.run_pure, Result.andThen_ok]
theorem sized_disks {m : Pl} {ds ts : List Nat} (h : ShapeOf m ds ts) : sized false m.sh = ds.map fun x => Value.int .i64 (x : Nat) := by
 unfold sized
 rw [h, List.filter_append]
 have e1 : (ds.map fun n => (false, n)).filter (fun x => x.1 == false) = ds.map fun n => (false, n) := by
  rw [List.filter_eq_self]
  intro x hx
  obtain ⟨y, _, rfl⟩ := List.mem_map.1 hx
  rfl
 have e2 : (ts.map fun n => (true, n)).filter (fun x => x.1 == false) = [] := by
  rw [List.filter_eq_nil_iff]
  intro x hx
  obtain ⟨y, _, rfl⟩ := List.mem_map.1 hx
  simp
 rw [e1, e2, List.append_nil, List.map_map]
 rfl
theorem shapeD {w : World} {c : Nat → Colour} {gp : Nat} {m : Pl} {ds ts : List Nat} (h : Live w c 2 gp m) (hs : ShapeOf m ds ts) : Calls Tryd.prog 33 #[ptr gp] w fun e w' => ∃ vd vt, e = .returned (.agg #[vd, vt]) ∧ w'.ownsRow w.heap.size 3 1 vd ds.length (ds.map fun x => Value.int .i64 (x : Nat)) ∧ (∃ p n c, vt = .slice p n c) ∧ Below w.heap.size w w' := by
 obtain ⟨⟨db, cap, gs, hP⟩, hwf, _⟩ := h
 refine (shape_any hP hwf).mono ?_
 rintro e w' ⟨vd, vt, he, h1, h2, hb⟩
 rw [sized_disks hs, List.length_map] at h1
 exact ⟨vd, vt, he, h1, own_isSlice h2, hb⟩
theorem run_lenO31 {w w0 : World} {a : Act} {o : Oper} {v : Value} {n : Nat} {xs : List Value} {base : Nat} (h : w0.ownsRow base 3 1 v n xs) (x : Operand) (ho : o.op = .call { callee := .builtin .len, args := #[x], argTypes := #[31] }) (hx : a.eval x = v) : (execOp a.eval o).run Tryd.prog w = .ok (.value (.int .i64 (n : Nat))) w := by
 rcases h.2 with ⟨rfl, rfl⟩ | ⟨g, cap, cur, rfl, _⟩
 ·exact run_lenZ sl31 x ho none 0 0 hx
 ·exact run_lenZ sl31 x ho _ _ _ hx
theorem opn_step {d : Nat} {us : List Pq} {i : Nat} {fr : List Nat} {f : Int → Option Int} {n : Nat} (hi : i < us.length) {A l : Nat} (hx : (us.getD i default).at_ = (A : Nat)) (hl : (us.getD i default).ln = (l : Nat)) (hp : isPl d fr.length (us.getD i default).dv (us.getD i default).at_ (us.getD i default).ln = true) (hf : frB fr A l = true) : opn d (us.drop i) fr f n = opn d (us.drop (i + 1)) (fr.set (A / 16) (lessM (fr.getD (A / 16) 0) (rowM (A % 16) l))) (fun q => if q = (A : Nat) then some (l : Nat) else f q) (if (f (A : Nat)).isSome then n else n + 1) := by
 have e : us.drop i = us.getD i default :: us.drop (i + 1) := by
  rw [List.drop_eq_getElem_cons hi, List.getD_eq_getElem?_getD, List.getElem?_eq_getElem hi]
  rfl
 rw [e]
 show (if _ then _ else _) = _
 rw [hx, hl] at hp
 rw [hx, hl, Int.toNat_natCast, Int.toNat_natCast, if_pos ⟨hp, hf⟩]
theorem opn_stop {d : Nat} {us : List Pq} {i : Nat} {fr : List Nat} {f : Int → Option Int} {n : Nat} (hi : i < us.length) (h : ¬ (isPl d fr.length (us.getD i default).dv (us.getD i default).at_ (us.getD i default).ln = true ∧ frB fr (us.getD i default).at_.toNat (us.getD i default).ln.toNat = true)) : opn d (us.drop i) fr f n = none := by
 have e : us.drop i = us.getD i default :: us.drop (i + 1) := by
  rw [List.drop_eq_getElem_cons hi, List.getD_eq_getElem?_getD, List.getElem?_eq_getElem hi]
  rfl
 rw [e]
 show (if _ then _ else _) = _
 rw [if_neg h]
set_option maxHeartbeats 4000000 in
set_option maxRecDepth 100000 in
theorem openH_any {w : World} {c : Nat → Colour} {gp : Nat} {m : Pl} {ds ts : List Nat} (hp : Live w c 2 gp m) (hs : ShapeOf m ds ts) (hds : ∀ x ∈ ds, x ≤ 4096) (d k : Nat) (hd : d < ds.length) (hk : k = ds.getD d 0 / 16) (vu : Value) (us : List Pq) (hu : PlsIn w vu us) : Calls Tryd.prog 18 #[ptr gp, .int .i64 (d : Nat), vu] w fun e w' => Below w.heap.size w w' ∧ ((opn d us (List.replicate k 65535) (fun _ => none) 0 = none ∧ e = .returned (.tuple #[.pointer none, .int .i64 31])) ∨ ∃ gh gf gm fr f n, opn d us (List.replicate k 65535) (fun _ => none) 0 = some (fr, f, n) ∧ e = .returned (.tuple #[ptr gh, .int .i64 0]) ∧ HotM w' gh gp gf gm d n fr f ∧ w.heap.size ≤ gh ∧ w.heap.size ≤ gf ∧ w.heap.size ≤ gm) := by
 obtain ⟨sz, hsz⟩ : ∃ x, x = ds.getD d 0 := ⟨_, rfl⟩
 have hz4 : sz ≤ 4096 := (by rw [hsz, List.getD_eq_getElem?_getD, List.getElem?_eq_getElem hd]; exact hds _ (List.getElem_mem hd))
 rw [← hsz] at hk
 have hk1 : k ≤ 1000 := (by omega)
 have HM : Hid (Live w c 2 gp m ∧ ShapeOf m ds ts ∧ sz = ds.getD d 0 ∧ PlsIn w vu us ∧ us.length ≤ 140737488355328 ∧ k = sz / 16) := ⟨hp, hs, hsz, hu, (by obtain ⟨_, _, _, _, h, _⟩ := hu; exact h), hk⟩
 clear hp hs hsz hu hds hk
 obtain ⟨PQ, HPQ⟩ := exPQ fun (e : Ending) (w' : World) => Below w.heap.size w w' ∧ ((opn d us (List.replicate k 65535) (fun _ => none) 0 = none ∧ e = .returned (.tuple #[.pointer none, .int .i64 31])) ∨ ∃ gh gf gm fr f n, opn d us (List.replicate k 65535) (fun _ => none) 0 = some (fr, f, n) ∧ e = .returned (.tuple #[ptr gh, .int .i64 0]) ∧ HotM w' gh gp gf gm d n fr f ∧ w.heap.size ≤ gh ∧ w.heap.size ≤ gf ∧ w.heap.size ≤ gm)
 rw [← HPQ.out]
 go_enter Tryd.func18, Tryd.ntmps18
 go_upto_region 0 with fail
 refine wp_region_lit ?_
 refine wl rfl (.pointer none) _ (run_asZ (.const (.pointer none)) rfl (.pointer none) rfl) ?_
 refine wl rfl (.int .i64 0) _ (run_asZ (.const (.int .i64 0)) rfl (.int .i64 0) rfl) ?_
 simp only [Act.put, aS, aC, aZ]
 refine wpList_nil ?_
 go_upto_region 1 with fail
 refine wp_region_lit ?_
 refine wl rfl (ptr gp) _ (run_mvZ (.tmp 0) rfl (ptr gp) rfl) ?_
 simp only [Act.put, aS, aC, aZ]
 refine wpList_callW eN33 [.tmp 12] _ rfl rfl [(ptr gp)] rfl ?_
 refine (shapeD HM.out.1 HM.out.2.1).mono ?_
 rintro e w1 ⟨vd, vt, rfl, o_, s_, b_⟩
 refine ⟨_, rfl, ?_⟩
 have H1 : Hid (w1.ownsRow w.heap.size 3 1 vd ds.length (ds.map fun x => Value.int .i64 (x : Nat)) ∧ (∃ p n c, vt = .slice p n c) ∧ Below w.heap.size w w1) := ⟨o_, s_, b_⟩
 clear o_ s_ b_
 simp only [Act.put, aS, aC, aZ]
 refine wl rfl vd _ (run_field84 (.tmp 13) rfl vd vt (own_isSlice H1.out.1) H1.out.2.1 rfl) ?_
 refine wl rfl vd _ (run_asZ (.tmp 14) rfl vd rfl) ?_
 simp only [Act.put, aS, aC, aZ]
 refine wpList_nil ?_
 go_upto_region 2 with fail
 refine wp_region_lit ?_
 refine wl rfl (.int .i64 (d : Nat)) _ (run_mvZ (.tmp 1) rfl (.int .i64 (d : Nat)) rfl) ?_
 refine wl rfl (.bool false) _ (run_lssZ (.tmp 15) (.const (.int .i64 0)) rfl (d : Nat) 0 rfl rfl false (decide_eq_false (by omega))) ?_
 refine wl rfl (.bool false) _ (run_mvZ (.tmp 16) rfl (.bool false) rfl) ?_
 refine wl (by kernel_rfl) (.int .i64 (d : Nat)) _ (run_mvZ (.tmp 1) rfl (.int .i64 (d : Nat)) rfl) ?_
 simp only [Act.put, aS, aC, aZ]
 refine wl (by kernel_rfl) vd _ (run_mvZ (.tmp 8) rfl vd rfl) ?_
 refine wl (by kernel_rfl) (.int .i64 (ds.length : Nat)) _ (run_lenO31 H1.out.1 (.tmp 19) rfl rfl) ?_
 refine wl (by kernel_rfl) (.bool false) _ (run_geqZ (.tmp 18) (.tmp 20) rfl (d : Nat) (ds.length : Nat) rfl rfl false (decide_eq_false (by omega))) ?_
 refine wl rfl (.bool false) _ (run_pickZ (.tmp 17) (.const (.bool true)) (.tmp 21) rfl false (.bool false) rfl rfl) ?_
 simp only [Act.put, aS, aC, aZ]
 refine wpList_nil ?_
 obtain ⟨gd, _, hx_, hc_⟩ := own_index H1.out.1 (t := 31) und22 (by kernel_rfl) d hd
 have hc0 := hc_ 0 (by decide)
 rw [Nat.mul_one, Nat.add_zero, List.getElem?_map, List.getElem?_eq_getElem hd] at hc0
 rw [Nat.mul_one] at hx_
 have HX : Hid ((∀ w', (Instr.indexAt 31 vd (.int .i64 (d : Nat))).run Tryd.prog w' = .ok (.pointer (some ⟨gd, d, none⟩)) w') ∧ w1.cell? ⟨gd, d, none⟩ = some (.int .i64 (sz : Nat))) := ⟨hx_, (by rw [hc0, HM.out.2.2.1, List.getD_eq_getElem?_getD, List.getElem?_eq_getElem hd]; rfl)⟩
 clear hx_ hc_ hc0
 go_upto_region 4 with fail
 refine wp_region_lit ?_
 refine wl rfl (ptr gp) _ (run_mvZ (.tmp 0) rfl (ptr gp) rfl) ?_
 refine wl rfl (.int .i64 (d : Nat)) _ (run_mvZ (.tmp 1) rfl (.int .i64 (d : Nat)) rfl) ?_
 refine wl rfl vd _ (run_mvZ (.tmp 8) rfl vd rfl) ?_
 refine wl rfl (.int .i64 (d : Nat)) _ (run_mvZ (.tmp 1) rfl (.int .i64 (d : Nat)) rfl) ?_
 simp only [Act.put, aS, aC, aZ]
 refine wl rfl (.pointer (some ⟨gd, d, none⟩)) _ (run_idx (.tmp 25) (.tmp 26) rfl _ _ _ rfl rfl HX.out.1) ?_
 refine wl rfl (.int .i64 (sz : Nat)) _ (run_load1 o3 (.tmp 27) rfl gd (d) rfl (.int .i64 (sz : Nat)) HX.out.2) ?_
 refine wl rfl (.int .i64 (k : Nat)) _ ((by rw [HM.out.2.2.2.2.2]; exact run_quo16 (.tmp 28) rfl sz (by omega) rfl)) ?_
 simp only [Act.put, aS, aC, aZ]
 refine wpList_callW eN34 [.tmp 29] _ rfl rfl [(.int .i64 (k : Nat))] rfl ?_
 refine (allFree_any w1 k hk1).mono ?_
 rintro e w2 ⟨gf, rfl, hgf_, r_, b_⟩
 refine ⟨_, rfl, ?_⟩
 have H2 : Hid (Row w2 gf 114 (u16C (List.replicate k 65535)) ∧ w1.heap.size ≤ gf ∧ Below w1.heap.size w1 w2 ∧ Below w.heap.size w w2) := ⟨r_, hgf_, b_, H1.out.2.2.trans (b_.mono H1.out.2.2.size)⟩
 clear r_ hgf_ b_
 simp only [Act.put, aS, aC, aZ]
 refine wl rfl (.map (some w2.heap.size)) _ (run_mkMap88 rfl) ?_
 have hb_ := below_alloc w2 (.map #[] 0)
 have mp_ := MapN.made w2
 obtain ⟨w3, hW_⟩ : ∃ W, W = w2.alloc (.map #[] 0) := ⟨_, rfl⟩
 obtain ⟨gm, hq_⟩ : ∃ q, q = w2.heap.size := ⟨_, rfl⟩
 rw [← hW_] at hb_
 rw [← hW_, ← hq_] at mp_
 rw [← hW_, ← hq_]
 have H3 : Hid (MapN w3 gm 0 (fun _ => none) ∧ Row w3 gf 114 (u16C (List.replicate k 65535)) ∧ Below w.heap.size w w3 ∧ w.heap.size ≤ gm) := ⟨mp_, H2.out.1.later hb_ H2.out.1.lt, H2.out.2.2.2.trans (hb_.mono H2.out.2.2.2.size), (by have := H2.out.2.2.2.size; omega)⟩
 clear hb_ mp_ hW_ hq_
 simp only [Act.put, aS, aC, aZ]
 refine wl rfl (.agg (hcells gp d gf k gm).toArray) _ (run_build90 (.tmp 23) (.tmp 24) (.tmp 30) (.tmp 31) rfl gp d gf k gm rfl rfl rfl rfl) ?_
 refine wl rfl (ptr w3.heap.size) _ (run_boxA (.tmp 32) rfl (hcells gp d gf k gm) rfl) ?_
 have hb_ := below_alloc w3 (.cells (hcells gp d gf k gm).toArray 90)
 have r_ := Row.new w3 90 (hcells gp d gf k gm)
 obtain ⟨w4, hW_⟩ : ∃ W, W = w3.alloc (.cells (hcells gp d gf k gm).toArray 90) := ⟨_, rfl⟩
 obtain ⟨gh, hq_⟩ : ∃ q, q = w3.heap.size := ⟨_, rfl⟩
 rw [← hW_] at hb_
 rw [← hW_, ← hq_] at r_
 rw [← hW_, ← hq_]
 have H4 : Hid (HotM w4 gh gp gf gm d 0 (List.replicate k 65535) (fun _ => none) ∧ Below w.heap.size w w4 ∧ w.heap.size ≤ gh ∧ w.heap.size ≤ gf ∧ w.heap.size ≤ gm) := ⟨⟨by rw [List.length_replicate]; exact r_, H3.out.2.1.later hb_ H3.out.2.1.lt, H3.out.1.kept (hb_.block gm H3.out.1.lt)⟩, H3.out.2.2.1.trans (hb_.mono H3.out.2.2.1.size), (by have := H3.out.2.2.1.size; omega), (by have := H2.out.2.1; have := H1.out.2.2.size; omega), H3.out.2.2.2⟩
 clear hb_ r_ hW_ hq_
 simp only [Act.put, aS, aC, aZ]
 refine wl rfl (ptr gh) _ (run_asZ (.tmp 33) rfl (ptr gh) rfl) ?_
 simp only [Act.put, aS, aC, aZ]
 refine wpList_nil ?_
 go_upto_region 5 with fail
 refine wp_region_lit ?_
 refine wl rfl vu _ (run_mvZ (.tmp 2) rfl vu rfl) ?_
 refine wl rfl (.int .i64 (us.length : Nat)) _ (run_lenP HM.out.2.2.2.1 (.tmp 34) rfl rfl) ?_
 refine wl rfl (.int .i64 0) _ (run_mvZ (.const (.int .i64 0)) rfl (.int .i64 0) rfl) ?_
 simp only [Act.put, aS, aC, aZ]
 refine wpList_nil ?_
 have hul := HM.out.2.2.2.2.1
 go_wp2_with fail
 go_loopw [36] (fun vi W => ∃ i : Nat, vi = .int .i64 (i : Nat) ∧ i ≤ us.length ∧ Hid (∃ fr f n, HotM W gh gp gf gm d n fr f ∧ Below w.heap.size w W ∧ fr.length = k ∧ (∀ s ∈ fr, s < 65536) ∧ n ≤ i ∧ opn d us (List.replicate k 65535) (fun _ => none) 0 = opn d (us.drop i) fr f n)) (fun vi _ => us.length - (intOf vi).toNat)
 case atStart => exact ⟨0, rfl, Nat.zero_le _, ⟨_, _, _, H4.out.1, H4.out.2.1, List.length_replicate, fun s hs => (by rw [(List.mem_replicate.1 hs).2]; decide), Nat.le_refl _, rfl⟩⟩
 case round =>
  obtain ⟨i, rfl, hi, HI0⟩ := hrel
  obtain ⟨fr, f, n, hI⟩ := HI0.out
  have HI : Hid (HotM wr gh gp gf gm d n fr f ∧ Below w.heap.size w wr ∧ fr.length = k ∧ (∀ s ∈ fr, s < 65536) ∧ n ≤ i ∧ opn d us (List.replicate k 65535) (fun _ => none) 0 = opn d (us.drop i) fr f n) := hI
  clear hI HI0
  by_cases hlt : i < us.length
  ·go_upto_region 6 with fail
   refine wp_region_lit ?_
   refine wl rfl (.bool true) _ (run_lssZ (.tmp 36) (.tmp 35) rfl (i : Nat) (us.length : Nat) rfl rfl true (decide_eq_true (by omega))) ?_
   simp only [Act.put, aS, aC, aZ]
   refine wpList_nil ?_
   obtain ⟨bu, ju, hxu, hok, hcu⟩ := ix_pl HM.out.2.2.2.1 i hlt
   obtain ⟨x, hx⟩ : ∃ x, x = us.getD i default := ⟨_, rfl⟩
   rw [← hx] at hok hcu
   have HX2 : Hid (x = us.getD i default ∧ x.ok ∧ (∀ w', (Instr.indexAt 43 vu (.int .i64 (i : Nat))).run Tryd.prog w' = .ok (.pointer (some ⟨bu, ju, none⟩)) w') ∧ ∀ j u, x.cells[j]? = some u → wr.cell? ⟨bu, ju + j, none⟩ = some u) := ⟨hx, hok, hxu, hcu wr HI.out.2.1⟩
   clear hx hok hxu hcu
   go_upto_region 7 with fail
   refine wp_region_lit ?_
   refine wl rfl (.pointer (some ⟨bu, ju, none⟩)) _ (run_idx (.tmp 34) (.tmp 36) rfl _ _ _ rfl rfl HX2.out.2.2.1) ?_
   refine wl rfl (.agg (x.cells).toArray) _ (run_loadA ag30 (.tmp 38) rfl bu (ju) rfl (x.cells) rfl HX2.out.2.2.2) ?_
   refine wl rfl (ptr wr.heap.size) _ (run_allocA (plC 0 0 0 false) zero30 rfl) ?_
   have hb_ := below_alloc wr (.cells (plC 0 0 0 false).toArray 30)
   have r_ := Row.new wr 30 (plC 0 0 0 false)
   obtain ⟨W1, hW_⟩ : ∃ W, W = wr.alloc (.cells (plC 0 0 0 false).toArray 30) := ⟨_, rfl⟩
   obtain ⟨q, hq_⟩ : ∃ q, q = wr.heap.size := ⟨_, rfl⟩
   rw [← hW_] at hb_
   rw [← hW_, ← hq_] at r_
   rw [← hW_, ← hq_]
   have HQ : Hid (Row W1 q 30 (plC 0 0 0 false) ∧ Below wr.heap.size wr W1 ∧ wr.heap.size ≤ q) := ⟨r_, hb_, by omega⟩
   clear r_ hb_ hW_ hq_
   simp only [Act.put, aS, aC, aZ]
   refine wlS rfl rfl _ (run_storeA ag30 (.tmp 11) (.tmp 39) rfl q 30 rfl x.cells _ rfl rfl HQ.out.1 rfl (plC_one _ _ _ _)) ?_
   have hb_ := (Ch.setRow (S := (· = q)) (Ch.refl _ W1) (Or.inl rfl) x.cells.toArray)
   have r_ := HQ.out.1.setRow x.cells
   obtain ⟨W2, hW_⟩ : ∃ W, W = W1.setRow q x.cells.toArray := ⟨_, rfl⟩
   rw [← hW_] at hb_ r_ ⊢
   have HQ2 : Hid (Row W2 q 30 x.cells ∧ Below wr.heap.size wr W2 ∧ wr.heap.size ≤ q ∧ HotM W2 gh gp gf gm d n fr f) := (by have hbb := HQ.out.2.1.trans (hb_.below HQ.out.2.1.size fun k hk e => by have := HQ.out.2.2; omega); exact ⟨r_, hbb, HQ.out.2.2, HI.out.1.later hbb⟩)
   clear hW_ r_ hb_
   refine wpList_nil ?_
   obtain ⟨pl, hpl⟩ : ∃ b, isPl d fr.length x.dv x.at_ x.ln = b := ⟨_, rfl⟩
   have HPL : Hid (isPl d fr.length x.dv x.at_ x.ln = pl) := hpl
   clear hpl
   cases pl with
   | false =>
    go_upto_region 8 with fail
    refine wp_region_lit ?_
    refine wl rfl (ptr gh) _ (run_mvZ (.tmp 9) rfl (ptr gh) rfl) ?_
    refine wl rfl (.agg (x.cells).toArray) _ (run_loadA ag30 (.tmp 11) rfl q (0) rfl (x.cells) rfl (rows_one HQ2.out.1)) ?_
    simp only [Act.put, aS, aC, aZ]
    refine wpList_callW eN35 [.tmp 40, .tmp 41] _ rfl rfl [(ptr gh), (.agg (x.cells).toArray)] rfl ?_
    refine (isPlace_any HQ2.out.2.2.2 x.dv x.at_ x.ln x.bd HX2.out.2.1.2.1 (by rw [HI.out.2.2.1]; exact hk1)).mono ?_
    rintro e W3 ⟨he_, hb3⟩
    rw [HPL.out] at he_
    subst he_
    refine ⟨_, rfl, ?_⟩
    have H5 : Hid (Row W3 q 30 x.cells ∧ Below wr.heap.size wr W3 ∧ HotM W3 gh gp gf gm d n fr f ∧ Below w.heap.size w W3) := ⟨HQ2.out.1.later hb3 HQ2.out.1.lt, HQ2.out.2.1.trans (hb3.mono HQ2.out.2.1.size), HQ2.out.2.2.2.later hb3, HI.out.2.1.trans ((HQ2.out.2.1.trans (hb3.mono HQ2.out.2.1.size)).mono HI.out.2.1.size)⟩
    clear hb3
    simp only [Act.put, aS, aC, aZ]
    refine wl rfl (.bool true) _ (run_not (.tmp 42) 4 rfl false rfl) ?_
    refine wl rfl (.bool true) _ (run_mvZ (.tmp 43) rfl (.bool true) rfl) ?_
    simp only [Act.put, aS, aC, aZ]
    refine wpList_skip (by kernel_rfl) ?_
    simp only [Act.put, aS, aC, aZ]
    refine wpList_skip (by kernel_rfl) ?_
    simp only [Act.put, aS, aC, aZ]
    refine wpList_skip (by kernel_rfl) ?_
    simp only [Act.put, aS, aC, aZ]
    refine wpList_skip (by kernel_rfl) ?_
    simp only [Act.put, aS, aC, aZ]
    refine wl rfl (.bool true) _ (run_pickZ (.tmp 44) (.const (.bool true)) (.tmp 48) rfl true (.bool true) rfl rfl) ?_
    simp only [Act.put, aS, aC, aZ]
    refine wpList_nil ?_
    go_upto_region 9 with fail
    refine wp_region_lit ?_
    refine wl rfl (.pointer none) _ (run_asZ (.const (.pointer none)) rfl (.pointer none) rfl) ?_
    refine wl rfl (.int .i64 31) _ (run_asZ (.const (.int .i64 31)) rfl (.int .i64 31) rfl) ?_
    simp only [Act.put, aS, aC, aZ]
    refine wpList_nil ?_
    go_wp2_with fail
    rw [HPQ.out]
    refine ⟨H5.out.2.2.2, Or.inl ⟨?_, rfl⟩⟩
    rw [HI.out.2.2.2.2.2]
    refine opn_stop hlt fun hh => ?_
    rw [← HX2.out.1] at hh
    rw [HPL.out] at hh
    exact absurd hh.1 (by decide)
   | true =>
    have hpn := isPl_nat HPL.out
    obtain ⟨A, hA⟩ : ∃ A, A = x.at_.toNat := ⟨_, rfl⟩
    obtain ⟨l, hl⟩ : ∃ l, l = x.ln.toNat := ⟨_, rfl⟩
    rw [← hA, ← hl] at hpn
    obtain ⟨fb, hfb⟩ : ∃ b, frB fr A l = b := ⟨_, rfl⟩
    have HP : Hid (x.cells = plC (d : Nat) (A : Nat) (l : Nat) x.bd ∧ A / 16 < fr.length ∧ A % 16 + l ≤ 16 ∧ frB fr A l = fb ∧ A ≤ 100000 ∧ A = x.at_.toNat ∧ l = x.ln.toNat ∧ x.at_ = (A : Nat) ∧ x.ln = (l : Nat)) := ⟨by unfold Pq.cells; rw [hpn.1, hpn.2.1, hpn.2.2.1], hpn.2.2.2.2.1, hpn.2.2.2.2.2, hfb, (by have h1 := HI.out.2.2.1; have h2 := hpn.2.2.2.2.1; omega), hA, hl, hpn.2.1, hpn.2.2.1⟩
    clear hpn hA hl hfb
    cases fb with
    | false =>
     go_upto_region 8 with fail
     refine wp_region_lit ?_
     refine wl rfl (ptr gh) _ (run_mvZ (.tmp 9) rfl (ptr gh) rfl) ?_
     refine wl rfl (.agg (x.cells).toArray) _ (run_loadA ag30 (.tmp 11) rfl q (0) rfl (x.cells) rfl (rows_one HQ2.out.1)) ?_
     simp only [Act.put, aS, aC, aZ]
     refine wpList_callW eN35 [.tmp 40, .tmp 41] _ rfl rfl [(ptr gh), (.agg (x.cells).toArray)] rfl ?_
     refine (isPlace_any HQ2.out.2.2.2 x.dv x.at_ x.ln x.bd HX2.out.2.1.2.1 (by rw [HI.out.2.2.1]; exact hk1)).mono ?_
     rintro e W3 ⟨he_, hb3⟩
     rw [HPL.out] at he_
     subst he_
     refine ⟨_, rfl, ?_⟩
     have H5 : Hid (Row W3 q 30 x.cells ∧ Below wr.heap.size wr W3 ∧ HotM W3 gh gp gf gm d n fr f ∧ Below w.heap.size w W3) := ⟨HQ2.out.1.later hb3 HQ2.out.1.lt, HQ2.out.2.1.trans (hb3.mono HQ2.out.2.1.size), HQ2.out.2.2.2.later hb3, HI.out.2.1.trans ((HQ2.out.2.1.trans (hb3.mono HQ2.out.2.1.size)).mono HI.out.2.1.size)⟩
     clear hb3
     simp only [Act.put, aS, aC, aZ]
     refine wl rfl (.bool false) _ (run_not (.tmp 42) 4 rfl true rfl) ?_
     refine wl rfl (.bool false) _ (run_mvZ (.tmp 43) rfl (.bool false) rfl) ?_
     refine wl (by kernel_rfl) (ptr gh) _ (run_mvZ (.tmp 9) rfl (ptr gh) rfl) ?_
     refine wl (by kernel_rfl) (.agg (x.cells).toArray) _ (run_loadA ag30 (.tmp 11) rfl q (0) rfl (x.cells) rfl (rows_one H5.out.1)) ?_
     simp only [Act.put, aS, aC, aZ]
     refine wpList_callW eN36 [.tmp 45, .tmp 46] _ (by kernel_rfl) rfl [(ptr gh), (.agg (x.cells).toArray)] rfl ?_
     rw [HP.out.1]
     refine (isFree_any H5.out.2.2.1 HI.out.2.2.2.1 (d : Nat) A l x.bd (by have := HP.out.2.2.2.2.1; omega) HP.out.2.1 HP.out.2.2.1).mono ?_
     rintro e W4 ⟨he_, hb3⟩
     rw [HP.out.2.2.2.1] at he_
     subst he_
     refine ⟨_, rfl, ?_⟩
     rw [← HP.out.1]
     have H6 : Hid (Row W4 q 30 x.cells ∧ HotM W4 gh gp gf gm d n fr f ∧ Below w.heap.size w W4 ∧ wr.heap.size ≤ q) := ⟨H5.out.1.later hb3 H5.out.1.lt, H5.out.2.2.1.later hb3, H5.out.2.2.2.trans (hb3.mono H5.out.2.2.2.size), HQ2.out.2.2.1⟩
     clear hb3
     simp only [Act.put, aS, aC, aZ]
     refine wl (by kernel_rfl) (.bool true) _ (run_not (.tmp 47) 4 rfl false rfl) ?_
     refine wl rfl (.bool true) _ (run_pickZ (.tmp 44) (.const (.bool true)) (.tmp 48) rfl false (.bool true) rfl rfl) ?_
     simp only [Act.put, aS, aC, aZ]
     refine wpList_nil ?_
     go_upto_region 9 with fail
     refine wp_region_lit ?_
     refine wl rfl (.pointer none) _ (run_asZ (.const (.pointer none)) rfl (.pointer none) rfl) ?_
     refine wl rfl (.int .i64 31) _ (run_asZ (.const (.int .i64 31)) rfl (.int .i64 31) rfl) ?_
     simp only [Act.put, aS, aC, aZ]
     refine wpList_nil ?_
     go_wp2_with fail
     rw [HPQ.out]
     refine ⟨H6.out.2.2.1, Or.inl ⟨?_, rfl⟩⟩
     rw [HI.out.2.2.2.2.2]
     refine opn_stop hlt fun hh => ?_
     rw [← HX2.out.1] at hh
     rw [← HP.out.2.2.2.2.2.1, ← HP.out.2.2.2.2.2.2.1, HP.out.2.2.2.1] at hh
     exact absurd hh.2 (by decide)
    | true =>
     go_upto_region 8 with fail
     refine wp_region_lit ?_
     refine wl rfl (ptr gh) _ (run_mvZ (.tmp 9) rfl (ptr gh) rfl) ?_
     refine wl rfl (.agg (x.cells).toArray) _ (run_loadA ag30 (.tmp 11) rfl q (0) rfl (x.cells) rfl (rows_one HQ2.out.1)) ?_
     simp only [Act.put, aS, aC, aZ]
     refine wpList_callW eN35 [.tmp 40, .tmp 41] _ rfl rfl [(ptr gh), (.agg (x.cells).toArray)] rfl ?_
     refine (isPlace_any HQ2.out.2.2.2 x.dv x.at_ x.ln x.bd HX2.out.2.1.2.1 (by rw [HI.out.2.2.1]; exact hk1)).mono ?_
     rintro e W3 ⟨he_, hb3⟩
     rw [HPL.out] at he_
     subst he_
     refine ⟨_, rfl, ?_⟩
     have H5 : Hid (Row W3 q 30 x.cells ∧ Below wr.heap.size wr W3 ∧ HotM W3 gh gp gf gm d n fr f ∧ Below w.heap.size w W3) := ⟨HQ2.out.1.later hb3 HQ2.out.1.lt, HQ2.out.2.1.trans (hb3.mono HQ2.out.2.1.size), HQ2.out.2.2.2.later hb3, HI.out.2.1.trans ((HQ2.out.2.1.trans (hb3.mono HQ2.out.2.1.size)).mono HI.out.2.1.size)⟩
     clear hb3
     simp only [Act.put, aS, aC, aZ]
     refine wl rfl (.bool false) _ (run_not (.tmp 42) 4 rfl true rfl) ?_
     refine wl rfl (.bool false) _ (run_mvZ (.tmp 43) rfl (.bool false) rfl) ?_
     refine wl (by kernel_rfl) (ptr gh) _ (run_mvZ (.tmp 9) rfl (ptr gh) rfl) ?_
     refine wl (by kernel_rfl) (.agg (x.cells).toArray) _ (run_loadA ag30 (.tmp 11) rfl q (0) rfl (x.cells) rfl (rows_one H5.out.1)) ?_
     simp only [Act.put, aS, aC, aZ]
     refine wpList_callW eN36 [.tmp 45, .tmp 46] _ (by kernel_rfl) rfl [(ptr gh), (.agg (x.cells).toArray)] rfl ?_
     rw [HP.out.1]
     refine (isFree_any H5.out.2.2.1 HI.out.2.2.2.1 (d : Nat) A l x.bd (by have := HP.out.2.2.2.2.1; omega) HP.out.2.1 HP.out.2.2.1).mono ?_
     rintro e W4 ⟨he_, hb3⟩
     rw [HP.out.2.2.2.1] at he_
     subst he_
     refine ⟨_, rfl, ?_⟩
     rw [← HP.out.1]
     have H6 : Hid (Row W4 q 30 x.cells ∧ HotM W4 gh gp gf gm d n fr f ∧ Below w.heap.size w W4 ∧ wr.heap.size ≤ q) := ⟨H5.out.1.later hb3 H5.out.1.lt, H5.out.2.2.1.later hb3, H5.out.2.2.2.trans (hb3.mono H5.out.2.2.2.size), HQ2.out.2.2.1⟩
     clear hb3
     simp only [Act.put, aS, aC, aZ]
     refine wl (by kernel_rfl) (.bool false) _ (run_not (.tmp 47) 4 rfl true rfl) ?_
     refine wl rfl (.bool false) _ (run_pickZ (.tmp 44) (.const (.bool true)) (.tmp 48) rfl false (.bool false) rfl rfl) ?_
     simp only [Act.put, aS, aC, aZ]
     refine wpList_nil ?_
     go_upto_region 10 with fail
     refine wp_region_lit ?_
     refine wl rfl (ptr gh) _ (run_mvZ (.tmp 9) rfl (ptr gh) rfl) ?_
     refine wl rfl (.agg (x.cells).toArray) _ (run_loadA ag30 (.tmp 11) rfl q (0) rfl (x.cells) rfl (rows_one H6.out.1)) ?_
     simp only [Act.put, aS, aC, aZ]
     refine wpList_callW eN37 [.tmp 50, .tmp 51] _ rfl rfl [(ptr gh), (.agg (x.cells).toArray)] rfl ?_
     rw [HP.out.1]
     refine (take_any H6.out.2.1 HI.out.2.2.2.1 (by have := HI.out.2.2.2.2.1; omega) (d : Nat) A l x.bd (by have := HP.out.2.2.2.2.1; omega) HP.out.2.1 HP.out.2.2.1).mono ?_
     rintro e W5 ⟨he_, hm_, hch_⟩
     subst he_
     refine ⟨_, rfl, ?_⟩
     rw [← HP.out.1]
     have H7 : Hid (HotM W5 gh gp gf gm d (if (f (A : Nat)).isSome then n else n + 1) (fr.set (A / 16) (lessM (fr.getD (A / 16) 0) (rowM (A % 16) l))) (fun q => if q = (A : Nat) then some (l : Nat) else f q) ∧ Below w.heap.size w W5) := ⟨hm_, H6.out.2.2.1.trans (hch_.below H6.out.2.2.1.size fun k hk e => by rcases e with rfl | rfl; (have := H4.out.2.2.2.1; omega); (have := H4.out.2.2.2.2; omega))⟩
     clear hm_ hch_
     simp only [Act.put, aS, aC, aZ]
     refine wpList_nil ?_
     go_wp2_with fail
     refine ⟨⟨i + 1, by go_num, by omega, ⟨_, _, _, H7.out.1, H7.out.2, by rw [List.length_set]; exact HI.out.2.2.1, set_lt HI.out.2.2.2.1 _ _ (lessM_lt _ (getD_mem_lt HI.out.2.2.2.1 _)), (by have := HI.out.2.2.2.2.1; split <;> omega), ?_⟩⟩, ?_⟩
     ·rw [HI.out.2.2.2.2.2]
      exact opn_step hlt (by rw [← HX2.out.1]; exact HP.out.2.2.2.2.2.2.2.1) (by rw [← HX2.out.1]; exact HP.out.2.2.2.2.2.2.2.2) (by rw [← HX2.out.1]; exact HPL.out) HP.out.2.2.2.1
     ·simp [intOf]; omega
  ·go_upto_region 6 with fail
   refine wp_region_lit ?_
   refine wl rfl (.bool false) _ (run_lssZ (.tmp 36) (.tmp 35) rfl (i : Nat) (us.length : Nat) rfl rfl false (decide_eq_false (by omega))) ?_
   simp only [Act.put, aS, aC, aZ]
   refine wpList_nil ?_
   go_upto_region 12 with fail
   refine wp_region_lit ?_
   refine wl rfl (ptr gh) _ (run_mvZ (.tmp 9) rfl (ptr gh) rfl) ?_
   refine wl rfl (ptr gh) _ (run_asZ (.tmp 54) rfl (ptr gh) rfl) ?_
   refine wl rfl (.int .i64 0) _ (run_asZ (.const (.int .i64 0)) rfl (.int .i64 0) rfl) ?_
   simp only [Act.put, aS, aC, aZ]
   refine wpList_nil ?_
   go_wp2_with fail
   rw [HPQ.out]
   have ei : us.drop i = [] := List.drop_of_length_le (by omega)
   refine ⟨HI.out.2.1, Or.inr ⟨gh, gf, gm, fr, f, n, ?_, rfl, HI.out.1, H4.out.2.2.1, H4.out.2.2.2.1, H4.out.2.2.2.2⟩⟩
   rw [HI.out.2.2.2.2.2, ei]
   rfl

end Go.Proofs.YthgidfoidbgnaaaDoor

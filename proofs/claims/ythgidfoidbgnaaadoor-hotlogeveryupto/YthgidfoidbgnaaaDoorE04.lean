/- The walks of device.waitNoMore, Plant.Flush. The walk of device.settle. The library's functions at the program's own types: their bodies are the ones that the shelf's contracts were proved of. slices.SortFunc at writes with their devices: they come in the order of their steps. The walk of Plant.allWaiting: all writes that wait, in their one order. The walk of Plant.Boot. -/
import Derived.Test.YthgidfoidbgnaaaDoorE03
import Derived.Laws.BitsLemmas
import Derived.Test.YthgidfoidbgnaaaDoorProg
import Derived.Shelf.SlSortCmp.WholeK
import Derived.Shelf.SlSortCmp.NoneTotal
import Derived.Shelf.SlGeneric
import Derived.Ground.SlsfProg
namespace Go.Proofs.YthgidfoidbgnaaaDoor
open Go.RowKit Go.Maps

theorem lay_length (tape : Bool) (fl : List (List Nat)) (p : Nat) (b : List Nat) : (lay tape fl p b).length = if tape then fl.length + 1 else fl.length := by
 unfold lay
 cases tape <;> simp
theorem layAll_snoc (tape : Bool) (fl : List (List Nat)) (l : List Wr) (x : Wr) : layAll tape fl (l ++ [x]) = lay tape (layAll tape fl l) x.place x.b := by simp [layAll]
theorem layAll_length (tape : Bool) (fl : List (List Nat)) (l : List Wr) : (layAll tape fl l).length = if tape then fl.length + l.length else fl.length := by
 induction l generalizing fl with
 | nil => cases tape <;> simp [layAll]
 | cons x l ih =>
  have : layAll tape fl (x :: l) = layAll tape (lay tape fl x.place x.b) l := rfl
  rw [this, ih, lay_length]
  cases tape
  ·simp
  ·simp; omega
theorem take_next (l : List Wr) (n : Nat) (x : Wr) (h : l[n]? = some x) : l.take (n + 1) = l.take n ++ [x] := by
 obtain ⟨hn, rfl⟩ := List.getElem?_eq_some_iff.1 h
 exact List.take_succ_eq_append_getElem hn
/-- a write is laid down -/
theorem FlIn.lay {w' : World} {b : Nat} {tape : Bool} {fl : List (List Nat)} {f : Nat → Option (List Nat)} {n p : Nat} {s : List Nat} (hf : ∀ q, q < fl.length → (f q).getD zeros = fl.getD q zeros) (hft : tape = true → n = fl.length ∧ ∀ q, (f q).isSome = decide (q < fl.length))
  (hp : if tape then p = fl.length else p < fl.length) (hm : MapAt secs w' b (if (f p).isSome then n else n + 1) (fun q => if q = p then some s else f q)) : FlIn w' b tape (Go.Proofs.YthgidfoidbgnaaaDoor.lay tape fl p s) := by
 refine ⟨_, _, hm, fun q hq => ?_, fun ht => ?_⟩
 ·rw [lay_length] at hq
  cases tape with
  | true =>
   simp only [if_true] at hp hq
   subst hp
   show (if q = fl.length then some s else f q).getD zeros = (fl ++ [s]).getD q zeros
   by_cases e : q = fl.length
   ·simp [e]
   ·rw [if_neg e, hf q (by omega)]
    simp [List.getElem?_append_left (show q < fl.length by omega)]
  | false =>
   simp only [Bool.false_eq_true, if_false] at hp hq
   show (if q = p then some s else f q).getD zeros = (fl.set p s).getD q zeros
   by_cases e : q = p
   ·subst e
    simp [hp]
   ·rw [if_neg e, hf q hq]
    simp [List.getElem?_set_ne (Ne.symm e)]
 ·subst ht
  simp only [if_true] at hp
  obtain ⟨hn, his⟩ := hft rfl
  have hpf : (f p).isSome = false := by rw [his p, hp]; simp
  refine ⟨by rw [hpf, lay_length]; simp [hn], fun q => ?_⟩
  rw [lay_length]
  by_cases e : q = p
  ·rw [if_pos e, e, hp]
   simp
  ·rw [if_neg e, his q]
   simp only [if_true]
   congr 1
   simp only [eq_iff_iff]
   omega
theorem wpList_makeMap {w : World} {ops : Array Oper} {rest : List Oper} {o : Oper} {a : Act} {Q : Exit → Act → World → Prop} {t : Nat} (hgd : o.guard = none) (ho : o.op = .makeMap t none) (v : Value) (w' : World) (hrun : (Instr.makeMap t none).run Tryd.prog w = .ok v w')
  (h : wpList Tryd.prog ops Q rest (a.put o.dst v) w') : wpList Tryd.prog ops Q (o :: rest) a w :=
 wpList_value hgd v w' (by simp [execOp, ho, hrun]) h
/-- a device, its blocks named -/
def DevAt (w : World) (c : Nat → Colour) (k : Colour) (g bm bl : Nat) (v : Value) (tape : Bool) (size : Nat) (fl : List (List Nat)) (wt : List Wr) : Prop :=
 Row w g 106 [.bool tape, .int .i64 (size : Nat), .map (some bm), v, .map (some bl)] ∧ c g = k ∧ c bm = k ∧ c bl = k ∧ bm ≠ bl ∧ FlIn w bm tape fl ∧ WtIn w c k v wt ∧ LtIn w bl wt

set_option maxHeartbeats 400000 in
set_option maxRecDepth 100000 in
theorem noMore_any {w : World} {c : Nat → Colour} {k : Colour} {g : Nat} {tape : Bool} {size : Nat} {fl : List (List Nat)} {wt : List Wr} (h : DevIn w c k g tape size fl wt) :
  Calls Tryd.prog 31 #[ptr g] w fun e w' => e = .returned noResult ∧ ∃ c', (∀ b, b < w.heap.size → c' b = c b) ∧ DevIn w' c' k g tape size fl [] ∧ Ch (fun b => c b = k) w w' := by
 obtain ⟨bm, bl, v, hr, cg, cm, cl, hne, hfl, hwi, hlt⟩ := h
 obtain ⟨w1, hw1⟩ : ∃ w1, w1 = w.alloc (.map #[] 0) := ⟨_, rfl⟩
 obtain ⟨q, hq⟩ : ∃ q, q = w.heap.size := ⟨_, rfl⟩
 have hmm : (Instr.makeMap 88 none).run Tryd.prog w = .ok (.map (some q)) w1 := by rw [hw1, hq]; exact run_makeMap 88 w
 have r1 : Row w1 g 106 [.bool tape, .int .i64 (size : Nat), .map (some bm), v, .map (some bl)] := by rw [hw1]; exact hr.alloc _
 have m1 : MapAt ints w1 q 0 (fun _ => none) := by rw [hw1, hq]; exact MapAt.made ints w
 have f1 : FlIn w1 bm tape fl := hfl.kept (by rw [hw1]; exact Below.heap_alloc _ _ _ hfl.lt)
 have s1 : w1.heap.size = q + 1 := by rw [hw1, hq]; simp
 have ch1 : Ch (fun b => c b = k) w w1 := by rw [hw1]; exact (Ch.refl _ w).alloc _
 have hgq : g < q := by rw [hq]; exact hr.lt
 have hmq : bm < q := by rw [hq]; exact hfl.lt
 have hmg : bm ≠ g := by
  obtain ⟨f, n, hm, _⟩ := f1
  exact hm.ne_row r1
 clear hwi hlt hr hfl
 go_enter Tryd.func31, Tryd.ntmps31
 go_upto_region 0 with fail
 refine wp_region_lit ?_
 refine wpList_move (.tmp 0) rfl rfl (ptr g) rfl ?_
 refine wpList_move (.tmp 0) rfl rfl (ptr g) rfl ?_
 simp only [Act.put, aS, aC, aZ]
 refine wpList_makeMap rfl rfl _ _ hmm ?_
 refine wpList_nilCheck (.tmp 2) rfl rfl _ rfl ?_
 simp only [Act.put, aS, aC, aZ]
 refine wpList_field f76_3 (.tmp 5) rfl rfl g 0 rfl ?_
 simp only [Act.put, aS, aC, aZ]
 refine wpList_store1 size73 (.tmp 6) (.const (.slice none 0 0)) rfl rfl rfl g (0 + 3) 106 rfl (.slice none 0 0) _ rfl rfl rfl r1 (by simp) ?_
 obtain ⟨w2, hw2⟩ : ∃ w2, w2 = w1.setRow g (([.bool tape, .int .i64 (size : Nat), .map (some bm), v, .map (some bl)] : List Value).set (0 + 3) (.slice none 0 0)).toArray := ⟨_, rfl⟩
 rw [← hw2]
 have r2 : Row w2 g 106 [.bool tape, .int .i64 (size : Nat), .map (some bm), .slice none 0 0, .map (some bl)] := by rw [hw2]; exact r1.setRow _
 have k2 : ∀ b, b ≠ g → w2.heap[b]? = w1.heap[b]? := fun b hb => by rw [hw2]; exact Go.setRow_other w1 g b _ hb
 have ch2 : Ch (fun b => c b = k) w w2 := by rw [hw2]; exact ch1.setRow (Or.inl cg) _
 clear hw2 r1 ch1
 refine wpList_nilCheck (.tmp 3) rfl rfl _ rfl ?_
 simp only [Act.put, aS, aC, aZ]
 refine wpList_field f76_4 (.tmp 7) rfl rfl g 0 rfl ?_
 simp only [Act.put, aS, aC, aZ]
 refine wpList_store1 size74 (.tmp 8) (.tmp 4) rfl rfl rfl g (0 + 4) 106 rfl (.map (some q)) _ rfl rfl rfl r2 (by simp) ?_
 obtain ⟨w3, hw3⟩ : ∃ w3, w3 = w2.setRow g (([.bool tape, .int .i64 (size : Nat), .map (some bm), .slice none 0 0, .map (some bl)] : List Value).set (0 + 4) (.map (some q))).toArray := ⟨_, rfl⟩
 rw [← hw3]
 have r3 : Row w3 g 106 [.bool tape, .int .i64 (size : Nat), .map (some bm), .slice none 0 0, .map (some q)] := by rw [hw3]; exact r2.setRow _
 have k3 : ∀ b, b ≠ g → w3.heap[b]? = w1.heap[b]? := fun b hb => by rw [hw3]; exact (Go.setRow_other w2 g b _ hb).trans (k2 b hb)
 have ch3 : Ch (fun b => c b = k) w w3 := by rw [hw3]; exact ch2.setRow (Or.inl cg) _
 have HE : Hid (∃ c', (∀ b, b < w.heap.size → c' b = c b) ∧ DevIn w3 c' k g tape size fl [] ∧ Ch (fun b => c b = k) w w3) := by
  refine ⟨paint c q k, fun b hb => paint_old c _ k b (by omega), ⟨bm, q, _, r3, ?_, ?_, ?_, by omega, f1.kept (k3 bm hmg), ⟨⟨rfl, Or.inl ⟨rfl, rfl⟩⟩, fun b hb => by cases hb⟩, ⟨0, ?_⟩⟩, ch3⟩
  ·rw [paint_old c q k g hgq, cg]
  ·rw [paint_old c q k bm hmq, cm]
  ·exact paint_new c q k q (Nat.le_refl _)
  ·exact m1.kept (k3 q (by omega))
 refine wpList_nil ?_
 clear hw3 r3 k3 ch3 k2 ch2 r2 f1 m1 s1
 go_wp2
 go_end0
 exact ⟨rfl, HE.out⟩

section
variable {w w' : World} {c : Nat → Colour} {k : Colour} {g bm bl : Nat} {v : Value} {tape : Bool} {size : Nat} {fl : List (List Nat)} {wt : List Wr}
theorem DevAt.devIn (h : DevAt w c k g bm bl v tape size fl wt) : DevIn w c k g tape size fl wt := ⟨bm, bl, v, h⟩
theorem DevAt.kept {c' : Nat → Colour} (h : DevAt w c k g bm bl v tape size fl wt) (hb : ∀ b, b < w.heap.size → c b = k → w'.heap[b]? = w.heap[b]? ∧ c' b = k) : DevAt w' c' k g bm bl v tape size fl wt := by
 obtain ⟨hr, hg, hm, hl, hne, h1, h2, h3⟩ := h
 refine ⟨?_, (hb g hr.lt hg).2, (hb bm h1.lt hm).2, (hb bl h3.lt hl).2, hne, h1.kept (hb bm h1.lt hm).1, h2.kept hb, h3.kept (hb bl h3.lt hl).1⟩
 unfold Row
 rw [(hb g hr.lt hg).1]
 exact hr
theorem DevAt.below (h : DevAt w c k g bm bl v tape size fl wt) (hb : Below w.heap.size w w') : DevAt w' c k g bm bl v tape size fl wt := h.kept fun b hlt hk => ⟨hb.block b hlt, hk⟩
/-- the flushed map alone has turned -/
theorem DevAt.flushed {fl' : List (List Nat)} (h : DevAt w c k g bm bl v tape size fl wt) (ht : w.mapTurned w' bm) (hf : FlIn w' bm tape fl') : DevAt w' c k g bm bl v tape size fl' wt := by
 obtain ⟨hr, hg, hm, hl, hne, h1, h2, h3⟩ := h
 have hb : ∀ b, b < w.heap.size → b ≠ bm → w'.heap[b]? = w.heap[b]? := fun b hlt hne => ht.grown.block b hlt (by simpa using hne)
 have hmg : bm ≠ g := by
  obtain ⟨f, n, hm, _⟩ := h1
  exact hm.ne_row hr
 refine ⟨?_, hg, hm, hl, hne, hf, ⟨ownsRow_kept h2.1 fun b hob => ?_, h2.2⟩, h3.kept (hb bl h3.lt (Ne.symm hne))⟩
 ·unfold Row
  rw [hb g hr.lt (Ne.symm hmg)]
  exact hr
 ·obtain ⟨hlt, cur, hc⟩ := ownBlock_lt h2.1 hob
  refine hb b hlt ?_
  rintro rfl
  obtain ⟨f, n, ⟨D, ⟨es, clock, h1, _⟩, _⟩, _⟩ := h1
  rw [h1] at hc
  cases hc
end
/-- where the next write of a row goes -/
def PlaceOk (tape : Bool) (fl : List (List Nat)) (p : Nat) : Prop := if tape then p = fl.length else p < fl.length
theorem Pl.placeOk {m : Pl} (h : m.WF) (i : Nat) (hi : i < m.n) (n : Nat) (x : Wr) (hx : (m.wt i)[n]? = some x) : PlaceOk (m.tape i) (layAll (m.tape i) (m.fl i) ((m.wt i).take n)) x.place := by
 have hn := (List.getElem?_eq_some_iff.1 hx).1
 have hm := Pl.wt_mem (List.mem_of_getElem? hx)
 unfold PlaceOk
 rw [layAll_length]
 by_cases ht : m.tape i = true
 ·rw [ht]
  simp only [if_true, List.length_take]
  rw [(h.tapes i hi ht).2 n x hx]
  omega
 ·have ht' : m.tape i = false := by simpa using ht
  rw [ht']
  simp only [Bool.false_eq_true, if_false]
  have := (h.wdev x hm.1).2.1
  rw [hm.2] at this
  rw [h.disk i hi ht']
  exact this

theorem post_flush {w w1 w2 : World} {c c' : Nat → Colour} {t g db cap : Nat} {gs : Nat → Nat} {m : Pl} (h : PlantAt w c t g db cap gs m) (hc : Ch (· = g) w w1) (h1 : PlantAt w1 c t g db cap gs m.step) (i : Nat)
  (hcc : ∀ b, b < w1.heap.size → c' b = c b) (hd : DevIn w2 c' (t, i + 1) (gs i) (m.step.tape i) (m.step.size i) (layAll (m.step.tape i) (m.step.fl i) (m.step.wt i)) []) (hc2 : Ch (fun b => c b = (t, i + 1)) w1 w2) : Post w c t g db cap gs (m.step.flushed i) w2 := by
 refine Post.device (m1 := m.step) (m2 := m.step.flushed i) h1 (hc.mono fun b _ e => by rw [e, h.cg]) i ?_ (fun j hj => ⟨?_, ?_⟩) ?_ c' hcc hc2 ?_
 ·unfold Pl.flushed; rfl
 ·unfold Pl.flushed upd; simp [hj]
 ·rw [Pl.wt_flushed, if_neg hj]
 ·unfold Pl.flushed; exact ⟨rfl, rfl, rfl, rfl⟩
 ·rw [Pl.wt_flushed, if_pos rfl]
  have e : (m.step.flushed i).fl i = layAll (m.step.tape i) (m.step.fl i) (m.step.wt i) := by unfold Pl.flushed upd; simp
  rw [e]
  exact hd

set_option maxHeartbeats 600000 in
set_option maxRecDepth 100000 in
theorem flush_any {w : World} {c : Nat → Colour} {t g db cap : Nat} {gs : Nat → Nat} {m : Pl} (h : PlantAt w c t g db cap gs m) (hwf : m.WF) (hst : m.steps < 1099511627776) (d : Int) :
  Calls Tryd.prog 61 #[ptr g, .int .i64 d] w fun e w' => e = .returned (.int .i64 (m.flush d).1) ∧ Post w c t g db cap gs (m.flush d).2 w' := by
 obtain ⟨r, hr⟩ : ∃ r, r = m.flush d := ⟨_, rfl⟩
 rw [← hr]
 have c1 := h.c1
 have HP : Hid (PlantAt w c t g db cap gs m) := h
 have HR : Hid (r = m.flush d) := hr
 clear h hr
 by_cases hon : m.on = false
 ·have er : r = (2, m) := by rw [HR.out]; unfold Pl.flush; rw [if_pos hon]
  rw [hon] at c1
  subst er
  clear HR
  go_enter Tryd.func61, Tryd.ntmps61
  go_wp2_with (go_at_call 47; refine (device_any HP.out d).mono ?_; rintro e w' ⟨⟨vd, rfl, _, _⟩, rfl⟩)
  go_ret
  exact ⟨rfl, Post.refl HP.out⟩
 ·have hon' : m.on = true := by simpa using hon
  rw [hon'] at c1
  by_cases hd : m.has d
  ·obtain ⟨i, rfl⟩ : ∃ i : Nat, d = (i : Int) := ⟨d.toNat, by have := hd.1; omega⟩
   have hi : i < m.n := by have := hd.2; omega
   by_cases hf : m.fuse = 0
   ·have er : r = (2, m.step) := by rw [HR.out]; unfold Pl.flush; rw [if_neg hon, if_neg (by simp [hd]), if_pos hf]
    subst er
    have hok : m.stepOk = false := by simp [Pl.stepOk, hf]
    clear HR
    go_enter Tryd.func61, Tryd.ntmps61
    go_wp2_with (first | (go_at_call 47; refine (device_at HP.out _ i rfl hi).mono ?_; rintro e wd ⟨rfl, rfl⟩) | (go_at_call 72; refine (step_any HP.out (by omega) hwf.fuse1).mono ?_; rw [hok]; rintro e w1 ⟨rfl, h1, hc1⟩))
    go_ret
    exact ⟨rfl, Post.stepped HP.out h1 hc1⟩
   ·have er : r = (0, m.step.flushed i) := by rw [HR.out]; unfold Pl.flush; rw [if_neg hon, if_neg (by simp [hd]), if_neg hf]; simp
    subst er
    have hok : m.stepOk = true := by simp [Pl.stepOk, hf]
    clear HR
    go_enter Tryd.func61, Tryd.ntmps61
    go_upto_region 8 with (first | (go_at_call 47; refine (device_at HP.out _ i rfl hi).mono ?_; rintro e wd ⟨rfl, rfl⟩) | (go_at_call 72; refine (step_any HP.out (by omega) hwf.fuse1).mono ?_; rw [hok]; rintro e w1 ⟨rfl, h1, hc1⟩))
    have HC : Hid (Ch (· = g) wd w1) := hc1
    have H1 : Hid (PlantAt w1 c t g db cap gs m.step) := h1
    have hi1 : i < m.step.n := by rw [m.step_n]; exact hi
    have HWF : Hid m.step.WF := Pl.step_wf hwf
    obtain ⟨bm, bl, v, hdev⟩ := h1.dev i hi1
    obtain ⟨pv, cv, hv⟩ := WtIn.shape hdev.2.2.2.2.2.2.1
    subst hv
    obtain ⟨L, hL⟩ : ∃ L, L = (m.step.wt i).length := ⟨_, rfl⟩
    rw [← hL] at hdev
    have HL : Hid (L = (m.step.wt i).length) := hL
    have hwl : L < 1099511627776 := by
     have := m.wt_len i
     have := hwf.count
     rw [hL, m.step_wt]
     omega
    have HD : Hid (DevAt w1 c (t, i + 1) (gs i) bm bl (.slice pv L cv) (m.step.tape i) (m.step.size i) (m.step.fl i) (m.step.wt i)) := hdev
    have c3 := hdev.1.at 3 _ rfl
    clear hc1 h1 hdev hL c1
    go_wp2
    go_loopw [29] (fun ix W => ∃ n : Nat, n ≤ L ∧ ix = .int .i64 n ∧ DevAt W c (t, i + 1) (gs i) bm bl (.slice pv L cv) (m.step.tape i) (m.step.size i) (layAll (m.step.tape i) (m.step.fl i) ((m.step.wt i).take n)) (m.step.wt i) ∧ Ch (fun b => c b = (t, i + 1)) w1 W) (fun ix _ => L - (intOf ix).toNat)
    case atStart => exact ⟨0, Nat.zero_le _, rfl, HD.out, Ch.refl _ _⟩
    case round =>
     obtain ⟨n, hn, rfl, hdv, hch⟩ := hrel
     by_cases hlt : n < L
     ·obtain ⟨x, hx⟩ : ∃ x, (m.step.wt i)[n]? = some x := ⟨_, List.getElem?_eq_getElem (by rw [← HL.out]; exact hlt)⟩
      have hmem := Pl.wt_mem (List.mem_of_getElem? hx)
      have hxs : Sec x.b := HWF.out.wsec x hmem.1
      have hxl : x.b.length = 64 := hxs.1
      have hp4 : x.place < 4096 := by
       have h1 := HWF.out.wdev x hmem.1
       have h2 := HWF.out.sizes x.dev h1.1
       omega
      obtain ⟨b, cv', hv, _, hcl⟩ := hdv.2.2.2.2.2.2.1.cells (fun y hy => (HWF.out.wsec y (Pl.wt_mem hy).1).1) (by intro e; rw [e] at hx; simp at hx)
      injection hv with hv1 hv2 hv3
      subst hv1
      have hcx : ∀ j u, (wrCells x)[j]? = some u → wr.cell? ⟨b, 0 + n * 66 + j, none⟩ = some u := fun j u hu => by
       rw [Nat.zero_add]
       exact hcl n x hx j u hu
      have HPL : Hid (PlaceOk (m.step.tape i) (layAll (m.step.tape i) (m.step.fl i) ((m.step.wt i).take n)) x.place) := Pl.placeOk HWF.out i hi1 n x hx
      have HTK : Hid (layAll (m.step.tape i) (m.step.fl i) ((m.step.wt i).take (n + 1)) = lay (m.step.tape i) (layAll (m.step.tape i) (m.step.fl i) ((m.step.wt i).take n)) x.place x.b) := by
       rw [take_next _ n x hx, layAll_snoc]
       exact rfl
      have HDV : Hid (DevAt wr c (t, i + 1) (gs i) bm bl (.slice (some ⟨b, 0, none⟩) L cv) (m.step.tape i) (m.step.size i) (layAll (m.step.tape i) (m.step.fl i) ((m.step.wt i).take n)) (m.step.wt i)) := hdv
      have HCH : Hid (Ch (fun b => c b = (t, i + 1)) w1 wr) := hch
      have tlt : decide ((n : Int) < (L : Int)) = true := by simp; omega
      clear hdv hch hcl hx hv2 hv3 c3
      go_upto_region 10 with fail
      refine wp_region_lit ?_
      refine wpList_indexAddr und73 size87 (.tmp 27) (.tmp 29) rfl rfl b 0 L cv n rfl rfl hlt ?_
      simp only [Act.put, aS, aC, aZ]
      refine wpList_load agg87 (.tmp 31) rfl rfl b (0 + n * 66) rfl (wrCells x) (wrCells_length x hxl) hcx ?_
      simp only [Act.put, aS, aC, aZ]
      refine wpList_alloc_store agg87 _ zero87 rfl rfl rfl rfl rfl (.tmp 32) rfl (wrCells x) (wrCells_length x hxl) rfl (wrCells_one x) (fun _ => rfl) (fun _ => rfl) ?_
      intro w2 r2 s2 b2
      refine wpList_nil ?_
      simp only [Act.put, aS, aC, aZ]
      obtain ⟨q, hq⟩ : ∃ q, q = wr.heap.size := ⟨_, rfl⟩
      rw [← hq] at r2 ⊢
      have HDV2 : Hid (DevAt w2 c (t, i + 1) (gs i) bm bl (.slice (some ⟨b, 0, none⟩) L cv) (m.step.tape i) (m.step.size i) (layAll (m.step.tape i) (m.step.fl i) ((m.step.wt i).take n)) (m.step.wt i)) := HDV.out.below b2
      have HCH2 : Hid (Ch (fun b => c b = (t, i + 1)) w1 w2) := HCH.out.trans (Ch.of_below b2)
      have d2 := HDV2.out.1.at 2 _ rfl
      have q1 := r2.at 1 (.int .i64 (x.place : Nat)) rfl
      have hcb : ∀ j u, (bcells x.b)[j]? = some u → w2.cell? ⟨q, 0 + 2 + j, none⟩ = some u := fun j u hu => by
       rw [show 0 + 2 + j = j + 2 by omega]
       exact r2.at (j + 2) u (by simpa [wrCells] using hu)
      obtain ⟨pl, hpl⟩ : ∃ pl, pl = x.place := ⟨_, rfl⟩
      rw [← hpl] at q1 hp4
      have HPP : Hid (pl = x.place) := hpl
      clear r2 s2 b2 hq hcx HDV HCH hpl
      go_upto_region 11 with fail
      refine wp_region_head_drew 8 (by kernel_rfl) (by kernel_rfl) ?_
      simp only [List.take_succ_cons, List.take_zero, List.drop_succ_cons, List.drop_zero]
      iterate 7 (go_big_quiet_step (fail))
      refine wpQuiet_load agg84 (.tmp 39) rfl rfl q (0 + 2) rfl (bcells x.b) (by rw [bcells_length, hxl]) (fun W hW => by obtain ⟨n, rfl⟩ := hW; exact hcb) ?_
      refine wpQuiet_nil ?_
      intro _ hw'
      obtain ⟨nq, hw''⟩ := hw'
      subst hw''
      simp only [Act.put, aS, aC, aZ]
      obtain ⟨f, nf, hm, hff, hft⟩ := HDV2.out.2.2.2.2.2.1
      refine wpList_putMap0 (hm.drewN nq) (.tmp 36) (.tmp 38) (.tmp 40) 103 74 rfl rfl rfl Tryd.underlying103 pl hp4 x.b hxs rfl rfl rfl ?_
      intro w3 hm3 t3
      refine wpList_nil ?_
      have HDV3 : Hid (DevAt w3 c (t, i + 1) (gs i) bm bl (.slice (some ⟨b, 0, none⟩) L cv) (m.step.tape i) (m.step.size i) (layAll (m.step.tape i) (m.step.fl i) ((m.step.wt i).take (n + 1))) (m.step.wt i)) := by
       rw [HTK.out]
       refine (HDV2.out.kept (w' := w2.drewN nq) fun _ _ hk => ⟨rfl, hk⟩).flushed t3 ?_
       rw [← HPP.out]
       exact FlIn.lay hff hft (by rw [HPP.out]; exact HPL.out) hm3
      have HCH3 : Hid (Ch (fun b => c b = (t, i + 1)) w1 w3) := (HCH2.out.drewN nq).grown t3.grown (fun b hb => by cases hb; exact Or.inl HDV2.out.2.2.1)
      clear hm hff hft hm3 t3 hcb q1 d2
      go_wp2
      exact ⟨⟨n + 1, by omega, by go_num, HDV3.out, HCH3.out⟩, by simp [intOf]; omega⟩
     ·have e : n = L := by omega
      subst e
      have HDV : Hid (DevAt wr c (t, i + 1) (gs i) bm bl (.slice pv n cv) (m.step.tape i) (m.step.size i) (layAll (m.step.tape i) (m.step.fl i) (m.step.wt i)) (m.step.wt i)) := by
       have := hdv
       rw [HL.out, List.take_length, ← HL.out] at this
       exact this
      have HCH : Hid (Ch (fun b => c b = (t, i + 1)) w1 wr) := hch
      have tlt : decide ((n : Int) < (n : Int)) = false := by simp
      clear hdv hch c3
      go_wp2_with (go_at_call 31; refine (noMore_any HDV.out.devIn).mono ?_; rintro e w4 ⟨rfl, c', hcc, hd4, hc4⟩)
      go_ret
      exact ⟨rfl, post_flush HP.out HC.out H1.out i (fun b hb => hcc b (Nat.lt_of_lt_of_le hb HCH.out.size)) hd4 (HCH.out.trans hc4)⟩
  ·have er : r = (31, m) := by rw [HR.out]; unfold Pl.flush; rw [if_neg hon, if_pos hd]
   subst er
   clear HR
   go_enter Tryd.func61, Tryd.ntmps61
   go_wp2_with (go_at_call 47; refine (device_no HP.out d hd).mono ?_; rintro e w' ⟨rfl, rfl⟩)
   go_ret
   exact ⟨rfl, Post.refl HP.out⟩
end Go.Proofs.YthgidfoidbgnaaaDoor

namespace Go.Proofs.YthgidfoidbgnaaaDoor
open Go.RowKit Go.Maps

theorem i64_and1 (n : Int) : bits .and .i64 n 1 = n % 2 := by
 have h1 : (BitVec.ofInt 64 1).toNat = 2 ^ 1 - 1 := by decide
 have key : (BitVec.ofInt 64 n &&& BitVec.ofInt 64 1).toNat = (n % ((2 ^ 64 : Nat) : Int)).toNat % 2 ^ 1 := by
  rw [BitVec.toNat_and, BitVec.toNat_ofInt, h1, Nat.and_two_pow_sub_one_eq_mod]
 show IntKind.i64.wrap ((BitVec.ofInt 64 n &&& BitVec.ofInt 64 1).toNat : Nat) = n % 2
 rw [key, IntKind.wrap_i64]
 omega
theorem i64_and3 (n : Int) : bits .and .i64 n 3 = n % 4 := by
 have h1 : (BitVec.ofInt 64 3).toNat = 2 ^ 2 - 1 := by decide
 have key : (BitVec.ofInt 64 n &&& BitVec.ofInt 64 3).toNat = (n % ((2 ^ 64 : Nat) : Int)).toNat % 2 ^ 2 := by
  rw [BitVec.toNat_and, BitVec.toNat_ofInt, h1, Nat.and_two_pow_sub_one_eq_mod]
 show IntKind.i64.wrap ((BitVec.ofInt 64 n &&& BitVec.ofInt 64 3).toNat : Nat) = n % 4
 rw [key, IntKind.wrap_i64]
 omega

/-- a block of which half was written -/
def torn (b : List Nat) : List Nat := b.take 32 ++ List.replicate 32 0
theorem torn_sec {b : List Nat} (h : Sec b) : Sec (torn b) := by
 refine ⟨by simp [torn, h.1], fun c hc => ?_⟩
 unfold torn at hc
 rcases List.mem_append.1 hc with hc | hc
 ·exact h.2 c (List.mem_of_mem_take hc)
 ·have := (List.mem_replicate.1 hc).2
  omega
def goesOn (tape : Bool) (k : Int) : Bool := decide (k % 2 = 1) || !tape
def settled (tape : Bool) (fl : List (List Nat)) (p : Nat) (b : List Nat) (k : Int) : List (List Nat) :=
 if k % 2 = 1 then lay tape fl p b else if tape = true ∧ k % 4 = 2 then lay tape fl p (torn b) else fl

theorem wpQuiet_slice84 {ops : Array Oper} {C : World → Prop} {R : Act → Prop} {o : Oper} {rest : List Oper} {a : Act} (x : Operand) (hgd : o.guard = none) (ho : o.op = .slice 74 x none none none) (g off : Nat) (hx : a.eval x = .pointer (some ⟨g, off, none⟩))
  (h : wpQuiet Tryd.prog ops C R rest (a.put o.dst (.slice (some ⟨g, off, none⟩) 64 64))) : wpQuiet Tryd.prog ops C R (o :: rest) a :=
 wpQuiet_value hgd _ (fun w _ => by simp [execOp, ho, hx, slice84]) h
theorem wpQuiet_slice84_32 {ops : Array Oper} {C : World → Prop} {R : Act → Prop} {o : Oper} {rest : List Oper} {a : Act} (x hi : Operand) (hgd : o.guard = none) (ho : o.op = .slice 74 x none (some hi) none) (g off : Nat) (hx : a.eval x = .pointer (some ⟨g, off, none⟩)) (hh : a.eval hi = .int .i64 32)
  (h : wpQuiet Tryd.prog ops C R rest (a.put o.dst (.slice (some ⟨g, off, none⟩) 32 64))) : wpQuiet Tryd.prog ops C R (o :: rest) a :=
 wpQuiet_value hgd _ (fun w _ => by simp [execOp, ho, hx, hh, slice84_32]) h
theorem wpQuiet_field {ops : Array Oper} {C : World → Prop} {R : Act → Prop} {o : Oper} {rest : List Oper} {a : Act} {T i k : Nat} (hf : FieldAt T i k) (x : Operand) (hgd : o.guard = none) (ho : o.op = .fieldAddr T x i) (g off : Nat) (hx : a.eval x = .pointer (some ⟨g, off, none⟩))
  (h : wpQuiet Tryd.prog ops C R rest (a.put o.dst (.pointer (some ⟨g, off + k, none⟩)))) : wpQuiet Tryd.prog ops C R (o :: rest) a :=
 wpQuiet_value hgd _ (fun w _ => by simp [execOp, ho, hx, hf w g off]) h

set_option maxHeartbeats 600000 in
set_option maxRecDepth 100000 in
theorem settle_any {w : World} {c : Nat → Colour} {k : Colour} {g : Nat} {tape : Bool} {size : Nat} {fl : List (List Nat)} {wt : List Wr} (h : DevIn w c k g tape size fl wt) (x : Wr) (hxs : Sec x.b) (hp4 : x.place < 4096) (hpl : PlaceOk tape fl x.place) (kk : Int) :
  Calls Tryd.prog 30 #[ptr g, .agg (wrCells x).toArray, .int .i64 kk] w fun e w' => e = .returned (.bool (goesOn tape kk)) ∧ DevIn w' c k g tape size (settled tape fl x.place x.b kk) wt ∧ Ch (fun b => c b = k) w w' := by
 obtain ⟨bm, bl, v, hdev⟩ := h
 have HD : Hid (DevAt w c k g bm bl v tape size fl wt) := hdev
 obtain ⟨r, hr⟩ : ∃ r, r = settled tape fl x.place x.b kk := ⟨_, rfl⟩
 obtain ⟨y, hy⟩ : ∃ y, y = goesOn tape kk := ⟨_, rfl⟩
 rw [← hr, ← hy]
 have HR : Hid (r = settled tape fl x.place x.b kk) := hr
 have HY : Hid (y = goesOn tape kk) := hy
 have hxl := hxs.1
 have HPL : Hid (PlaceOk tape fl x.place) := hpl
 clear hdev hr hy hpl
 go_enter Tryd.func30, Tryd.ntmps30
 go_upto_region 0 with fail
 refine wp_region_lit ?_
 refine wpList_box (.tmp 1) rfl rfl (wrCells x) rfl ?_
 intro w1 r1 s1 b1
 refine wpList_assign (.const (.bool false)) rfl rfl (.bool false) rfl ?_
 refine wpList_nil ?_
 simp only [Act.put, aS, aC, aZ]
 obtain ⟨q, hq⟩ : ∃ q, q = w.heap.size := ⟨_, rfl⟩
 rw [← hq] at r1 ⊢
 have HD1 : Hid (DevAt w1 c k g bm bl v tape size fl wt) := HD.out.below b1
 have HC1 : Hid (Ch (fun b => c b = k) w w1) := Ch.of_below b1
 have HS1 : Hid (w1.heap.size = q + 1 ∧ q = w.heap.size) := ⟨by rw [hq]; exact s1, hq⟩
 have d0 := HD1.out.1.at 0 _ rfl
 have d2 := HD1.out.1.at 2 _ rfl
 obtain ⟨pl, hpp⟩ : ∃ pl, pl = x.place := ⟨_, rfl⟩
 have HPP : Hid (pl = x.place) := hpp
 have q1 : w1.cell? ⟨q, 1, none⟩ = some (.int .i64 (pl : Nat)) := by rw [hpp]; exact r1.at 1 _ rfl
 have hcb : ∀ j u, (bcells x.b)[j]? = some u → w1.cell? ⟨q, 0 + 2 + j, none⟩ = some u := fun j u hu => by
  rw [show 0 + 2 + j = j + 2 by omega]
  exact r1.at (j + 2) u (by simpa [wrCells] using hu)
 rw [← hpp] at hp4
 clear b1 s1 hq HD hpp
 by_cases hodd : kk % 2 = 1
 ·have hb1 : bits .and .i64 kk 1 = 1 := by rw [i64_and1, hodd]
  have er : r = lay tape fl x.place x.b := by rw [HR.out]; unfold settled; rw [if_pos hodd]
  have ey : y = true := by rw [HY.out]; simp [goesOn, hodd]
  subst ey
  have HRR : Hid (r = lay tape fl x.place x.b) := er
  clear HR HY er r1
  go_upto_region 2 with fail
  refine wp_region_head_drew 8 (by kernel_rfl) (by kernel_rfl) ?_
  simp only [List.take_succ_cons, List.take_zero, List.drop_succ_cons, List.drop_zero]
  iterate 7 (go_big_quiet_step (fail))
  refine wpQuiet_load agg84 (.tmp 18) rfl rfl q (0 + 2) rfl (bcells x.b) (by rw [bcells_length, hxl]) (fun W hW => by obtain ⟨n, rfl⟩ := hW; exact hcb) ?_
  refine wpQuiet_nil ?_
  intro _ hw'
  obtain ⟨nq, hw''⟩ := hw'
  subst hw''
  simp only [Act.put, aS, aC, aZ]
  obtain ⟨f, nf, hm, hff, hft⟩ := HD1.out.2.2.2.2.2.1
  refine wpList_putMap0 (hm.drewN nq) (.tmp 15) (.tmp 17) (.tmp 19) 103 74 rfl rfl rfl Tryd.underlying103 pl hp4 x.b hxs rfl rfl rfl ?_
  intro w3 hm3 t3
  refine wpList_nil ?_
  have HD3 : Hid (DevIn w3 c k g tape size r wt) := by
   rw [HRR.out]
   refine DevAt.devIn ((HD1.out.kept (w' := w1.drewN nq) fun _ _ hk => ⟨rfl, hk⟩).flushed t3 ?_)
   rw [← HPP.out]
   exact FlIn.lay hff hft (by rw [HPP.out]; exact HPL.out) hm3
  have HC3 : Hid (Ch (fun b => c b = k) w w3) := (HC1.out.drewN nq).grown t3.grown (fun b hb => by cases hb; exact Or.inl HD1.out.2.2.1)
  clear hm hff hft hm3 t3 hcb q1 d2 d0
  go_wp2
  go_ret
  exact ⟨rfl, HD3.out, HC3.out⟩
 ·have hb1 : bits .and .i64 kk 1 = 0 := by rw [i64_and1]; omega
  cases htp : tape with
  | false =>
   have er : r = fl := by rw [HR.out]; unfold settled; rw [if_neg hodd, if_neg (by simp [htp])]
   have ey : y = true := by rw [HY.out]; simp [goesOn, htp]
   subst ey
   have HRR : Hid (r = fl) := er
   subst htp
   clear HR HY er r1 hcb q1 d2
   go_wp2
   go_ret
   refine ⟨rfl, ?_, HC1.out⟩
   rw [HRR.out]
   exact HD1.out.devIn
  | true =>
   have ey : y = false := by rw [HY.out]; simp [goesOn, htp, hodd]
   subst ey
   subst htp
   by_cases h4 : kk % 4 = 2
   ·have hb3 : bits .and .i64 kk 3 = 2 := by rw [i64_and3, h4]
    have er : r = lay true fl x.place (torn x.b) := by rw [HR.out]; unfold settled; rw [if_neg hodd, if_pos ⟨rfl, h4⟩]
    have HRR : Hid (r = lay true fl x.place (torn x.b)) := er
    clear HR HY er
    go_upto_region 5 with fail
    refine wp_region_lit ?_
    refine wpList_alloc' (zerosU8 64) zero84 rfl rfl ?_
    intro w2 r2 s2 b2
    refine wpList_nil ?_
    simp only [Act.put, aS, aC, aZ]
    obtain ⟨q2, hq2⟩ : ∃ q2, q2 = w1.heap.size := ⟨_, rfl⟩
    rw [← hq2] at r2 s2 b2 ⊢
    have hqq : q < q2 := by have := HS1.out; omega
    have r12 : Row w2 q 76 (wrCells x) := r1.later b2 hqq
    go_upto_region 6 with fail
    refine wp_region_head_drew 3 (by kernel_rfl) (by kernel_rfl) ?_
    simp only [List.take_succ_cons, List.take_zero, List.drop_succ_cons, List.drop_zero]
    refine wpQuiet_slice84_32 (.tmp 7) _ rfl rfl q2 0 rfl rfl ?_
    refine wpQuiet_field f87_2 (.tmp 4) rfl rfl q 0 rfl ?_
    refine wpQuiet_slice84 (.tmp 31) rfl rfl q (0 + 2) rfl ?_
    refine wpQuiet_nil ?_
    intro _ hw'
    obtain ⟨nq, hw''⟩ := hw'
    subst hw''
    simp only [Act.put, aS, aC, aZ]
    refine wpList_copy_row (.tmp 30) (.tmp 32) rfl rfl q2 0 32 64 q (0 + 2) 64 64 74 32 rfl rfl (zerosU8 64) (r2.drewN nq) (x.b.take 32) (by simp [hxl]) rfl ?cp (by simp [zerosU8]) ?_
    case cp =>
     intro j hj
     have hj32 : j < 32 := by simp at hj; omega
     have := r12.at (j + 2) (.int .u8 (x.b.getD j 0 : Nat)) (by have := bcells_at x.b j (by omega); simpa [wrCells] using this)
     rw [show 0 + 2 + j = j + 2 by omega]
     have e : (x.b.take 32).getD j 0 = x.b.getD j 0 := by simp [hj32]
     rw [e]
     exact this
    intro w4 r4 s4 ch4
    refine wpList_nil ?_
    simp only [Act.put, aS, aC, aZ]
    have r4' : Row w4 q2 74 (bcells (torn x.b)) := by
     have e : splice (zerosU8 64) 0 (bcells (x.b.take 32)) = bcells (torn x.b) := by
      simp [splice, torn, bcells, zerosU8, hxl]
     rw [← e]
     exact r4
    have hk4 : ∀ b, b < w1.heap.size → w4.heap[b]? = w1.heap[b]? := fun b hb => (ch4.block b (by show b < w2.heap.size; omega) (by omega)).trans (b2.block b (by omega))
    have HD4 : Hid (DevAt w4 c k g bm bl v true size fl wt) := HD1.out.kept fun b hb hk => ⟨hk4 b hb, hk⟩
    have HC4 : Hid (Ch (fun b => c b = k) w w4) := by
     have h2 : Ch (fun b => c b = k) w (w2.drewN nq) := (HC1.out.trans (Ch.of_below (by rw [← hq2]; exact b2))).drewN nq
     refine h2.trans' ch4 fun b hb e => ?_
     have := HC1.out.size
     omega
    have d24 := HD4.out.1.at 2 _ rfl
    have d04 := HD4.out.1.at 0 _ rfl
    have q14 : w4.cell? ⟨q, 1, none⟩ = some (.int .i64 (pl : Nat)) := by
     rw [← q1]
     exact World.cell?_of_block (hk4 q (by omega))
    have hc4 : ∀ j u, (bcells (torn x.b))[j]? = some u → w4.cell? ⟨q2, 0 + j, none⟩ = some u := fun j u hu => by
     rw [Nat.zero_add]
     exact r4'.at j u hu
    have hts := torn_sec hxs
    clear r4 r4' s4 ch4 r2 s2 b2 r12 r1 hk4 d0 d2 q1 hcb hq2
    go_upto_region 7 with fail
    refine wp_region_head_drew 7 (by kernel_rfl) (by kernel_rfl) ?_
    simp only [List.take_succ_cons, List.take_zero, List.drop_succ_cons, List.drop_zero]
    iterate 6 (go_big_quiet_step (fail))
    refine wpQuiet_load agg84 (.tmp 7) rfl rfl q2 0 rfl (bcells (torn x.b)) (by rw [bcells_length]; exact hts.1) (fun W hW => by obtain ⟨n, rfl⟩ := hW; exact hc4) ?_
    refine wpQuiet_nil ?_
    intro _ hw'
    obtain ⟨nr, hw''⟩ := hw'
    subst hw''
    simp only [Act.put, aS, aC, aZ]
    obtain ⟨f, nf, hm, hff, hft⟩ := HD4.out.2.2.2.2.2.1
    refine wpList_putMap0 (hm.drewN nr) (.tmp 37) (.tmp 39) (.tmp 40) 103 74 rfl rfl rfl Tryd.underlying103 pl hp4 (torn x.b) hts rfl rfl rfl ?_
    intro w5 hm5 t5
    refine wpList_nil ?_
    have HD5 : Hid (DevAt w5 c k g bm bl v true size r wt) := by
     rw [HRR.out]
     refine (HD4.out.kept (w' := w4.drewN nr) fun _ _ hk => ⟨rfl, hk⟩).flushed t5 ?_
     rw [← HPP.out]
     exact FlIn.lay hff hft (by rw [HPP.out]; exact HPL.out) hm5
    have HC5 : Hid (Ch (fun b => c b = k) w w5) := (HC4.out.drewN nr).grown t5.grown (fun b hb => by cases hb; exact Or.inl HD4.out.2.2.1)
    have d05 := HD5.out.1.at 0 _ rfl
    clear hm hff hft hm5 t5 hc4 q14 d24 d04
    go_wp2
    go_ret
    exact ⟨rfl, HD5.out.devIn, HC5.out⟩
   ·have hb3 : bits .and .i64 kk 3 = kk % 4 := i64_and3 kk
    have t4 : (kk % 4 == 2) = false := by simpa using h4
    have er : r = fl := by rw [HR.out]; unfold settled; rw [if_neg hodd, if_neg (by simp [h4])]
    have HRR : Hid (r = fl) := er
    clear HR HY er r1 hcb q1 d2
    go_wp2
    go_ret
    refine ⟨rfl, ?_, HC1.out⟩
    rw [HRR.out]
    exact HD1.out.devIn
end Go.Proofs.YthgidfoidbgnaaaDoor

namespace Go.Proofs
open Go.Shelf
def Tryd.laySort_ren : Go.Shelf.Ren := ⟨fun | 6 => 54 | 15 => 70 | 14 => 69 | 28 => 89 | 29 => 90 | 20 => 81 | 21 => 82 | 22 => 83 | 23 => 84 | 24 => 85 | 25 => 86 | 26 => 87 | 27 => 88 | 46 => 95 | 47 => 96 | 48 => 97 | 49 => 98 | 50 => 99 | 57 => 100 | n => n, fun | 22 => 71 | 24 => 78 | 25 => 117 | 3 => 3 | 39 => 134 | 0 => 0 | 53 => 138 | 55 => 98 | 4 => 4 | 46 => 147 | 45 => 146 | 50 => 121 | 5 => 5 | 9 => 9 | 66 => 159 | 70 => 162 | 76 => 165 | 77 => 111 | n => n, fun | n => n⟩
theorem Tryd.laySort : Go.Proofs.SlLaysF0.n6 Tryd.prog Tryd.laySort_ren := {
 mixed := by kernel_rfl
 f6 := ⟨Tryd.f54.name, by decide, Tryd.func54.trans (congrArg some (by kernel_rfl))⟩
 f14 := ⟨Tryd.f69.name, by decide, Tryd.func69.trans (congrArg some (by kernel_rfl))⟩
 f15 := Tryd.func70.trans (congrArg some (by kernel_rfl))
 f20 := ⟨Tryd.f81.name, by decide, Tryd.func81.trans (congrArg some (by kernel_rfl))⟩
 f21 := ⟨Tryd.f82.name, by decide, Tryd.func82.trans (congrArg some (by kernel_rfl))⟩
 f22 := ⟨Tryd.f83.name, by decide, Tryd.func83.trans (congrArg some (by kernel_rfl))⟩
 f23 := ⟨Tryd.f84.name, by decide, Tryd.func84.trans (congrArg some (by kernel_rfl))⟩
 f24 := ⟨Tryd.f85.name, by decide, Tryd.func85.trans (congrArg some (by kernel_rfl))⟩
 f25 := ⟨Tryd.f86.name, by decide, Tryd.func86.trans (congrArg some (by kernel_rfl))⟩
 f26 := ⟨Tryd.f87.name, by decide, Tryd.func87.trans (congrArg some (by kernel_rfl))⟩
 f27 := ⟨Tryd.f88.name, by decide, Tryd.func88.trans (congrArg some (by kernel_rfl))⟩
 f28 := Tryd.func89.trans (congrArg some (by kernel_rfl))
 f29 := Tryd.func90.trans (congrArg some (by kernel_rfl))
 f46 := ⟨Tryd.f95.name, by decide, Tryd.func95.trans (congrArg some (by kernel_rfl))⟩
 f47 := Tryd.func96.trans (congrArg some (by kernel_rfl))
 f48 := Tryd.func97.trans (congrArg some (by kernel_rfl))
 f49 := ⟨Tryd.f98.name, by decide, Tryd.func98.trans (congrArg some (by kernel_rfl))⟩
 f50 := ⟨Tryd.f99.name, by decide, Tryd.func99.trans (congrArg some (by kernel_rfl))⟩
 f57 := ⟨Tryd.f100.name, by decide, Tryd.func100.trans (congrArg some (by kernel_rfl))⟩
 t0 := Tryd.underlying0
 a0 := Tryd.isAgg0
 z0 := Tryd.sizeOf0
 v0 := Tryd.zeroValue0
 t3 := Tryd.underlying3
 a3 := Tryd.isAgg3
 z3 := Tryd.sizeOf3
 v3 := Tryd.zeroValue3
 t4 := Tryd.underlying4
 a4 := Tryd.isAgg4
 z4 := Tryd.sizeOf4
 v4 := Tryd.zeroValue4
 t5 := Tryd.underlying5
 a5 := Tryd.isAgg5
 z5 := Tryd.sizeOf5
 v5 := Tryd.zeroValue5
 t9 := Tryd.underlying9
 a9 := Tryd.isAgg9
 z9 := Tryd.sizeOf9
 v9 := Tryd.zeroValue9
 t22 := Tryd.underlying71
 a22 := Tryd.isAgg71
 z22 := Tryd.sizeOf71
 v22 := Tryd.zeroValue71
 t25 := Tryd.underlying117
 a25 := Tryd.isAgg117
 z25 := Tryd.sizeOf117
 v25 := Tryd.zeroValue117
 t39 := Tryd.underlying134
 a39 := Tryd.isAgg134
 z39 := Tryd.sizeOf134
 v39 := Tryd.zeroValue134
 t45 := Tryd.underlying146
 a45 := Tryd.isAgg146
 z45 := Tryd.sizeOf146
 v45 := Tryd.zeroValue146
 t46 := Tryd.underlying147
 a46 := Tryd.isAgg147
 z46 := Tryd.sizeOf147
 v46 := Tryd.zeroValue147
 t50 := Tryd.underlying121
 a50 := Tryd.isAgg121
 z50 := Tryd.sizeOf121
 v50 := Tryd.zeroValue121
 t53 := Tryd.underlying138
 a53 := Tryd.isAgg138
 z53 := Tryd.sizeOf138
 v53 := Tryd.zeroValue138
 t55 := Tryd.underlying98
 a55 := Tryd.isAgg98
 z55 := Tryd.sizeOf98
 v55 := Tryd.zeroValue98
 t66 := Tryd.underlying159
 a66 := Tryd.isAgg159
 z66 := Tryd.sizeOf159
 v66 := Tryd.zeroValue159
 t70 := Tryd.underlying162
 a70 := Tryd.isAgg162
 z70 := Tryd.sizeOf162
 v70 := Tryd.zeroValue162
 t76 := Tryd.underlying165
 a76 := Tryd.isAgg165
 z76 := Tryd.sizeOf165
 v76 := Tryd.zeroValue165
 t77 := Tryd.underlying111
 a77 := Tryd.isAgg111
 z77 := Tryd.sizeOf111
 v77 := Tryd.zeroValue111 }
end Go.Proofs

namespace Go.Proofs.YthgidfoidbgnaaaDoor
open Go.RowKit Go.Maps Go.Sort Go.Lib

/-- the cells of a write with its device's number -/
def dCells (x : Wr) : List Value := .int .i64 (x.dev : Nat) :: wrCells x
def dcells (l : List Wr) : List Value := l.flatMap dCells
theorem dCells_length (x : Wr) (h : x.b.length = 64) : (dCells x).length = 67 := by simp [dCells, wrCells_length x h]
theorem dCells_one (x : Wr) : ∀ v ∈ dCells x, v.oneCell' = true := by
 intro v hv
 rcases List.mem_cons.1 hv with rfl | hv
 ·rfl
 ·exact wrCells_one x v hv
theorem dcells_snoc (l : List Wr) (x : Wr) : dcells (l ++ [x]) = dcells l ++ dCells x := by simp [dcells]
theorem dcells_length (l : List Wr) (h : ∀ x ∈ l, x.b.length = 64) : (dcells l).length = l.length * 67 := by
 induction l with
 | nil => rfl
 | cons x l ih =>
  have := ih (fun y hy => h y (by simp [hy]))
  simp only [dcells, List.flatMap_cons, List.length_append, List.length_cons] at *
  rw [this, dCells_length x (h x (by simp))]
  omega
theorem dcells_at (l : List Wr) (h : ∀ x ∈ l, x.b.length = 64) (j i : Nat) (x : Wr) (hj : l[j]? = some x) (hi : i < 67) : (dcells l)[j * 67 + i]? = (dCells x)[i]? := by
 induction l generalizing j with
 | nil => simp at hj
 | cons y l ih =>
  have hy := dCells_length y (h y (by simp))
  unfold dcells at *
  rw [List.flatMap_cons]
  cases j with
  | zero =>
   simp at hj
   subst hj
   rw [List.getElem?_append_left (by omega)]
   simp
  | succ j =>
   rw [List.getElem?_append_right (by omega), hy, show (j + 1) * 67 + i - 67 = j * 67 + i by omega]
   exact ih (fun z hz => h z (by simp [hz])) j (by simpa using hj)

/-- writes as they can be sorted -/
def WOk (x : Wr) : Prop := x.step < 4611686018427387904 ∧ x.b.length = 64
abbrev WS := { x : Wr // WOk x }
instance : Inhabited WS := ⟨⟨⟨0, 0, 0, List.replicate 64 0⟩, by decide, by simp⟩⟩
def encW (x : WS) : List Value := dCells x.1
def cfW (x y : WS) : Int := (x.1.step : Int) - (y.1.step : Int)
theorem ltW (x y : WS) : ltOf cfW x y = decide (x.1.step < y.1.step) := by
 unfold ltOf cfW
 congr 1
 simp only [eq_iff_iff]
 omega
theorem swoW : SWO (ltOf cfW) where
 irrefl x := by rw [ltW]; simp
 trans x y z h1 h2 := by rw [ltW] at *; simp at *; omega
 ntrans x y z h1 h2 := by rw [ltW] at *; simp at *; omega

section
variable {w : World} {ops : Array Oper} {rest : List Oper} {o : Oper} {a : Act} {Q : Exit → Act → World → Prop}
theorem wpList_boxE {t : Nat} (x : Operand) (hgd : o.guard = none) (ho : o.op = .box t x) (cs : List Value) (hx : a.eval x = .agg cs.toArray)
  (h : wpList Tryd.prog ops Q rest (a.put o.dst (.pointer (some ⟨w.heap.size, 0, none⟩))) (w.alloc (.cells cs.toArray t))) : wpList Tryd.prog ops Q (o :: rest) a w :=
 wpList_value hgd _ _ (by simp [execOp, ho, hx, Instr.box, newVar, newRow, Value.cells]) h
end

set_option maxHeartbeats 400000 in
set_option maxRecDepth 100000 in
theorem closure_any (x y : WS) (W : World) : Calls Tryd.prog 55 #[.agg (encW x).toArray, .agg (encW y).toArray] W fun e w' => e = .returned (.int .i64 (cfW x y)) ∧ ∃ q os', w' = grow (W.drewN q) os' := by
 obtain ⟨r, hr⟩ : ∃ r, r = cfW x y := ⟨_, rfl⟩
 obtain ⟨sx, hsx⟩ : ∃ sx, sx = x.1.step := ⟨_, rfl⟩
 obtain ⟨sy, hsy⟩ : ∃ sy, sy = y.1.step := ⟨_, rfl⟩
 have hx : sx < 4611686018427387904 := by rw [hsx]; exact x.2.1
 have hy : sy < 4611686018427387904 := by rw [hsy]; exact y.2.1
 rw [← hr]
 have HRR : Hid (r = (sx : Int) - (sy : Int)) := by rw [hr, hsx, hsy]; exact rfl
 go_enter Tryd.func55, Tryd.ntmps55
 go_upto_region 0 with fail
 refine wp_region_lit ?_
 refine wpList_boxE (.tmp 0) rfl rfl (encW x) rfl ?_
 refine wpList_boxE (.tmp 1) rfl rfl (encW y) rfl ?_
 refine wpList_assign (.const (.int .i64 0)) rfl rfl _ rfl ?_
 refine wpList_nil ?_
 simp only [Act.put, aS, aC, aZ]
 obtain ⟨w1, hw1⟩ : ∃ w1, w1 = W.alloc (.cells (encW x).toArray 78) := ⟨_, rfl⟩
 rw [← hw1]
 obtain ⟨w2, hw2⟩ : ∃ w2, w2 = w1.alloc (.cells (encW y).toArray 78) := ⟨_, rfl⟩
 rw [← hw2]
 have r1 : Row w1 W.heap.size 78 (encW x) := by rw [hw1]; exact Row.new W 78 _
 have r12 : Row w2 W.heap.size 78 (encW x) := by rw [hw2]; exact r1.alloc _
 have r2 : Row w2 w1.heap.size 78 (encW y) := by rw [hw2]; exact Row.new w1 78 _
 have cx : w2.cell? ⟨W.heap.size, 1, none⟩ = some (.int .i64 (sx : Nat)) := by rw [hsx]; exact r12.at 1 _ rfl
 have cy : w2.cell? ⟨w1.heap.size, 1, none⟩ = some (.int .i64 (sy : Nat)) := by rw [hsy]; exact r2.at 1 _ rfl
 have HG : Hid (w2 = grow (W.drewN 0) #[.cells (encW x).toArray 78, .cells (encW y).toArray 78]) := by
  rw [hw2, hw1, alloc_eq_grow, alloc_eq_grow, grow_grow]
  exact rfl
 generalize W.heap.size = g1 at *
 generalize w1.heap.size = g2 at *
 clear r1 r12 r2 hw2 hw1 hsx hsy hr
 go_wp2
 go_ret
 refine ⟨?_, 0, _, HG.out⟩
 rw [HRR.out]
 rfl

theorem cmpLaysW (blk off size : Nat) (w : World) : CmpLays Tryd.prog 55 #[] encW 67 cfW blk off size w := fun _ _ _ _ x y => closure_any x y _
theorem en62 : EntersF 55 := Go.Proofs.enters_of Tryd.func55 (by kernel_rfl) rfl
theorem sorted_ch {α : Type} [Inhabited α] (enc : α → List Value) (k : Nat) (w : World) (g off n : Nat) (d : Array α) (os : Array Obj) : Ch (· = g) w (sortWorldK enc k w g off n d os) := by
 unfold sortWorldK putRowK putRow mapBlock
 refine ⟨rfl, rfl, rfl, by simp [grow, Sort.ahead], fun b hb hne => ?_⟩
 rw [heap_grow_old _ _ (by simpa [Sort.ahead] using hb)]
 simp [Sort.ahead, Array.getElem?_modify, Ne.symm hne]

/-- one row of steps that rise is the only order -/
theorem sorted_unique : ∀ (l l' : List Wr), l.Perm l' → l.Pairwise (fun x y => x.step < y.step) → l'.Pairwise (fun x y => x.step ≤ y.step) → l' = l
 | [], l', hp, _, _ => by simpa using hp.symm
 | x :: l, l', hp, h1, h2 => by
  cases l' with
  | nil => simp at hp
  | cons y l' =>
   obtain ⟨hx, k1⟩ := List.pairwise_cons.1 h1
   obtain ⟨hy, k2⟩ := List.pairwise_cons.1 h2
   have hxm : x ∈ y :: l' := hp.subset (by simp)
   have hym : y ∈ x :: l := hp.symm.subset (by simp)
   have e : y = x := by
    rcases List.mem_cons.1 hym with e | hm
    ·exact e
    ·rcases List.mem_cons.1 hxm with e | hm'
     ·exact e.symm
     ·have := hx y hm
      have := hy x hm'
      omega
   subst e
   rw [sorted_unique l l' hp.cons_inv k1 k2]

theorem toWS (l : List Wr) (h : ∀ x ∈ l, WOk x) : ∃ d : List WS, d.map (·.1) = l :=
 ⟨l.attach.map fun x => ⟨x.1, h x.1 x.2⟩, by simp⟩

/-- the sort of writes that wait -/
theorem sort_any (l srt : List Wr) (hl : ∀ x ∈ l, WOk x) (hp : srt.Perm l) (ho : srt.Pairwise fun x y => x.step < y.step) (hlen : l.length < 4611686018427387904) (w : World) (b cap : Nat) (hb : b < w.heap.size) (hcell : ∀ j u, (dcells l)[j]? = some u → w.cell? ⟨b, 0 + j, none⟩ = some u ∧ w.frozen? ⟨b, 0 + j, none⟩ = false) :
  Calls Tryd.prog 54 #[.slice (some ⟨b, 0, none⟩) l.length cap, .func (.func 55) #[] #[]] w fun e w' => e = .returned noResult ∧ (∀ j u, (dcells srt)[j]? = some u → w'.cell? ⟨b, j, none⟩ = some u) ∧ Ch (· = b) w w' := by
 obtain ⟨d, hd⟩ := toWS l hl
 have hdl : d.toArray.size = l.length := by rw [← hd]; simp
 have hflat : ∀ (e : List WS) (j : Nat), j < e.length * 67 → (flatK encW 67 e.toArray)[j]! = (dcells (e.map (·.1)))[j]! := by
  intro e j hj
  rw [get_flatK encW 67 e.toArray j (by simpa using hj)]
  have hq : j / 67 < e.length := by omega
  have hx : (e.map (·.1))[j / 67]? = some e[j / 67].1 := by simp [hq]
  have := dcells_at (e.map (·.1)) (fun x hx => by obtain ⟨y, _, rfl⟩ := List.mem_map.1 hx; exact y.2.2) (j / 67) (j % 67) _ hx (by omega)
  rw [show j / 67 * 67 + j % 67 = j by omega] at this
  have e1 : e.toArray[j / 67]! = e[j / 67] := by simp [hq]
  rw [e1]
  unfold encW
  rw [List.getElem!_eq_getElem?_getD, List.getElem!_eq_getElem?_getD, this]
 have hH : HoldsK encW 67 w b 0 d.toArray := by
  intro j hj
  have hj' : j < d.length * 67 := by simpa using hj
  have hlt : j < (dcells l).length := by
   rw [dcells_length l (fun x hx => (hl x hx).2), ← hd]
   simpa using hj'
  have hc := hcell j _ (List.getElem?_eq_getElem hlt)
  refine ⟨?_, hc.2⟩
  rw [hc.1, hflat d j hj', hd]
  simp [hlt]
 have hcon := AnyQ.slices_SortFunc Tryd.laySort 67 Tryd.isAgg78 Tryd.sizeOf78 encW (fun x => dCells_length x.1 x.2.2) (fun x v hv => dCells_one x.1 v hv) cfW swoW 55 #[] b 0 cap d.toArray w en62 (cmpLaysW b 0 _ w) hH hb (by omega)
 change Calls Tryd.prog 54 _ _ _ at hcon
 rw [hdl] at hcon
 refine hcon.mono ?_
 rintro e w' ⟨rfl, d', n, os, hperm, hsort, rfl⟩
 obtain ⟨hsz, _, hpm⟩ := hperm
 have hpm' : d'.toList.Perm d := by
  have e1 : d'.extract 0 l.length = d' := by rw [← hdl, ← hsz]; simp
  have e2 : d.toArray.extract 0 l.length = d.toArray := by rw [← hdl]; simp
  rw [e1, e2] at hpm
  simpa using hpm
 have hsrt : (d'.toList.map (·.1)).Pairwise (fun x y : Wr => x.step ≤ y.step) := by
  rw [List.pairwise_map, List.pairwise_iff_getElem]
  intro i j hi hj hij
  have hj' : j < d'.size := by simpa using hj
  have := hsort i j (Nat.zero_le _) hij (by rw [← hdl, ← hsz]; exact hj')
  rw [ltW] at this
  simp only [decide_eq_false_iff_not] at this
  have e1 : d'[i]! = d'.toList[i] := by simp [show i < d'.size by omega]
  have e2 : d'[j]! = d'.toList[j] := by simp [hj']
  rw [e1, e2] at this
  omega
 have heq : d'.toList.map (·.1) = srt := by
  refine sorted_unique srt _ ?_ ho hsrt
  refine hp.trans ?_
  rw [← hd]
  exact (hpm'.map _).symm
 refine ⟨rfl, fun j u hu => ?_, sorted_ch encW 67 w b 0 n d' os⟩
 have hHH := holdsK_sortWorldK_c encW 67 w b 0 d.toArray d' n os hH hb (by rw [hsz])
 have hj : j < d'.toList.length * 67 := by
  have := (List.getElem?_eq_some_iff.1 hu).1
  rw [← heq, dcells_length _ (fun x hx => by obtain ⟨y, _, rfl⟩ := List.mem_map.1 hx; exact y.2.2)] at this
  simpa using this
 have := (hHH j (by simpa using hj)).1
 rw [Nat.zero_add] at this
 rw [this]
 have h2 := hflat d'.toList j hj
 rw [show d'.toList.toArray = d' from rfl] at h2
 rw [show (id (flatK encW 67 d')[j]!) = (flatK encW 67 d')[j]! from rfl, h2, heq]
 obtain ⟨hlt, rfl⟩ := List.getElem?_eq_some_iff.1 hu
 simp [hlt]
end Go.Proofs.YthgidfoidbgnaaaDoor

namespace Go.Proofs.YthgidfoidbgnaaaDoor
open Go.RowKit Go.Maps Go.Sort Go.Lib

/-- the writes of the first i devices -/
def Pl.upto (m : Pl) (i : Nat) : List Wr := (List.range i).flatMap m.wt
theorem Pl.upto_succ (m : Pl) (i : Nat) : m.upto (i + 1) = m.upto i ++ m.wt i := by simp [Pl.upto, List.range_succ]
theorem upto_perm (l : List Wr) : ∀ n, ((List.range n).flatMap fun i => l.filter fun x => x.dev == i).Perm (l.filter fun x => decide (x.dev < n))
 | 0 => by simp
 | n + 1 => by
  rw [List.range_succ, List.flatMap_append]
  simp only [List.flatMap_cons, List.flatMap_nil, List.append_nil]
  have h := List.filter_append_perm (fun x : Wr => decide (x.dev < n)) (l.filter fun x => decide (x.dev < n + 1))
  rw [List.filter_filter, List.filter_filter] at h
  have e1 : (l.filter fun x => decide (x.dev < n) && decide (x.dev < n + 1)) = l.filter fun x => decide (x.dev < n) := by
   apply List.filter_congr
   intro x _
   by_cases hx : x.dev < n
   ·simp [hx, show x.dev < n + 1 by omega]
   ·simp [hx]
  have e2 : (l.filter fun x => !decide (x.dev < n) && decide (x.dev < n + 1)) = l.filter fun x => x.dev == n := by
   apply List.filter_congr
   intro x _
   by_cases hx : x.dev = n
   ·simp [hx]
   ·by_cases h2 : x.dev < n
    ·simp [hx, h2]
    ·simp [hx, h2, show ¬ x.dev < n + 1 by omega]
  rw [e1, e2] at h
  exact (List.Perm.append_right _ (upto_perm l n)).trans h
theorem Pl.upto_all {m : Pl} (h : m.WF) : m.wts.Perm (m.upto m.n) := by
 have := upto_perm m.wts m.n
 rw [List.filter_eq_self.2 (fun x hx => by simp only [decide_eq_true_eq]; exact (h.wdev x hx).1)] at this
 exact this.symm
theorem Pl.upto_mem {m : Pl} {i : Nat} {x : Wr} (h : x ∈ m.upto i) : x ∈ m.wts := by
 unfold Pl.upto at h
 obtain ⟨j, _, hx⟩ := List.mem_flatMap.1 h
 exact (Pl.wt_mem hx).1
theorem Pl.upto_len {m : Pl} (h : m.WF) (i j : Nat) (hi : i < m.n) : (m.upto i ++ (m.wt i).take j).length ≤ m.wts.length := by
 have h1 : (m.upto (i + 1)).length ≤ m.wts.length := by
  have : ∀ k, k ≤ m.n → (m.upto k).length ≤ (m.upto m.n).length := by
   intro k hk
   obtain ⟨d, hd⟩ := Nat.exists_eq_add_of_le hk
   rw [hd]
   clear hd hk
   induction d with
   | zero => exact Nat.le_refl _
   | succ d ih =>
    have e : m.upto (k + (d + 1)) = m.upto (k + d) ++ m.wt (k + d) := m.upto_succ (k + d)
    rw [e, List.length_append]
    omega
  rw [(Pl.upto_all h).length_eq]
  exact this _ (by omega)
 rw [m.upto_succ, List.length_append] at h1
 simp
 omega

section
variable {w w' : World} {c : Nat → Colour} {t g db cap : Nat} {gs : Nat → Nat} {m : Pl}
theorem PlantAt.below (h : PlantAt w c t g db cap gs m) (hb : Below w.heap.size w w') : PlantAt w' c t g db cap gs m := by
 refine ⟨h.row.later hb h.row.lt, h.cg, h.cd, h.ne, Nat.lt_of_lt_of_le h.lt hb.size, h.cap, fun i hi => ?_, fun i hi => (h.dev i hi).kept fun b hlt hk => ⟨hb.block b hlt, hk⟩⟩
 rw [← h.cell i hi]
 exact World.cell?_of_block (hb.block db h.lt)
end
section
variable {w : World} {ops : Array Oper} {rest : List Oper} {o : Oper} {a : Act} {Q : Exit → Act → World → Prop}
theorem wpList_build93 (x y : Operand) (hgd : o.guard = none) (ho : o.op = .build 78 #[(0, x), (1, y)]) (d : Int) (cs : List Value) (hc : cs.length = 66) (hx : a.eval x = .int .i64 d) (hy : a.eval y = .agg cs.toArray)
  (h : wpList Tryd.prog ops Q rest (a.put o.dst (.agg (Value.int .i64 d :: cs).toArray)) w) : wpList Tryd.prog ops Q (o :: rest) a w :=
 wpList_value hgd _ w (by simp [execOp, ho, hx, hy, run_build93 w d cs hc]) h
end
theorem ownsRow_below {w w' : World} {B e n k : Nat} {v : Value} {xs : List Value} (h : w.ownsRow B e n v k xs) (hb : RowKit.Below w.heap.size w w') : w'.ownsRow B e n v k xs := by
 obtain ⟨hl, h⟩ := h
 refine ⟨hl, ?_⟩
 rcases h with ⟨rfl, h⟩ | ⟨g, cap, cur, rfl, h0, hg, h⟩
 ·exact Or.inl ⟨rfl, h⟩
 ·exact Or.inr ⟨g, cap, cur, rfl, h0, (hb.block g (Array.getElem?_eq_some_iff.1 hg).1).trans hg, h⟩
/-- all writes, as a slice of the call's own -/
def AllIn (W : World) (B : Nat) (v : Value) (l : List Wr) : Prop :=
 ∃ p cap, v = .slice p l.length cap ∧ (l = [] ∨ ∃ b, p = some ⟨b, 0, none⟩ ∧ B ≤ b ∧ ∀ j u, (dcells l)[j]? = some u → W.cell? ⟨b, j, none⟩ = some u)

set_option maxHeartbeats 600000 in
set_option maxRecDepth 100000 in
theorem all_any {w : World} {c : Nat → Colour} {t g db cap : Nat} {gs : Nat → Nat} {m : Pl} (h : PlantAt w c t g db cap gs m) (hwf : m.WF) (hst : m.steps < 1099511627776) :
  Calls Tryd.prog 29 #[ptr g] w fun e w' => ∃ v, e = .returned v ∧ AllIn w' w.heap.size v m.wts ∧ Below w.heap.size w w' := by
 have c0 := h.c0
 have HP : Hid (PlantAt w c t g db cap gs m) := h
 obtain ⟨B, hB⟩ : ∃ B, B = w.heap.size := ⟨_, rfl⟩
 have HB : Hid (B = w.heap.size) := hB
 obtain ⟨n, hn⟩ : ∃ n, n = m.n := ⟨_, rfl⟩
 rw [← hn] at c0
 have HN : Hid (n = m.n) := hn
 have hn12 : n ≤ 12 := by rw [hn]; exact hwf.few
 rw [← hB]
 clear h hB hn
 go_enter Tryd.func29, Tryd.ntmps29
 go_wp2
 go_loopw [13, 3] (fun ix v W => ∃ i : Nat, i ≤ n ∧ ix = .int .i64 i ∧ W.ownsRow B 78 67 v (m.upto i).length (dcells (m.upto i)) ∧ Below B w W) (fun ix _ _ => n - (intOf ix).toNat)
 case atStart => exact ⟨0, Nat.zero_le _, rfl, ⟨rfl, Or.inl ⟨rfl, rfl⟩⟩, Below.refl _ _⟩
 case round =>
  obtain ⟨i, hi, rfl, ho, hbl⟩ := hrel
  clear c0
  by_cases hlt : i < n
  ·have hi' : i < m.n := by rw [← HN.out]; exact hlt
   have HO : Hid (wr.ownsRow B 78 67 u3 (m.upto i).length (dcells (m.upto i))) := ho
   have HBL : Hid (Below B w wr) := hbl
   have hP : PlantAt wr c t g db cap gs m := HP.out.below (by rw [← HB.out]; exact hbl)
   have ci := hP.cell i hi'
   obtain ⟨bm, bl, v, hdev⟩ := HP.out.dev i hi'
   obtain ⟨pv, cv, hv⟩ := WtIn.shape hdev.2.2.2.2.2.2.1
   subst hv
   obtain ⟨L, hL⟩ : ∃ L, L = (m.wt i).length := ⟨_, rfl⟩
   rw [← hL] at hdev
   have HL : Hid (L = (m.wt i).length) := hL
   have c3 := (hdev.1.later (by rw [← HB.out]; exact hbl) hdev.1.lt).at 3 _ rfl
   have HD : Hid (WtIn w c (t, i + 1) (.slice pv L cv) (m.wt i)) := hdev.2.2.2.2.2.2.1
   have hL40 : L < 1099511627776 := by
    have := m.wt_len i
    have := hwf.count
    rw [hL]
    omega
   clear hP hdev hL ho hbl
   go_wp2
   go_loopw [23, 3] (fun jx v W => ∃ j : Nat, j ≤ L ∧ jx = .int .i64 j ∧ W.ownsRow B 78 67 v (m.upto i ++ (m.wt i).take j).length (dcells (m.upto i ++ (m.wt i).take j)) ∧ Below B w W) (fun jx _ _ => L - (intOf jx).toNat)
   case atStart =>
    refine ⟨0, Nat.zero_le _, rfl, ?_, HBL.out⟩
    rw [List.take_zero, List.append_nil]
    exact HO.out
   case round =>
    obtain ⟨j, hj, rfl, ho, hbl⟩ := hrel
    clear HO
    by_cases hjl : j < L
    ·obtain ⟨x, hx⟩ : ∃ x, (m.wt i)[j]? = some x := ⟨_, List.getElem?_eq_getElem (by rw [← HL.out]; exact hjl)⟩
     have hmem := Pl.wt_mem (List.mem_of_getElem? hx)
     have hxs : Sec x.b := hwf.wsec x hmem.1
     have hxl : x.b.length = 64 := hxs.1
     obtain ⟨l, hl⟩ : ∃ l, l = m.upto i ++ (m.wt i).take j := ⟨_, rfl⟩
     have HT : Hid (m.upto i ++ (m.wt i).take (j + 1) = l ++ [x]) := by
      rw [take_next _ j x hx, ← List.append_assoc, ← hl]
      exact rfl
     rw [← hl] at ho
     have hll : l.length < 1099511627776 := by
      have := Pl.upto_len hwf i j hi'
      have := hwf.count
      rw [hl]
      omega
     obtain ⟨b, cv', hv, _, hcl⟩ := HD.out.cells (fun y hy => (hwf.wsec y (Pl.wt_mem hy).1).1) (by intro e; rw [e] at hx; simp at hx)
     injection hv with hv1 hv2 hv3
     subst hv1
     have hcx : ∀ k u, (wrCells x)[k]? = some u → wr.cell? ⟨b, 0 + j * 66 + k, none⟩ = some u := fun k u hu => by
      rw [Nat.zero_add]
      exact cell_later (by rw [← HB.out]; exact hbl) (hcl j x hx k u hu)
     have HO : Hid (wr.ownsRow B 78 67 u3 l.length (dcells l)) := ho
     have HBL2 : Hid (RowKit.Below B w wr) := hbl
     have hxd : x.dev = i := hmem.2
     have HXD : Hid (x.dev = i) := hxd
     clear ho hbl hcl hx hv2 hv3 hl hmem hxd c3 ci
     go_upto_region 7 with fail
     refine wp_region_lit ?_
     refine wpList_indexAddr und73 size87 (.tmp 21) (.tmp 23) rfl rfl b 0 L cv j rfl rfl hjl ?_
     simp only [Act.put, aS, aC, aZ]
     refine wpList_load agg87 (.tmp 25) rfl rfl b (0 + j * 66) rfl (wrCells x) (wrCells_length x hxl) hcx ?_
     simp only [Act.put, aS, aC, aZ]
     refine wpList_alloc_store agg87 _ zero87 rfl rfl rfl rfl rfl (.tmp 26) rfl (wrCells x) (wrCells_length x hxl) rfl (wrCells_one x) (fun _ => rfl) (fun _ => rfl) ?_
     intro w2 r2 s2 b2
     refine wpList_nil ?_
     simp only [Act.put, aS, aC, aZ]
     obtain ⟨q, hq⟩ : ∃ q, q = wr.heap.size := ⟨_, rfl⟩
     rw [← hq] at r2 ⊢
     have HBw : Hid (B ≤ wr.heap.size) := by
      have := HBL2.out.size
      rw [HB.out]
      exact this
     have HO2 : Hid (w2.ownsRow B 78 67 u3 l.length (dcells l)) := ownsRow_below HO.out b2
     have HB2 : Hid (RowKit.Below B w w2 ∧ B ≤ w2.heap.size) := ⟨HBL2.out.trans (b2.mono HBw.out), by have := HBw.out; omega⟩
     clear b2 s2 hcx HO HBL2
     go_upto_region 8 with fail
     refine wp_region_lit ?_
     refine wpList_move (.tmp 3) rfl rfl u3 rfl ?_
     refine wpList_move (.tmp 4) rfl rfl (.int .i64 (i : Int)) rfl ?_
     simp only [Act.put, aS, aC, aZ]
     refine wpList_load agg87 (.tmp 7) rfl rfl q 0 rfl (wrCells x) (wrCells_length x hxl) (fun k u hu => by rw [Nat.zero_add]; exact r2.at k u hu) ?_
     simp only [Act.put, aS, aC, aZ]
     refine wpList_build93 (.tmp 28) (.tmp 29) rfl rfl (i : Int) (wrCells x) (wrCells_length x hxl) rfl rfl ?_
     simp only [Act.put, aS, aC, aZ]
     have hdc : Value.int .i64 (i : Int) :: wrCells x = dCells x := by unfold dCells; rw [HXD.out]
     rw [hdc]
     refine wpList_one und90 info93 (by decide) (by decide) (.tmp 30) rfl rfl (dCells x) (dCells_length x hxl) rfl ?_
     intro w4 r4 s4 b4
     simp only [Act.put, aS, aC, aZ]
     obtain ⟨i0, hi0, hz0, hz1, hz2⟩ := info_parts info93
     refine wpList_append_own_at _ rfl (.tmp 27) (.tmp 31) 71 rfl B 78 i0 _ 67 88 und90 hi0 hz0 hz1 hz2 rfl (by decide) u3 l.length (dcells l) rfl (ownsRow_below HO2.out b4) ⟨w2.heap.size, 0, none⟩ 1 1 (dCells x) rfl (by rw [dCells_length x hxl]) ?cells (dCells_one x) (by unfold maxLen; omega) (by omega) (by have := HB2.out.2; omega) ?_
     case cells =>
      intro k u hu
      rw [add_none, Nat.zero_add]
      exact r4.at k u hu
     intro v5 w5 o5 g5 n5 l5
     refine wpList_assign (.tmp 32) rfl rfl v5 rfl ?_
     refine wpList_nil ?_
     simp only [Act.put, aS, aC, aZ]
     have HO5 : Hid (w5.ownsRow B 78 67 v5 (m.upto i ++ (m.wt i).take (j + 1)).length (dcells (m.upto i ++ (m.wt i).take (j + 1)))) := by
      rw [HT.out, dcells_snoc, List.length_append]
      exact o5
     have HB5 : Hid (RowKit.Below B w w5) := by
      refine (HB2.out.1.trans (b4.mono HB2.out.2)).trans ((RowKit.Below.refl B w4).grown g5 (by have := HB2.out.2; omega) fun k hk => ?_)
      exact (HO2.out.lt k hk).1
     clear o5 g5 n5 l5 b4 s4 r4 r2
     go_wp2
     exact ⟨⟨j + 1, by omega, by go_num, HO5.out, HB5.out⟩, by simp [intOf]; omega⟩
    ·have e : j = L := by omega
     subst e
     have HO : Hid (wr.ownsRow B 78 67 u3 (m.upto (i + 1)).length (dcells (m.upto (i + 1)))) := by
      rw [m.upto_succ]
      have := ho
      rw [HL.out, List.take_length] at this
      exact this
     have HBL2 : Hid (RowKit.Below B w wr) := hbl
     clear ho hbl c3 ci
     go_wp2
     exact ⟨⟨i + 1, by omega, by go_num, HO.out, HBL2.out⟩, by simp [intOf]; omega⟩
  ·have e : i = n := by omega
   subst e
   have hperm := Pl.upto_all hwf
   rw [← HN.out] at hperm
   obtain ⟨l, hl⟩ : ∃ l, l = m.upto i := ⟨_, rfl⟩
   rw [← hl] at ho hperm
   have hlw : l.length < 1099511627776 := by
    have := hwf.count
    rw [← hperm.length_eq]
    omega
   have hok : ∀ x ∈ l, WOk x := fun x hx => by
    have hm : x ∈ m.wts := by rw [hl] at hx; exact Pl.upto_mem hx
    have := (hwf.wdev x hm).2.2
    exact ⟨by omega, (hwf.wsec x hm).1⟩
   have HLE : Hid (l.length = m.wts.length) := hperm.length_eq.symm
   have HBw : Hid (B ≤ wr.heap.size) := by
    have := hbl.size
    rw [HB.out]
    exact this
   by_cases hnil : l = []
   ·have hw0 : m.wts = [] := by
     have := HLE.out
     rw [hnil] at this
     exact List.length_eq_zero_iff.1 this.symm
    have hv : ∃ p cp, u3 = .slice p 0 cp := by
     obtain ⟨_, h⟩ := ho
     rcases h with ⟨rfl, _⟩ | ⟨g', cp, cur, rfl, _⟩
     ·exact ⟨none, 0, rfl⟩
     ·rw [hnil]
      exact ⟨_, cp, rfl⟩
    obtain ⟨p, cp, rfl⟩ := hv
    have HBL : Hid (RowKit.Below B w wr) := hbl
    have HS : Hid (Calls Tryd.prog 54 #[.slice p 0 cp, .func (.func 55) #[] #[]] wr fun e w' => e = .returned (.tuple #[]) ∧ w' = wr) := AnyF.slices_SortFunc_none Tryd.laySort p cp _ wr
    have HW0 : Hid (m.wts = []) := hw0
    clear ho hbl hw0 hperm hok hl hnil
    go_wp2_with (go_at_call 54; refine HS.out.mono ?_; rintro e w4 ⟨rfl, hw4⟩)
    subst hw4
    go_ret
    refine ⟨_, rfl, ⟨p, cp, ?_, Or.inl HW0.out⟩, HBL.out⟩
    rw [HW0.out]
    rfl
   ·obtain ⟨b, cp, hv, hBb, hcell⟩ : ∃ b cp, u3 = .slice (some ⟨b, 0, none⟩) l.length cp ∧ B ≤ b ∧ ∀ j u, (dcells l)[j]? = some u → wr.cell? ⟨b, 0 + j, none⟩ = some u ∧ wr.frozen? ⟨b, 0 + j, none⟩ = false := by
     obtain ⟨_, h⟩ := ho
     rcases h with ⟨_, h0⟩ | ⟨g', cp, cur, rfl, hBg, hg, _, _, _, hcur⟩
     ·exact absurd (List.length_eq_zero_iff.1 h0) hnil
     ·refine ⟨g', cp, rfl, hBg, fun j u hu => ?_⟩
      rw [← hcur, List.getElem?_take] at hu
      split at hu
      ·refine ⟨?_, by simp [World.frozen?, hg]⟩
       simp [World.cell?, hg]
       simpa using hu
      ·cases hu
    subst hv
    have hblt : b < wr.heap.size := by
     cases l with
     | nil => exact absurd rfl hnil
     | cons x l => exact block_lt_of_cell (hcell 0 (.int .i64 (x.dev : Nat)) rfl).1
    have HBL : Hid (RowKit.Below B w wr) := hbl
    have HS : Hid (Calls Tryd.prog 54 #[.slice (some ⟨b, 0, none⟩) l.length cp, .func (.func 55) #[] #[]] wr fun e w' => e = .returned noResult ∧ (∀ j u, (dcells m.wts)[j]? = some u → w'.cell? ⟨b, j, none⟩ = some u) ∧ Ch (· = b) wr w') := sort_any l m.wts hok hperm hwf.order (by omega) wr b cp hblt hcell
    clear ho hbl hperm hok hl hnil hcell
    obtain ⟨L, hL⟩ : ∃ L, L = l.length := ⟨_, rfl⟩
    rw [← hL] at HS HLE ⊢
    clear hL
    go_wp2_with (go_at_call 54; refine HS.out.mono ?_; rintro e w4 ⟨rfl, hc4, ch4⟩)
    go_ret
    refine ⟨.slice (some ⟨b, 0, none⟩) L cp, rfl, ⟨some ⟨b, 0, none⟩, cp, by rw [HLE.out], Or.inr ⟨b, rfl, hBb, hc4⟩⟩, HBL.out.trans (ch4.below HBw.out fun k hk e => ?_)⟩
    omega
end Go.Proofs.YthgidfoidbgnaaaDoor

namespace Go.Proofs.YthgidfoidbgnaaaDoor
open Go.RowKit Go.Maps

/-- what is said of the i-th write -/
def bootK (keep : List Int) (i : Nat) : Int := if keep.length = 0 then 0 else keep.getD (i % keep.length) 0
/-- the devices and the tapes that are ended, behind one more write -/
def bootStep (m : Pl) (keep : List Int) (st : (Nat → List (List Nat)) × (Nat → Bool)) (i : Nat) (x : Wr) : (Nat → List (List Nat)) × (Nat → Bool) :=
 if st.2 x.dev = true then st
 else (upd st.1 x.dev (settled (m.tape x.dev) (st.1 x.dev) x.place x.b (bootK keep i)), fun d => if d = x.dev then !goesOn (m.tape x.dev) (bootK keep i) else st.2 d)
def bootTo (m : Pl) (keep : List Int) : Nat → (Nat → List (List Nat)) × (Nat → Bool)
 | 0 => (m.fl, fun _ => false)
 | n + 1 => match m.wts[n]? with
  | some x => bootStep m keep (bootTo m keep n) n x
  | none => bootTo m keep n
def Pl.boot (m : Pl) (keep : List Int) : Pl := { m with fl := (bootTo m keep m.wts.length).1, wts := [], on := true, fuse := -1 }
theorem bootTo_succ (m : Pl) (keep : List Int) (n : Nat) (x : Wr) (h : m.wts[n]? = some x) : bootTo m keep (n + 1) = bootStep m keep (bootTo m keep n) n x := by
 rw [bootTo, h]

def Pl.withFl (m : Pl) (fl : Nat → List (List Nat)) : Pl := { m with fl := fl }

/-- numbers handed in, none of them in a block of the plant's -/
def KeepIn (w : World) (c : Nat → Colour) (t : Nat) (v : Value) (ks : List Int) : Prop :=
 ∃ p cap, v = .slice p ks.length cap ∧ ks.length ≤ cap ∧ ks.length < 4611686018427387904 ∧ (ks = [] ∨ ∃ b off, p = some ⟨b, off, none⟩ ∧ (c b).1 ≠ t ∧ b < w.heap.size ∧ ∀ j, j < ks.length → w.cell? ⟨b, off + j, none⟩ = some (.int .i64 (ks.getD j 0)))

/-- a tape that has not ended takes the next of its blocks -/
theorem boot_place {m : Pl} (h : m.WF) (keep : List Int) : ∀ n, n ≤ m.wts.length → ∀ i, i < m.n →
  (∀ s ∈ (bootTo m keep n).1 i, Sec s) ∧ (m.tape i = false → ((bootTo m keep n).1 i).length = m.size i) ∧
  (m.tape i = true → (bootTo m keep n).2 i = false → ((bootTo m keep n).1 i).length = (m.fl i).length + ((m.wts.take n).filter fun x => x.dev == i).length) ∧
  (m.tape i = true → ((bootTo m keep n).1 i).length ≤ (m.fl i).length + ((m.wts.take n).filter fun x => x.dev == i).length)
 | 0, _, i, hi => by
  refine ⟨h.secs i, fun ht => h.disk i hi ht, fun _ _ => by simp [bootTo], fun _ => by simp [bootTo]⟩
 | n + 1, hn, i, hi => by
  obtain ⟨x, hx⟩ : ∃ x, m.wts[n]? = some x := ⟨_, List.getElem?_eq_getElem (by omega)⟩
  obtain ⟨h1, h2, h3, h4⟩ := boot_place h keep n (by omega) i hi
  rw [bootTo_succ m keep n x hx, take_next _ n x hx, List.filter_append]
  have hxs : Sec x.b := h.wsec x (List.mem_of_getElem? hx)
  unfold bootStep
  by_cases he : (bootTo m keep n).2 x.dev = true
  ·rw [if_pos he]
   refine ⟨h1, h2, fun ht hee => ?_, fun ht => ?_⟩
   ·have hne : x.dev ≠ i := fun e => by rw [e, hee] at he; cases he
    have := h3 ht hee
    simp [hne, this]
   ·have := h4 ht
    simp
    omega
  ·rw [if_neg he]
   by_cases hd : i = x.dev
   ·subst hd
    have hu : upd (bootTo m keep n).1 x.dev (settled (m.tape x.dev) ((bootTo m keep n).1 x.dev) x.place x.b (bootK keep n)) x.dev = settled (m.tape x.dev) ((bootTo m keep n).1 x.dev) x.place x.b (bootK keep n) := by simp [upd]
    simp only [hu]
    have hlay : ∀ b, Sec b → ∀ s ∈ lay (m.tape x.dev) ((bootTo m keep n).1 x.dev) x.place b, Sec s := fun b hb s hs => by
     unfold lay at hs
     split at hs
     ·rcases List.mem_append.1 hs with hs | hs
      ·exact h1 s hs
      ·rw [List.mem_singleton.1 hs]
       exact hb
     ·rcases List.mem_or_eq_of_mem_set hs with hs | hs
      ·exact h1 s hs
      ·rw [hs]
       exact hb
    refine ⟨fun s hs => ?_, fun ht => ?_, fun ht hee => ?_, fun ht => ?_⟩
    ·unfold settled at hs
     split at hs
     ·exact hlay _ hxs s hs
     ·split at hs
      ·exact hlay _ (torn_sec hxs) s hs
      ·exact h1 s hs
    ·unfold settled
     rw [ht]
     simp only [Bool.false_eq_true, false_and, if_false]
     split
     ·rw [lay_length]
      simpa using h2 ht
     ·exact h2 ht
    ·have hee' : goesOn (m.tape x.dev) (bootK keep n) = true := by simpa using hee
     have hodd : bootK keep n % 2 = 1 := by
      unfold goesOn at hee'
      rw [ht] at hee'
      simpa using hee'
     unfold settled
     rw [if_pos hodd, lay_length, ht, h3 ht (by simpa using he)]
     simp
     omega
    ·have h4' := h4 ht
     have hle : (settled (m.tape x.dev) ((bootTo m keep n).1 x.dev) x.place x.b (bootK keep n)).length ≤ ((bootTo m keep n).1 x.dev).length + 1 := by
      unfold settled
      rw [ht]
      split
      ·rw [lay_length]; simp
      ·split
       ·rw [lay_length]; simp
       ·omega
     simp
     omega
   ·have hu : upd (bootTo m keep n).1 x.dev (settled (m.tape x.dev) ((bootTo m keep n).1 x.dev) x.place x.b (bootK keep n)) i = (bootTo m keep n).1 i := by simp [upd, hd]
    simp only [hu, if_neg hd]
    have hf : (List.filter (fun x => x.dev == i) [x]).length = 0 := by simp [Ne.symm hd]
    refine ⟨h1, h2, fun ht hee => ?_, fun ht => ?_⟩
    ·rw [h3 ht hee, List.length_append, hf]
     omega
    ·rw [List.length_append, hf]
     exact h4 ht
end Go.Proofs.YthgidfoidbgnaaaDoor

/- The walks of device.waitNoMore, Plant.Flush. The walk of device.settle. The library's functions at the program's own types: their bodies are the ones that the shelf's contracts were proved of. slices.SortFunc at writes with their devices: they come in the order of their steps. The walk of Plant.allWaiting: all writes that wait, in their one order. The walk of Plant.Boot. -/
import Derived.Test.YtjnhhkfknlkfeaaDoorV03
import Derived.Laws.BitsLemmas
import Derived.Test.YtjnhhkfknlkfeaaDoorProg
import Derived.Shelf.SlSortCmp.WholeK
import Derived.Shelf.SlSortCmp.NoneTotal
import Derived.Shelf.SlGeneric
import Derived.Ground.SlsfProg
namespace Go.Proofs.YtjnhhkfknlkfeaaDoor
open Go.RowKit Go.Maps

theorem lay_length (tape : Bool) (fl : List (List Nat)) (p : Nat) (b : List Nat) : (lay tape fl p b).length = if tape then fl.length + 1 else fl.length := by
  unfold lay
  cases tape <;> simp
theorem layAll_snoc (tape : Bool) (fl : List (List Nat)) (l : List Wr) (x : Wr) : layAll tape fl (l ++ [x]) = lay tape (layAll tape fl l) x.place x.b := by simp [layAll]
theorem layAll_length (tape : Bool) (fl : List (List Nat)) (l : List Wr) : (layAll tape fl l).length = if tape then fl.length + l.length else fl.length := by
  induction l generalizing fl with
  | nil => cases tape <;> simp [layAll]
  | cons x l ih =>
    have : layAll tape fl (x :: l) = layAll tape (lay tape fl x.place x.b) l := rfl
    rw [this, ih, lay_length]
    cases tape
    · simp
    · simp; omega
theorem take_next (l : List Wr) (n : Nat) (x : Wr) (h : l[n]? = some x) : l.take (n + 1) = l.take n ++ [x] := by
  obtain ⟨hn, rfl⟩ := List.getElem?_eq_some_iff.1 h
  exact List.take_succ_eq_append_getElem hn
/-- a write is laid down -/
theorem FlIn.lay {w' : World} {b : Nat} {tape : Bool} {fl : List (List Nat)} {f : Nat → Option (List Nat)} {n p : Nat} {s : List Nat} (hf : ∀ q, q < fl.length → (f q).getD zeros = fl.getD q zeros) (hft : tape = true → n = fl.length ∧ ∀ q, (f q).isSome = decide (q < fl.length))
    (hp : if tape then p = fl.length else p < fl.length) (hm : MapAt secs w' b (if (f p).isSome then n else n + 1) (fun q => if q = p then some s else f q)) : FlIn w' b tape (Go.Proofs.YtjnhhkfknlkfeaaDoor.lay tape fl p s) := by
  refine ⟨_, _, hm, fun q hq => ?_, fun ht => ?_⟩
  · rw [lay_length] at hq
    cases tape with
    | true =>
      simp only [if_true] at hp hq
      subst hp
      show (if q = fl.length then some s else f q).getD zeros = (fl ++ [s]).getD q zeros
      by_cases e : q = fl.length
      · simp [e]
      · rw [if_neg e, hf q (by omega)]
        simp [List.getElem?_append_left (show q < fl.length by omega)]
    | false =>
      simp only [Bool.false_eq_true, if_false] at hp hq
      show (if q = p then some s else f q).getD zeros = (fl.set p s).getD q zeros
      by_cases e : q = p
      · subst e
        simp [hp]
      · rw [if_neg e, hf q hq]
        simp [List.getElem?_set_ne (Ne.symm e)]
  · subst ht
    simp only [if_true] at hp
    obtain ⟨hn, his⟩ := hft rfl
    have hpf : (f p).isSome = false := by rw [his p, hp]; simp
    refine ⟨by rw [hpf, lay_length]; simp [hn], fun q => ?_⟩
    rw [lay_length]
    by_cases e : q = p
    · rw [if_pos e, e, hp]
      simp
    · rw [if_neg e, his q]
      simp only [if_true]
      congr 1
      simp only [eq_iff_iff]
      omega
theorem wpList_makeMap {w : World} {ops : Array Oper} {rest : List Oper} {o : Oper} {a : Act} {Q : Exit → Act → World → Prop} {t : Nat} (hgd : o.guard = none) (ho : o.op = .makeMap t none) (v : Value) (w' : World) (hrun : (Instr.makeMap t none).run Tryd.prog w = .ok v w')
    (h : wpList Tryd.prog ops Q rest (a.put o.dst v) w') : wpList Tryd.prog ops Q (o :: rest) a w :=
  wpList_value hgd v w' (by simp [execOp, ho, hrun]) h
/-- a device, its blocks named -/
def DevAt (w : World) (c : Nat → Colour) (k : Colour) (g bm bl : Nat) (v : Value) (tape : Bool) (size : Nat) (fl : List (List Nat)) (wt : List Wr) : Prop :=
  Row w g 106 [.bool tape, .int .i64 (size : Nat), .map (some bm), v, .map (some bl)] ∧ c g = k ∧ c bm = k ∧ c bl = k ∧ bm ≠ bl ∧ FlIn w bm tape fl ∧ WtIn w c k v wt ∧ LtIn w bl wt

set_option maxHeartbeats 400000 in
set_option maxRecDepth 100000 in
theorem noMore_any {w : World} {c : Nat → Colour} {k : Colour} {g : Nat} {tape : Bool} {size : Nat} {fl : List (List Nat)} {wt : List Wr} (h : DevIn w c k g tape size fl wt) :
    Calls Tryd.prog 31 #[ptr g] w fun e w' => e = .returned noResult ∧ ∃ c', (∀ b, b < w.heap.size → c' b = c b) ∧ DevIn w' c' k g tape size fl [] ∧ Ch (fun b => c b = k) w w' := by
  obtain ⟨bm, bl, v, hr, cg, cm, cl, hne, hfl, hwi, hlt⟩ := h
  obtain ⟨w1, hw1⟩ : ∃ w1, w1 = w.alloc (.map #[] 0) := ⟨_, rfl⟩
  obtain ⟨q, hq⟩ : ∃ q, q = w.heap.size := ⟨_, rfl⟩
  have hmm : (Instr.makeMap 88 none).run Tryd.prog w = .ok (.map (some q)) w1 := by rw [hw1, hq]; exact run_makeMap 88 w
  have r1 : Row w1 g 106 [.bool tape, .int .i64 (size : Nat), .map (some bm), v, .map (some bl)] := by rw [hw1]; exact hr.alloc _
  have m1 : MapAt ints w1 q 0 (fun _ => none) := by rw [hw1, hq]; exact MapAt.made ints w
  have f1 : FlIn w1 bm tape fl := hfl.kept (by rw [hw1]; exact Below.heap_alloc _ _ _ hfl.lt)
  have s1 : w1.heap.size = q + 1 := by rw [hw1, hq]; simp
  have ch1 : Ch (fun b => c b = k) w w1 := by rw [hw1]; exact (Ch.refl _ w).alloc _
  have hgq : g < q := by rw [hq]; exact hr.lt
  have hmq : bm < q := by rw [hq]; exact hfl.lt
  have hmg : bm ≠ g := by
    obtain ⟨f, n, hm, _⟩ := f1
    exact hm.ne_row r1
  clear hwi hlt hr hfl
  go_enter Tryd.func31, Tryd.ntmps31
  go_upto_region 0 with fail
  refine wp_region_lit ?_
  refine wpList_move (.tmp 0) rfl rfl (ptr g) rfl ?_
  refine wpList_move (.tmp 0) rfl rfl (ptr g) rfl ?_
  simp only [Act.put, aS, aC, aZ]
  refine wpList_makeMap rfl rfl _ _ hmm ?_
  refine wpList_nilCheck (.tmp 2) rfl rfl _ rfl ?_
  simp only [Act.put, aS, aC, aZ]
  refine wpList_field f76_3 (.tmp 5) rfl rfl g 0 rfl ?_
  simp only [Act.put, aS, aC, aZ]
  refine wpList_store1 size73 (.tmp 6) (.const (.slice none 0 0)) rfl rfl rfl g (0 + 3) 106 rfl (.slice none 0 0) _ rfl rfl rfl r1 (by simp) ?_
  obtain ⟨w2, hw2⟩ : ∃ w2, w2 = w1.setRow g (([.bool tape, .int .i64 (size : Nat), .map (some bm), v, .map (some bl)] : List Value).set (0 + 3) (.slice none 0 0)).toArray := ⟨_, rfl⟩
  rw [← hw2]
  have r2 : Row w2 g 106 [.bool tape, .int .i64 (size : Nat), .map (some bm), .slice none 0 0, .map (some bl)] := by rw [hw2]; exact r1.setRow _
  have k2 : ∀ b, b ≠ g → w2.heap[b]? = w1.heap[b]? := fun b hb => by rw [hw2]; exact Go.setRow_other w1 g b _ hb
  have ch2 : Ch (fun b => c b = k) w w2 := by rw [hw2]; exact ch1.setRow (Or.inl cg) _
  clear hw2 r1 ch1
  refine wpList_nilCheck (.tmp 3) rfl rfl _ rfl ?_
  simp only [Act.put, aS, aC, aZ]
  refine wpList_field f76_4 (.tmp 7) rfl rfl g 0 rfl ?_
  simp only [Act.put, aS, aC, aZ]
  refine wpList_store1 size74 (.tmp 8) (.tmp 4) rfl rfl rfl g (0 + 4) 106 rfl (.map (some q)) _ rfl rfl rfl r2 (by simp) ?_
  obtain ⟨w3, hw3⟩ : ∃ w3, w3 = w2.setRow g (([.bool tape, .int .i64 (size : Nat), .map (some bm), .slice none 0 0, .map (some bl)] : List Value).set (0 + 4) (.map (some q))).toArray := ⟨_, rfl⟩
  rw [← hw3]
  have r3 : Row w3 g 106 [.bool tape, .int .i64 (size : Nat), .map (some bm), .slice none 0 0, .map (some q)] := by rw [hw3]; exact r2.setRow _
  have k3 : ∀ b, b ≠ g → w3.heap[b]? = w1.heap[b]? := fun b hb => by rw [hw3]; exact (Go.setRow_other w2 g b _ hb).trans (k2 b hb)
  have ch3 : Ch (fun b => c b = k) w w3 := by rw [hw3]; exact ch2.setRow (Or.inl cg) _
  have HE : Hid (∃ c', (∀ b, b < w.heap.size → c' b = c b) ∧ DevIn w3 c' k g tape size fl [] ∧ Ch (fun b => c b = k) w w3) := by
    refine ⟨paint c q k, fun b hb => paint_old c _ k b (by omega), ⟨bm, q, _, r3, ?_, ?_, ?_, by omega, f1.kept (k3 bm hmg), ⟨⟨rfl, Or.inl ⟨rfl, rfl⟩⟩, fun b hb => by cases hb⟩, ⟨0, ?_⟩⟩, ch3⟩
    · rw [paint_old c q k g hgq, cg]
    · rw [paint_old c q k bm hmq, cm]
    · exact paint_new c q k q (Nat.le_refl _)
    · exact m1.kept (k3 q (by omega))
  refine wpList_nil ?_
  clear hw3 r3 k3 ch3 k2 ch2 r2 f1 m1 s1
  go_wp2
  go_end0
  exact ⟨rfl, HE.out⟩

section
variable {w w' : World} {c : Nat → Colour} {k : Colour} {g bm bl : Nat} {v : Value} {tape : Bool} {size : Nat} {fl : List (List Nat)} {wt : List Wr}
theorem DevAt.devIn (h : DevAt w c k g bm bl v tape size fl wt) : DevIn w c k g tape size fl wt := ⟨bm, bl, v, h⟩
theorem DevAt.kept {c' : Nat → Colour} (h : DevAt w c k g bm bl v tape size fl wt) (hb : ∀ b, b < w.heap.size → c b = k → w'.heap[b]? = w.heap[b]? ∧ c' b = k) : DevAt w' c' k g bm bl v tape size fl wt := by
  obtain ⟨hr, hg, hm, hl, hne, h1, h2, h3⟩ := h
  refine ⟨?_, (hb g hr.lt hg).2, (hb bm h1.lt hm).2, (hb bl h3.lt hl).2, hne, h1.kept (hb bm h1.lt hm).1, h2.kept hb, h3.kept (hb bl h3.lt hl).1⟩
  unfold Row
  rw [(hb g hr.lt hg).1]
  exact hr
theorem DevAt.below (h : DevAt w c k g bm bl v tape size fl wt) (hb : Below w.heap.size w w') : DevAt w' c k g bm bl v tape size fl wt := h.kept fun b hlt hk => ⟨hb.block b hlt, hk⟩
/-- the flushed map alone has turned -/
theorem DevAt.flushed {fl' : List (List Nat)} (h : DevAt w c k g bm bl v tape size fl wt) (ht : w.mapTurned w' bm) (hf : FlIn w' bm tape fl') : DevAt w' c k g bm bl v tape size fl' wt := by
  obtain ⟨hr, hg, hm, hl, hne, h1, h2, h3⟩ := h
  have hb : ∀ b, b < w.heap.size → b ≠ bm → w'.heap[b]? = w.heap[b]? := fun b hlt hne => ht.grown.block b hlt (by simpa using hne)
  have hmg : bm ≠ g := by
    obtain ⟨f, n, hm, _⟩ := h1
    exact hm.ne_row hr
  refine ⟨?_, hg, hm, hl, hne, hf, ⟨ownsRow_kept h2.1 fun b hob => ?_, h2.2⟩, h3.kept (hb bl h3.lt (Ne.symm hne))⟩
  · unfold Row
    rw [hb g hr.lt (Ne.symm hmg)]
    exact hr
  · obtain ⟨hlt, cur, hc⟩ := ownBlock_lt h2.1 hob
    refine hb b hlt ?_
    rintro rfl
    obtain ⟨f, n, ⟨D, ⟨es, clock, h1, _⟩, _⟩, _⟩ := h1
    rw [h1] at hc
    cases hc
end
/-- where the next write of a row goes -/
def PlaceOk (tape : Bool) (fl : List (List Nat)) (p : Nat) : Prop := if tape then p = fl.length else p < fl.length
theorem Pl.placeOk {m : Pl} (h : m.WF) (i : Nat) (hi : i < m.n) (n : Nat) (x : Wr) (hx : (m.wt i)[n]? = some x) : PlaceOk (m.tape i) (layAll (m.tape i) (m.fl i) ((m.wt i).take n)) x.place := by
  have hn := (List.getElem?_eq_some_iff.1 hx).1
  have hm := Pl.wt_mem (List.mem_of_getElem? hx)
  unfold PlaceOk
  rw [layAll_length]
  by_cases ht : m.tape i = true
  · rw [ht]
    simp only [if_true, List.length_take]
    rw [(h.tapes i hi ht).2 n x hx]
    omega
  · have ht' : m.tape i = false := by simpa using ht
    rw [ht']
    simp only [Bool.false_eq_true, if_false]
    have := (h.wdev x hm.1).2.1
    rw [hm.2] at this
    rw [h.disk i hi ht']
    exact this

theorem post_flush {w w1 w2 : World} {c c' : Nat → Colour} {t g db cap : Nat} {gs : Nat → Nat} {m : Pl} (h : PlantAt w c t g db cap gs m) (hc : Ch (· = g) w w1) (h1 : PlantAt w1 c t g db cap gs m.step) (i : Nat)
    (hcc : ∀ b, b < w1.heap.size → c' b = c b) (hd : DevIn w2 c' (t, i + 1) (gs i) (m.step.tape i) (m.step.size i) (layAll (m.step.tape i) (m.step.fl i) (m.step.wt i)) []) (hc2 : Ch (fun b => c b = (t, i + 1)) w1 w2) : Post w c t g db cap gs (m.step.flushed i) w2 := by
  refine Post.device (m1 := m.step) (m2 := m.step.flushed i) h1 (hc.mono fun b _ e => by rw [e, h.cg]) i ?_ (fun j hj => ⟨?_, ?_⟩) ?_ c' hcc hc2 ?_
  · unfold Pl.flushed; rfl
  · unfold Pl.flushed upd; simp [hj]
  · rw [Pl.wt_flushed, if_neg hj]
  · unfold Pl.flushed; exact ⟨rfl, rfl, rfl, rfl⟩
  · rw [Pl.wt_flushed, if_pos rfl]
    have e : (m.step.flushed i).fl i = layAll (m.step.tape i) (m.step.fl i) (m.step.wt i) := by unfold Pl.flushed upd; simp
    rw [e]
    exact hd

set_option maxHeartbeats 600000 in
set_option maxRecDepth 100000 in
theorem flush_any {w : World} {c : Nat → Colour} {t g db cap : Nat} {gs : Nat → Nat} {m : Pl} (h : PlantAt w c t g db cap gs m) (hwf : m.WF) (hst : m.steps < 1099511627776) (d : Int) :
    Calls Tryd.prog 61 #[ptr g, .int .i64 d] w fun e w' => e = .returned (.int .i64 (m.flush d).1) ∧ Post w c t g db cap gs (m.flush d).2 w' := by
  obtain ⟨r, hr⟩ : ∃ r, r = m.flush d := ⟨_, rfl⟩
  rw [← hr]
  have c1 := h.c1
  have HP : Hid (PlantAt w c t g db cap gs m) := h
  have HR : Hid (r = m.flush d) := hr
  clear h hr
  by_cases hon : m.on = false
  · have er : r = (2, m) := by rw [HR.out]; unfold Pl.flush; rw [if_pos hon]
    rw [hon] at c1
    subst er
    clear HR
    go_enter Tryd.func61, Tryd.ntmps61
    go_wp2_with (go_at_call 47; refine (device_any HP.out d).mono ?_; rintro e w' ⟨⟨vd, rfl, _, _⟩, rfl⟩)
    go_ret
    exact ⟨rfl, Post.refl HP.out⟩
  · have hon' : m.on = true := by simpa using hon
    rw [hon'] at c1
    by_cases hd : m.has d
    · obtain ⟨i, rfl⟩ : ∃ i : Nat, d = (i : Int) := ⟨d.toNat, by have := hd.1; omega⟩
      have hi : i < m.n := by have := hd.2; omega
      by_cases hf : m.fuse = 0
      · have er : r = (2, m.step) := by rw [HR.out]; unfold Pl.flush; rw [if_neg hon, if_neg (by simp [hd]), if_pos hf]
        subst er
        have hok : m.stepOk = false := by simp [Pl.stepOk, hf]
        clear HR
        go_enter Tryd.func61, Tryd.ntmps61
        go_wp2_with (first | (go_at_call 47; refine (device_at HP.out _ i rfl hi).mono ?_; rintro e wd ⟨rfl, rfl⟩) | (go_at_call 72; refine (step_any HP.out (by omega) hwf.fuse1).mono ?_; rw [hok]; rintro e w1 ⟨rfl, h1, hc1⟩))
        go_ret
        exact ⟨rfl, Post.stepped HP.out h1 hc1⟩
      · have er : r = (0, m.step.flushed i) := by rw [HR.out]; unfold Pl.flush; rw [if_neg hon, if_neg (by simp [hd]), if_neg hf]; simp
        subst er
        have hok : m.stepOk = true := by simp [Pl.stepOk, hf]
        clear HR
        go_enter Tryd.func61, Tryd.ntmps61
        go_upto_region 8 with (first | (go_at_call 47; refine (device_at HP.out _ i rfl hi).mono ?_; rintro e wd ⟨rfl, rfl⟩) | (go_at_call 72; refine (step_any HP.out (by omega) hwf.fuse1).mono ?_; rw [hok]; rintro e w1 ⟨rfl, h1, hc1⟩))
        have HC : Hid (Ch (· = g) wd w1) := hc1
        have H1 : Hid (PlantAt w1 c t g db cap gs m.step) := h1
        have hi1 : i < m.step.n := by rw [m.step_n]; exact hi
        have HWF : Hid m.step.WF := Pl.step_wf hwf
        obtain ⟨bm, bl, v, hdev⟩ := h1.dev i hi1
        obtain ⟨pv, cv, hv⟩ := WtIn.shape hdev.2.2.2.2.2.2.1
        subst hv
        obtain ⟨L, hL⟩ : ∃ L, L = (m.step.wt i).length := ⟨_, rfl⟩
        rw [← hL] at hdev
        have HL : Hid (L = (m.step.wt i).length) := hL
        have hwl : L < 1099511627776 := by
          have := m.wt_len i
          have := hwf.count
          rw [hL, m.step_wt]
          omega
        have HD : Hid (DevAt w1 c (t, i + 1) (gs i) bm bl (.slice pv L cv) (m.step.tape i) (m.step.size i) (m.step.fl i) (m.step.wt i)) := hdev
        have c3 := hdev.1.at 3 _ rfl
        clear hc1 h1 hdev hL c1
        go_wp2
        go_loopw [29] (fun ix W => ∃ n : Nat, n ≤ L ∧ ix = .int .i64 n ∧ DevAt W c (t, i + 1) (gs i) bm bl (.slice pv L cv) (m.step.tape i) (m.step.size i) (layAll (m.step.tape i) (m.step.fl i) ((m.step.wt i).take n)) (m.step.wt i) ∧ Ch (fun b => c b = (t, i + 1)) w1 W) (fun ix _ => L - (intOf ix).toNat)
        case atStart => exact ⟨0, Nat.zero_le _, rfl, HD.out, Ch.refl _ _⟩
        case round =>
          obtain ⟨n, hn, rfl, hdv, hch⟩ := hrel
          by_cases hlt : n < L
          · obtain ⟨x, hx⟩ : ∃ x, (m.step.wt i)[n]? = some x := ⟨_, List.getElem?_eq_getElem (by rw [← HL.out]; exact hlt)⟩
            have hmem := Pl.wt_mem (List.mem_of_getElem? hx)
            have hxs : Sec x.b := HWF.out.wsec x hmem.1
            have hxl : x.b.length = 64 := hxs.1
            have hp4 : x.place < 4096 := by
              have h1 := HWF.out.wdev x hmem.1
              have h2 := HWF.out.sizes x.dev h1.1
              omega
            obtain ⟨b, cv', hv, _, hcl⟩ := hdv.2.2.2.2.2.2.1.cells (fun y hy => (HWF.out.wsec y (Pl.wt_mem hy).1).1) (by intro e; rw [e] at hx; simp at hx)
            injection hv with hv1 hv2 hv3
            subst hv1
            have hcx : ∀ j u, (wrCells x)[j]? = some u → wr.cell? ⟨b, 0 + n * 66 + j, none⟩ = some u := fun j u hu => by
              rw [Nat.zero_add]
              exact hcl n x hx j u hu
            have HPL : Hid (PlaceOk (m.step.tape i) (layAll (m.step.tape i) (m.step.fl i) ((m.step.wt i).take n)) x.place) := Pl.placeOk HWF.out i hi1 n x hx
            have HTK : Hid (layAll (m.step.tape i) (m.step.fl i) ((m.step.wt i).take (n + 1)) = lay (m.step.tape i) (layAll (m.step.tape i) (m.step.fl i) ((m.step.wt i).take n)) x.place x.b) := by
              rw [take_next _ n x hx, layAll_snoc]
              exact rfl
            have HDV : Hid (DevAt wr c (t, i + 1) (gs i) bm bl (.slice (some ⟨b, 0, none⟩) L cv) (m.step.tape i) (m.step.size i) (layAll (m.step.tape i) (m.step.fl i) ((m.step.wt i).take n)) (m.step.wt i)) := hdv
            have HCH : Hid (Ch (fun b => c b = (t, i + 1)) w1 wr) := hch
            have tlt : decide ((n : Int) < (L : Int)) = true := by simp; omega
            clear hdv hch hcl hx hv2 hv3 c3
            go_upto_region 10 with fail
            refine wp_region_lit ?_
            refine wpList_indexAddr und73 size87 (.tmp 27) (.tmp 29) rfl rfl b 0 L cv n rfl rfl hlt ?_
            simp only [Act.put, aS, aC, aZ]
            refine wpList_load agg87 (.tmp 31) rfl rfl b (0 + n * 66) rfl (wrCells x) (wrCells_length x hxl) hcx ?_
            simp only [Act.put, aS, aC, aZ]
            refine wpList_alloc_store agg87 _ zero87 rfl rfl rfl rfl rfl (.tmp 32) rfl (wrCells x) (wrCells_length x hxl) rfl (wrCells_one x) (fun _ => rfl) (fun _ => rfl) ?_
            intro w2 r2 s2 b2
            refine wpList_nil ?_
            simp only [Act.put, aS, aC, aZ]
            obtain ⟨q, hq⟩ : ∃ q, q = wr.heap.size := ⟨_, rfl⟩
            rw [← hq] at r2 ⊢
            have HDV2 : Hid (DevAt w2 c (t, i + 1) (gs i) bm bl (.slice (some ⟨b, 0, none⟩) L cv) (m.step.tape i) (m.step.size i) (layAll (m.step.tape i) (m.step.fl i) ((m.step.wt i).take n)) (m.step.wt i)) := HDV.out.below b2
            have HCH2 : Hid (Ch (fun b => c b = (t, i + 1)) w1 w2) := HCH.out.trans (Ch.of_below b2)
            have d2 := HDV2.out.1.at 2 _ rfl
            have q1 := r2.at 1 (.int .i64 (x.place : Nat)) rfl
            have hcb : ∀ j u, (bcells x.b)[j]? = some u → w2.cell? ⟨q, 0 + 2 + j, none⟩ = some u := fun j u hu => by
              rw [show 0 + 2 + j = j + 2 by omega]
              exact r2.at (j + 2) u (by simpa [wrCells] using hu)
            obtain ⟨pl, hpl⟩ : ∃ pl, pl = x.place := ⟨_, rfl⟩
            rw [← hpl] at q1 hp4
            have HPP : Hid (pl = x.place) := hpl
            clear r2 s2 b2 hq hcx HDV HCH hpl
            go_upto_region 11 with fail
            refine wp_region_head_drew 8 (by kernel_rfl) (by kernel_rfl) ?_
            simp only [List.take_succ_cons, List.take_zero, List.drop_succ_cons, List.drop_zero]
            iterate 7 (go_big_quiet_step (fail))
            refine wpQuiet_load agg84 (.tmp 39) rfl rfl q (0 + 2) rfl (bcells x.b) (by rw [bcells_length, hxl]) (fun W hW => by obtain ⟨n, rfl⟩ := hW; exact hcb) ?_
            refine wpQuiet_nil ?_
            intro _ hw'
            obtain ⟨nq, hw''⟩ := hw'
            subst hw''
            simp only [Act.put, aS, aC, aZ]
            obtain ⟨f, nf, hm, hff, hft⟩ := HDV2.out.2.2.2.2.2.1
            refine wpList_putMap0 (hm.drewN nq) (.tmp 36) (.tmp 38) (.tmp 40) 103 74 rfl rfl rfl Tryd.underlying103 pl hp4 x.b hxs rfl rfl rfl ?_
            intro w3 hm3 t3
            refine wpList_nil ?_
            have HDV3 : Hid (DevAt w3 c (t, i + 1) (gs i) bm bl (.slice (some ⟨b, 0, none⟩) L cv) (m.step.tape i) (m.step.size i) (layAll (m.step.tape i) (m.step.fl i) ((m.step.wt i).take (n + 1))) (m.step.wt i)) := by
              rw [HTK.out]
              refine (HDV2.out.kept (w' := w2.drewN nq) fun _ _ hk => ⟨rfl, hk⟩).flushed t3 ?_
              rw [← HPP.out]
              exact FlIn.lay hff hft (by rw [HPP.out]; exact HPL.out) hm3
            have HCH3 : Hid (Ch (fun b => c b = (t, i + 1)) w1 w3) := (HCH2.out.drewN nq).grown t3.grown (fun b hb => by cases hb; exact Or.inl HDV2.out.2.2.1)
            clear hm hff hft hm3 t3 hcb q1 d2
            go_wp2
            exact ⟨⟨n + 1, by omega, by go_num, HDV3.out, HCH3.out⟩, by simp [intOf]; omega⟩
          · have e : n = L := by omega
            subst e
            have HDV : Hid (DevAt wr c (t, i + 1) (gs i) bm bl (.slice pv n cv) (m.step.tape i) (m.step.size i) (layAll (m.step.tape i) (m.step.fl i) (m.step.wt i)) (m.step.wt i)) := by
              have := hdv
              rw [HL.out, List.take_length, ← HL.out] at this
              exact this
            have HCH : Hid (Ch (fun b => c b = (t, i + 1)) w1 wr) := hch
            have tlt : decide ((n : Int) < (n : Int)) = false := by simp
            clear hdv hch c3
            go_wp2_with (go_at_call 31; refine (noMore_any HDV.out.devIn).mono ?_; rintro e w4 ⟨rfl, c', hcc, hd4, hc4⟩)
            go_ret
            exact ⟨rfl, post_flush HP.out HC.out H1.out i (fun b hb => hcc b (Nat.lt_of_lt_of_le hb HCH.out.size)) hd4 (HCH.out.trans hc4)⟩
    · have er : r = (31, m) := by rw [HR.out]; unfold Pl.flush; rw [if_neg hon, if_pos hd]
      subst er
      clear HR
      go_enter Tryd.func61, Tryd.ntmps61
      go_wp2_with (go_at_call 47; refine (device_no HP.out d hd).mono ?_; rintro e w' ⟨rfl, rfl⟩)
      go_ret
      exact ⟨rfl, Post.refl HP.out⟩
end Go.Proofs.YtjnhhkfknlkfeaaDoor

namespace Go.Proofs.YtjnhhkfknlkfeaaDoor
open Go.RowKit Go.Maps

/-- a block of which half was written -/
def torn (b : List Nat) : List Nat := b.take 32 ++ List.replicate 32 0
def goesOn (tape : Bool) (k : Int) : Bool := decide (k % 2 = 1) || !tape
def settled (tape : Bool) (fl : List (List Nat)) (p : Nat) (b : List Nat) (k : Int) : List (List Nat) :=
  if k % 2 = 1 then lay tape fl p b else if tape = true ∧ k % 4 = 2 then lay tape fl p (torn b) else fl

end Go.Proofs.YtjnhhkfknlkfeaaDoor

namespace Go.Proofs
open Go.Shelf
def Tryd.laySort_ren : Go.Shelf.Ren := ⟨fun | 6 => 54 | 15 => 70 | 14 => 69 | 28 => 89 | 29 => 90 | 20 => 81 | 21 => 82 | 22 => 83 | 23 => 84 | 24 => 85 | 25 => 86 | 26 => 87 | 27 => 88 | 46 => 95 | 47 => 96 | 48 => 97 | 49 => 98 | 50 => 99 | 57 => 100 | n => n, fun | 22 => 71 | 24 => 78 | 25 => 117 | 3 => 3 | 39 => 134 | 0 => 0 | 53 => 138 | 55 => 98 | 4 => 4 | 46 => 147 | 45 => 146 | 50 => 121 | 5 => 5 | 9 => 9 | 66 => 159 | 70 => 162 | 76 => 165 | 77 => 111 | n => n, fun | n => n⟩
end Go.Proofs

namespace Go.Proofs.YtjnhhkfknlkfeaaDoor
open Go.RowKit Go.Maps Go.Sort Go.Lib

/-- the cells of a write with its device's number -/
def dCells (x : Wr) : List Value := .int .i64 (x.dev : Nat) :: wrCells x
def dcells (l : List Wr) : List Value := l.flatMap dCells
/-- writes as they can be sorted -/
def WOk (x : Wr) : Prop := x.step < 4611686018427387904 ∧ x.b.length = 64
abbrev WS := { x : Wr // WOk x }
instance : Inhabited WS := ⟨⟨⟨0, 0, 0, List.replicate 64 0⟩, by decide, by simp⟩⟩
def encW (x : WS) : List Value := dCells x.1
def cfW (x y : WS) : Int := (x.1.step : Int) - (y.1.step : Int)
section
variable {w : World} {ops : Array Oper} {rest : List Oper} {o : Oper} {a : Act} {Q : Exit → Act → World → Prop}
end

end Go.Proofs.YtjnhhkfknlkfeaaDoor

namespace Go.Proofs.YtjnhhkfknlkfeaaDoor
open Go.RowKit Go.Maps Go.Sort Go.Lib

/-- the writes of the first i devices -/
def Pl.upto (m : Pl) (i : Nat) : List Wr := (List.range i).flatMap m.wt
section
variable {w w' : World} {c : Nat → Colour} {t g db cap : Nat} {gs : Nat → Nat} {m : Pl}
end
section
variable {w : World} {ops : Array Oper} {rest : List Oper} {o : Oper} {a : Act} {Q : Exit → Act → World → Prop}
end
theorem ownsRow_below {w w' : World} {B e n k : Nat} {v : Value} {xs : List Value} (h : w.ownsRow B e n v k xs) (hb : RowKit.Below w.heap.size w w') : w'.ownsRow B e n v k xs := by
  obtain ⟨hl, h⟩ := h
  refine ⟨hl, ?_⟩
  rcases h with ⟨rfl, h⟩ | ⟨g, cap, cur, rfl, h0, hg, h⟩
  · exact Or.inl ⟨rfl, h⟩
  · exact Or.inr ⟨g, cap, cur, rfl, h0, (hb.block g (Array.getElem?_eq_some_iff.1 hg).1).trans hg, h⟩
/-- all writes, as a slice of the call's own -/
def AllIn (W : World) (B : Nat) (v : Value) (l : List Wr) : Prop :=
  ∃ p cap, v = .slice p l.length cap ∧ (l = [] ∨ ∃ b, p = some ⟨b, 0, none⟩ ∧ B ≤ b ∧ ∀ j u, (dcells l)[j]? = some u → W.cell? ⟨b, j, none⟩ = some u)

end Go.Proofs.YtjnhhkfknlkfeaaDoor

namespace Go.Proofs.YtjnhhkfknlkfeaaDoor
open Go.RowKit Go.Maps

/-- what is said of the i-th write -/
def bootK (keep : List Int) (i : Nat) : Int := if keep.length = 0 then 0 else keep.getD (i % keep.length) 0
/-- the devices and the tapes that are ended, behind one more write -/
def bootStep (m : Pl) (keep : List Int) (st : (Nat → List (List Nat)) × (Nat → Bool)) (i : Nat) (x : Wr) : (Nat → List (List Nat)) × (Nat → Bool) :=
  if st.2 x.dev = true then st
  else (upd st.1 x.dev (settled (m.tape x.dev) (st.1 x.dev) x.place x.b (bootK keep i)), fun d => if d = x.dev then !goesOn (m.tape x.dev) (bootK keep i) else st.2 d)
def bootTo (m : Pl) (keep : List Int) : Nat → (Nat → List (List Nat)) × (Nat → Bool)
  | 0 => (m.fl, fun _ => false)
  | n + 1 => match m.wts[n]? with
    | some x => bootStep m keep (bootTo m keep n) n x
    | none => bootTo m keep n
def Pl.boot (m : Pl) (keep : List Int) : Pl := { m with fl := (bootTo m keep m.wts.length).1, wts := [], on := true, fuse := -1 }
theorem bootTo_succ (m : Pl) (keep : List Int) (n : Nat) (x : Wr) (h : m.wts[n]? = some x) : bootTo m keep (n + 1) = bootStep m keep (bootTo m keep n) n x := by
  rw [bootTo, h]

def Pl.withFl (m : Pl) (fl : Nat → List (List Nat)) : Pl := { m with fl := fl }

/-- numbers handed in, none of them in a block of the plant's -/
def KeepIn (w : World) (c : Nat → Colour) (t : Nat) (v : Value) (ks : List Int) : Prop :=
  ∃ p cap, v = .slice p ks.length cap ∧ ks.length ≤ cap ∧ ks.length < 4611686018427387904 ∧ (ks = [] ∨ ∃ b off, p = some ⟨b, off, none⟩ ∧ (c b).1 ≠ t ∧ b < w.heap.size ∧ ∀ j, j < ks.length → w.cell? ⟨b, off + j, none⟩ = some (.int .i64 (ks.getD j 0)))

end Go.Proofs.YtjnhhkfknlkfeaaDoor

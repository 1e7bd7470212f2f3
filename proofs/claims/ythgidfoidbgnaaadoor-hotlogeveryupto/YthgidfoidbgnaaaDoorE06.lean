/- The walks of sizesHold, newDevice, and of the small calls Fuse and Tick. The walk of plant.New. The walk of plant.New. The walks of the statements' own small functions: full, same. What holds of every plant holds behind every call; the calls, as a caller meets them. -/
import Derived.Test.YthgidfoidbgnaaaDoorE05
import Derived.Deep.RegionWith
import Derived.Laws.BytesArg
namespace Go.Proofs.YthgidfoidbgnaaaDoor
open Go.RowKit Go.Maps

/-- a slice of numbers -/
def IntsIn (w : World) (v : Value) (l : List Int) : Prop :=
 ∃ p cap, v = .slice p l.length cap ∧ l.length ≤ cap ∧ l.length < 4611686018427387904 ∧ (l = [] ∨ ∃ b off, p = some ⟨b, off, none⟩ ∧ ∀ j, j < l.length → w.cell? ⟨b, off + j, none⟩ = some (.int .i64 (l.getD j 0)))
theorem IntsIn.later {w wx : World} {v : Value} {l : List Int} (h : IntsIn w v l) (hb : Below w.heap.size w wx) : IntsIn wx v l := by
 obtain ⟨p, cap, rfl, h1, h2, h⟩ := h
 refine ⟨p, cap, rfl, h1, h2, ?_⟩
 rcases h with h | ⟨b, off, rfl, h⟩
 ·exact Or.inl h
 ·exact Or.inr ⟨b, off, rfl, fun j hj => cell_later hb (h j hj)⟩
def sizesOk (l : List Int) : Bool := l.all fun x => decide (1 ≤ x) && decide (x ≤ 4096)

set_option maxHeartbeats 400000 in
theorem sizes_any (w : World) (v : Value) (l : List Int) (hv : IntsIn w v l) : Calls Tryd.prog 56 #[v] w fun e w' => e = .returned (.bool (sizesOk l)) ∧ w' = w := by
 obtain ⟨p, cap, rfl, hc, hl, h⟩ := hv
 obtain ⟨L, hL⟩ : ∃ L, L = l.length := ⟨_, rfl⟩
 obtain ⟨y, hy⟩ : ∃ y, y = sizesOk l := ⟨_, rfl⟩
 rw [← hL] at hc hl ⊢
 rw [← hy]
 have HL : Hid (L = l.length) := hL
 have HY : Hid (y = sizesOk l) := hy
 have HH : Hid (l = [] ∨ ∃ b off, p = some ⟨b, off, none⟩ ∧ ∀ j, j < l.length → w.cell? ⟨b, off + j, none⟩ = some (.int .i64 (l.getD j 0))) := h
 clear h hL hy
 go_enter Tryd.func56, Tryd.ntmps56
 go_wp2
 go_loopw [7] (fun ix W => ∃ n : Nat, n ≤ L ∧ ix = .int .i64 n ∧ sizesOk (l.take n) = true ∧ W = w) (fun ix _ => L - (intOf ix).toNat)
 case atStart => exact ⟨0, Nat.zero_le _, rfl, rfl, rfl⟩
 case round =>
  obtain ⟨n, hn, rfl, hok, rfl⟩ := hrel
  by_cases hlt : n < L
  ·obtain ⟨b, off, hp, hcell⟩ : ∃ b off, p = some ⟨b, off, none⟩ ∧ ∀ j, j < l.length → wr.cell? ⟨b, off + j, none⟩ = some (.int .i64 (l.getD j 0)) := by
    rcases HH.out with h0 | h0
    ·have := HL.out
     rw [h0] at this
     simp at this
     omega
    ·exact h0
   subst hp
   obtain ⟨x, hx⟩ : ∃ x, x = l.getD n 0 := ⟨_, rfl⟩
   have cn : wr.cell? ⟨b, off + n, none⟩ = some (.int .i64 x) := by rw [hx]; exact hcell n (by rw [← HL.out]; exact hlt)
   have ht0 : sizesOk (l.take (n + 1)) = (decide (1 ≤ x) && decide (x ≤ 4096)) := by
    have hn' : n < l.length := by rw [← HL.out]; exact hlt
    rw [List.take_succ_eq_append_getElem hn']
    unfold sizesOk at hok ⊢
    rw [List.all_append, hok]
    have e : l[n] = x := by rw [hx]; simp [hn']
    simp [e]
   have HT : Hid (sizesOk (l.take (n + 1)) = (decide (1 ≤ x) && decide (x ≤ 4096))) := ht0
   clear hcell hx hok ht0
   by_cases h1 : x < 1
   ·have t1 : decide (x < 1) = true := by simpa using h1
    have hy : y = false := by
     rw [HY.out]
     have := HT.out
     rw [show decide (1 ≤ x) = false by simp; omega, Bool.false_and] at this
     unfold sizesOk at this ⊢
     rw [List.all_eq_false] at this ⊢
     obtain ⟨z, hz, hzz⟩ := this
     exact ⟨z, List.mem_of_mem_take hz, hzz⟩
    subst hy
    go_wp2
    go_ret
    exact ⟨rfl, rfl⟩
   ·have t1 : decide (x < 1) = false := by simpa using h1
    by_cases h2 : 4096 < x
    ·have t2 : decide (4096 < x) = true := by simpa using h2
     have hy : y = false := by
      rw [HY.out]
      have := HT.out
      rw [show decide (x ≤ 4096) = false by simp; omega, Bool.and_false] at this
      unfold sizesOk at this ⊢
      rw [List.all_eq_false] at this ⊢
      obtain ⟨z, hz, hzz⟩ := this
      exact ⟨z, List.mem_of_mem_take hz, hzz⟩
     subst hy
     go_wp2
     go_ret
     exact ⟨rfl, rfl⟩
    ·have t2 : decide (4096 < x) = false := by simpa using h2
     have ht2 : sizesOk (l.take (n + 1)) = true := by
      rw [HT.out]
      simp only [Bool.and_eq_true, decide_eq_true_eq]
      omega
     have HT2 : Hid (sizesOk (l.take (n + 1)) = true) := ht2
     clear ht2
     go_wp2
     exact ⟨⟨n + 1, by omega, by go_num, HT2.out, by first | trivial | rfl⟩, by simp [intOf]; omega⟩
  ·have e : n = L := by omega
   have hy : y = true := by
    rw [HY.out, ← hok, e, HL.out, List.take_length]
   subst hy
   subst e
   go_wp2
   go_ret
   exact ⟨rfl, rfl⟩

/-- what a new device has -/
def fresh (tape : Bool) (size : Nat) : List (List Nat) := if tape then [] else List.replicate size zeros
theorem run_build76 (w : World) (b : Bool) (n : Int) (x y : Nat) : (Instr.build 106 #[(0, .bool b), (1, .int .i64 n), (2, .map (some x)), (4, .map (some y))]).run Tryd.prog w = .ok (.agg #[.bool b, .int .i64 n, .map (some x), .slice none 0 0, .map (some y)]) w := by kernel_rfl

set_option maxHeartbeats 400000 in
set_option maxRecDepth 100000 in
theorem newDev_any (w : World) (c : Nat → Colour) (k : Colour) (size : Nat) (tape : Bool) :
  Calls Tryd.prog 57 #[.int .i64 (size : Int), .bool tape] w fun e w' => ∃ g, e = .returned (ptr g) ∧ w.heap.size ≤ g ∧ DevIn w' (paint c w.heap.size k) k g tape size (fresh tape size) [] ∧ Below w.heap.size w w' := by
 have hmm := @run_makeMap Tryd.prog
 obtain ⟨B, hB⟩ : ∃ B, B = w.heap.size := ⟨_, rfl⟩
 obtain ⟨w1, hw1⟩ : ∃ w1, w1 = w.alloc (.map #[] 0) := ⟨_, rfl⟩
 obtain ⟨w2, hw2⟩ : ∃ w2, w2 = w1.alloc (.map #[] 0) := ⟨_, rfl⟩
 have hm1 : (Instr.makeMap 103 none).run Tryd.prog w = .ok (.map (some B)) w1 := by rw [hw1, hB]; exact run_makeMap 103 w
 have hs1 : w1.heap.size = B + 1 := by rw [hw1, hB]; simp
 have hm2 : (Instr.makeMap 88 none).run Tryd.prog w1 = .ok (.map (some (B + 1))) w2 := by rw [hw2, ← hs1]; exact run_makeMap 88 w1
 have hs2 : w2.heap.size = B + 2 := by rw [hw2]; simp [hs1]
 have a1 : MapAt secs w1 B 0 (fun _ => none) := by rw [hw1, hB]; exact MapAt.made secs w
 have a2 : MapAt ints w2 (B + 1) 0 (fun _ => none) := by rw [hw2, ← hs1]; exact MapAt.made ints w1
 have a12 : MapAt secs w2 B 0 (fun _ => none) := by rw [hw2]; exact a1.alloc _
 have b2 : Below B w w2 := by rw [hw2, hw1]; exact ((Below.refl B w).alloc (by omega) _).alloc (by rw [hB]; simp) _
 rw [← hB]
 clear hmm hB hw1 hw2
 go_enter Tryd.func57, Tryd.ntmps57
 go_upto_region 1 with fail
 refine wp_region_lit ?_
 refine wpList_move (.tmp 1) rfl rfl (.bool tape) rfl ?_
 refine wpList_move (.tmp 0) rfl rfl (.int .i64 (size : Int)) rfl ?_
 simp only [Act.put, aS, aC, aZ]
 refine wpList_makeMap rfl rfl _ _ hm1 ?_
 refine wpList_makeMap rfl rfl _ _ hm2 ?_
 simp only [Act.put, aS, aC, aZ]
 refine wpList_value rfl (.agg #[.bool tape, .int .i64 (size : Int), .map (some B), .slice none 0 0, .map (some (B + 1))]) w2 (by simp [execOp, run_build76, Act.eval]) ?_
 simp only [Act.put, aS, aC, aZ]
 refine wpList_box (.tmp 9) rfl rfl [.bool tape, .int .i64 (size : Int), .map (some B), .slice none 0 0, .map (some (B + 1))] rfl ?_
 intro w3 r3 s3 b3
 refine wpList_assign (.tmp 10) rfl rfl (ptr w2.heap.size) rfl ?_
 refine wpList_nil ?_
 simp only [Act.put, aS, aC, aZ]
 rw [hs2] at r3 s3 b3 ⊢
 have HE : Hid (DevIn w3 (paint c B k) k (B + 2) tape size (fresh tape size) []) := by
  have e1 : w3.heap[B]? = w2.heap[B]? := b3.block B (by omega)
  have e2 : w3.heap[B + 1]? = w2.heap[B + 1]? := b3.block (B + 1) (by omega)
  refine ⟨B, B + 1, _, r3, paint_new _ _ _ _ (by omega), paint_new _ _ _ _ (by omega), paint_new _ _ _ _ (by omega), by omega, ⟨_, _, a12.kept e1, fun p hp => ?_, fun ht => ?_⟩, ⟨⟨rfl, Or.inl ⟨rfl, rfl⟩⟩, fun b hb => by cases hb⟩, ⟨0, a2.kept e2⟩⟩
  ·unfold fresh at hp ⊢
   split at hp
   ·simp at hp
   ·rename_i ht
    rw [if_neg ht]
    simp at hp
    simp [hp]
  ·subst ht
   exact ⟨rfl, fun p => by simp [fresh]⟩
 have HBB : Hid (Below B w w3) := b2.trans (b3.mono (by omega))
 clear r3 s3 b3 a1 a2 a12 b2 hm1 hm2
 go_wp2
 go_ret
 exact ⟨B + 2, rfl, by omega, HE.out, HBB.out⟩

def Pl.fuseTo (m : Pl) (n : Int) : Pl := if m.on then { m with fuse := n } else m
theorem fuse_any {w : World} {c : Nat → Colour} {t g db cap : Nat} {gs : Nat → Nat} {m : Pl} (h : PlantAt w c t g db cap gs m) (n : Int) :
  Calls Tryd.prog 13 #[ptr g, .int .i64 n] w fun e w' => e = .returned noResult ∧ PlantAt w' c t g db cap gs (m.fuseTo n) ∧ Ch (· = g) w w' := by
 have c1 := h.c1
 have c2 := h.c2
 have fz : ∀ i, w.frozen? ⟨g, i, none⟩ = false := fun i => h.row.frozen i
 have HP : Hid (PlantAt w c t g db cap gs m) := h
 clear h
 cases hon : m.on with
 | false =>
  rw [hon] at c1
  go_enter Tryd.func13, Tryd.ntmps13
  go_wp2
  go_end0
  refine ⟨rfl, ?_, Ch.refl _ _⟩
  unfold Pl.fuseTo
  rw [hon]
  exact HP.out
 | true =>
  rw [hon] at c1
  go_enter Tryd.func13, Tryd.ntmps13
  go_wp2
  go_end0
  have hch : Ch (· = g) w (w.setCell ⟨g, 2, none⟩ (.int .i64 n)) := (Ch.refl (· = g) w).setCell (g := g) (Or.inl rfl) 2 _
  have e : m.fuseTo n = { m with fuse := n } := by unfold Pl.fuseTo; rw [hon]; rfl
  refine ⟨rfl, ?_, hch⟩
  rw [e]
  refine HP.out.head _ rfl rfl rfl hch ?_
  have := HP.out.row.setCell 2 (.int .i64 n)
  simpa [plCells, Pl.n] using this
end Go.Proofs.YthgidfoidbgnaaaDoor

namespace Go.Proofs.YthgidfoidbgnaaaDoor
open Go.RowKit Go.Maps

/-- a plant as it is made -/
def newPl (ds ts : List Int) : Pl :=
 let sh := ds.map (fun n => (false, n.toNat)) ++ ts.map (fun n => (true, n.toNat))
 { sh := sh, fl := fun i => fresh (sh.getD i (false, 0)).1 (sh.getD i (false, 0)).2, wts := [], on := true, fuse := -1, steps := 0, clock := 0 }
def shapeOk (ds ts : List Int) : Bool := decide (1 ≤ ds.length + ts.length) && (decide (ds.length + ts.length ≤ 12) && (sizesOk ds && sizesOk ts))
theorem newPl_n (ds ts : List Int) : (newPl ds ts).n = ds.length + ts.length := by simp [newPl, Pl.n]
theorem newPl_disk (ds ts : List Int) (i : Nat) (h : i < ds.length) : (newPl ds ts).tape i = false ∧ (newPl ds ts).size i = (ds.getD i 0).toNat := by
 unfold Pl.tape Pl.size newPl
 simp [List.getElem?_append_left, h]
theorem newPl_tape (ds ts : List Int) (i : Nat) (h : i < ts.length) : (newPl ds ts).tape (ds.length + i) = true ∧ (newPl ds ts).size (ds.length + i) = (ts.getD i 0).toNat := by
 unfold Pl.tape Pl.size newPl
 simp [h]

def NewIn (W : World) (c : Nat → Colour) (t gp B : Nat) (m : Pl) (k : Nat) : Prop :=
 ∃ (v : Value) (gl : List Nat), Row W gp 69 [v, .bool true, .int .i64 (-1), .int .i64 0, .int .i64 0] ∧ c gp = (t, 0) ∧ gl.length = k ∧ W.ownsRow B 79 1 v k (gl.map ptr) ∧ (∀ b, v.ownBlock = some b → c b = (t, 0)) ∧
  ∀ i, i < k → DevIn W c (t, i + 1) (gl.getD i 0) (m.tape i) (m.size i) (fresh (m.tape i) (m.size i)) []
theorem info70 : (Tryd.prog.info? 79).map (fun i => (i.zero, i.size, i.bytes)) = some (some (.pointer none), 1, 8) := by kernel_rfl
theorem size67 : (Tryd.prog.info? 67).map (·.size) = some 1 := by kernel_rfl
theorem run_onePtr (w : World) (g : Nat) : (Instr.buildSlice 67 1 #[(0, ptr g)]).run Tryd.prog w = .ok (.slice (some ⟨w.heap.size, 0, none⟩) 1 1) (w.alloc (.cells #[ptr g] 79)) := by kernel_rfl
theorem en38 : EntersF 57 := Go.Proofs.enters_of Tryd.func57 (by kernel_rfl) rfl
/-- one more device is there -/
theorem new_step {W W5 W7 : World} {c : Nat → Colour} {t gp B k gd : Nat} {m : Pl} {v v7 : Value} {gl : List Nat} (hr : Row W gp 69 [v, .bool true, .int .i64 (-1), .int .i64 0, .int .i64 0]) (hcg : c gp = (t, 0)) (hgl : gl.length = k) (ho : W.ownsRow B 79 1 v k (gl.map ptr)) (hob : ∀ b, v.ownBlock = some b → c b = (t, 0))
  (hdv : ∀ i, i < k → DevIn W c (t, i + 1) (gl.getD i 0) (m.tape i) (m.size i) (fresh (m.tape i) (m.size i)) [])
  (hd : DevIn W5 (paint c W.heap.size (t, k + 1)) (t, k + 1) gd (m.tape k) (m.size k) (fresh (m.tape k) (m.size k)) []) (hb5 : Below W.heap.size W W5)
  (ho7 : W7.ownsRow B 79 1 v7 (k + 1) (gl.map ptr ++ [ptr gd])) (hg7 : (W5.alloc (.cells #[ptr gd] 79)).grownBy W7 v.ownBlock) (hloc : v7.ownBlock = v.ownBlock ∨ v7.ownBlock = some (W5.alloc (.cells #[ptr gd] 79)).heap.size) :
  NewIn (W7.setRow gp ([v7, .bool true, .int .i64 (-1), .int .i64 0, .int .i64 0] : List Value).toArray) (paint (paint c W.heap.size (t, k + 1)) W5.heap.size (t, 0)) t gp B m (k + 1) ∧
  (∀ b, b < W.heap.size → paint (paint c W.heap.size (t, k + 1)) W5.heap.size (t, 0) b = c b) ∧ Row W7 gp 69 [v, .bool true, .int .i64 (-1), .int .i64 0, .int .i64 0] ∧
  ∀ b T cs, T ≠ 79 → b ≠ gp → Row W b T cs → Row (W7.setRow gp ([v7, .bool true, .int .i64 (-1), .int .i64 0, .int .i64 0] : List Value).toArray) b T cs := by
 obtain ⟨c2, hc2⟩ : ∃ c2, c2 = paint (paint c W.heap.size (t, k + 1)) W5.heap.size (t, 0) := ⟨_, rfl⟩
 have hsz := hb5.size
 have hold : ∀ b, b < W.heap.size → c2 b = c b := fun b hb => by rw [hc2, paint_old _ _ _ _ (by omega), paint_old _ _ _ _ hb]
 have hmid : ∀ b, b < W5.heap.size → c2 b = paint c W.heap.size (t, k + 1) b := fun b hb => by rw [hc2, paint_old _ _ _ _ hb]
 have hnew : ∀ b, W5.heap.size ≤ b → c2 b = (t, 0) := fun b hb => by rw [hc2, paint_new _ _ _ _ hb]
 have hgp := hr.lt
 have hne : ∀ b, v.ownBlock = some b → b ≠ gp := fun b hb => by
  obtain ⟨_, h⟩ := ho
  rcases h with ⟨rfl, _⟩ | ⟨g', cp, cur, rfl, _, hg, _⟩
  ·cases hb
  ·cases hb
   rintro rfl
   rw [show W.heap[g']? = _ from hr] at hg
   cases hg
 have k7 : ∀ b, b < W5.heap.size → v.ownBlock ≠ some b → W7.heap[b]? = W5.heap[b]? := fun b hb hn => by
  rw [hg7.block b (by simp; omega) (fun e => hn e.symm)]
  exact Below.heap_alloc _ _ _ hb
 have hr7 : Row W7 gp 69 [v, .bool true, .int .i64 (-1), .int .i64 0, .int .i64 0] := by
  show W7.heap[gp]? = _
  rw [k7 gp (by omega) (fun e => hne gp e rfl), hb5.block gp hgp]
  exact hr
 rw [← hc2]
 refine ⟨⟨v7, gl ++ [gd], hr7.setRow _, (hold gp hgp).trans hcg, by simp [hgl], ?_, ?_, ?_⟩, hold, hr7, fun b T cs hT hb hrb => ?_⟩
 ·have e : (gl ++ [gd]).map ptr = gl.map ptr ++ [ptr gd] := by simp
  rw [e]
  obtain ⟨hl, h⟩ := ho7
  refine ⟨hl, ?_⟩
  rcases h with h | ⟨g', cp, cur, rfl, h0, hg, h⟩
  ·exact Or.inl h
  ·refine Or.inr ⟨g', cp, cur, rfl, h0, ?_, h⟩
   rw [Go.setRow_other W7 gp g' _ ?_]
   ·exact hg
   ·rintro rfl
    rw [show W7.heap[g']? = _ from hr7] at hg
    cases hg
 ·intro b hb
  rcases hloc with hl | hl
  ·have hvb : v.ownBlock = some b := hl ▸ hb
   have hlt : b < W.heap.size := (ho.lt b hvb).2
   rw [hold b hlt]
   exact hob b hvb
  ·rw [hl] at hb
   cases hb
   exact hnew _ (by simp)
 ·intro i hi
  by_cases hik : i < k
  ·have e : (gl ++ [gd]).getD i 0 = gl.getD i 0 := by simp [List.getElem?_append_left (show i < gl.length by omega)]
   rw [e]
   refine (hdv i hik).kept fun b hb hk => ⟨?_, (hold b hb).trans hk⟩
   have h1 : b ≠ gp := by rintro rfl; rw [hcg] at hk; simp at hk
   have h2 : v.ownBlock ≠ some b := fun e => by
    have := hob b e
    rw [this] at hk
    simp at hk
   rw [Go.setRow_other W7 gp b _ h1, k7 b (by omega) h2, hb5.block b hb]
  ·have e0 : i = k := by omega
   subst e0
   have e : (gl ++ [gd]).getD i 0 = gd := by rw [← hgl]; simp
   rw [e]
   refine hd.kept fun b hb hk => ⟨?_, by rw [hmid b hb]; exact hk⟩
   have h1 : b ≠ gp := by
    rintro rfl
    rw [paint_old _ _ _ _ hgp, hcg] at hk
    simp at hk
   have h2 : v.ownBlock ≠ some b := fun e => by
    have hlt : b < W.heap.size := (ho.lt b e).2
    rw [paint_old _ _ _ _ hlt, hob b e] at hk
    simp at hk
   rw [Go.setRow_other W7 gp b _ h1, k7 b hb h2]
 ·show (W7.setRow gp _).heap[b]? = _
  rw [Go.setRow_other W7 gp b _ hb, k7 b (by have := hrb.lt; omega) ?_, hb5.block b hrb.lt]
  ·exact hrb
  ·intro e
   obtain ⟨_, h⟩ := ho
   rcases h with ⟨rfl, _⟩ | ⟨g', cp, cur, rfl, _, hg, _⟩
   ·cases e
   ·cases e
    rw [show W.heap[g']? = _ from hrb] at hg
    simp at hg
    exact hT hg.2
/-- all devices are there -/
theorem new_done {W : World} {c : Nat → Colour} {t gp B : Nat} {ds ts : List Int} (h : NewIn W c t gp B (newPl ds ts) (ds.length + ts.length)) (hpos : 1 ≤ ds.length + ts.length) : ∃ db cap gs, PlantAt W c t gp db cap gs (newPl ds ts) := by
 obtain ⟨v, gl, hr, hcg, hgl, ho, hob, hdv⟩ := h
 obtain ⟨hl, ho⟩ := ho
 rcases ho with ⟨_, h0⟩ | ⟨db, cap, cur, rfl, _, hg, hc1, _, _, hcur⟩
 ·omega
 ·have hn := newPl_n ds ts
  refine ⟨db, cap, fun i => gl.getD i 0, ⟨?_, hcg, hob db rfl, ?_, (Array.getElem?_eq_some_iff.1 hg).1, by rw [hn]; exact hc1, fun i hi => ?_, fun i hi => ?_⟩⟩
  ·unfold plCells
   rw [hn]
   exact hr
  ·rintro rfl
   rw [show W.heap[db]? = _ from hr] at hg
   simp at hg
  ·rw [hn] at hi
   have : (gl.map ptr)[i]? = some (ptr (gl.getD i 0)) := by simp [show i < gl.length by omega]
   rw [← hcur, List.getElem?_take] at this
   split at this
   ·simp [World.cell?, hg]
    simpa using this
   ·cases this
  ·have e1 : (newPl ds ts).fl i = fresh ((newPl ds ts).tape i) ((newPl ds ts).size i) := rfl
   have e2 : (newPl ds ts).wt i = [] := rfl
   rw [e1, e2]
   exact hdv i (by rw [← hn]; exact hi)
end Go.Proofs.YthgidfoidbgnaaaDoor

namespace Go.Proofs.YthgidfoidbgnaaaDoor
open Go.RowKit Go.Maps

theorem run_onePtrOp {o : Oper} {a : Act} {w : World} (x : Operand) (ho : o.op = .buildSlice 67 1 #[(0, x)]) (g : Nat) (hx : a.eval x = ptr g) : (execOp a.eval o).run Tryd.prog w = .ok (.value (.slice (some ⟨w.heap.size, 0, none⟩) 1 1)) (w.alloc (.cells #[ptr g] 79)) := by
 simp [execOp, ho, hx, run_onePtr]
theorem run_build69 (w : World) : (Instr.build 69 #[(1, .bool true), (2, .int .i64 (-1))]).run Tryd.prog w = .ok (.agg #[.slice none 0 0, .bool true, .int .i64 (-1), .int .i64 0, .int .i64 0]) w := by kernel_rfl
theorem IntsIn.cell {w : World} {v : Value} {l : List Int} (h : IntsIn w v l) (n : Nat) (hn : n < l.length) : ∃ b off cap, v = .slice (some ⟨b, off, none⟩) l.length cap ∧ w.cell? ⟨b, off + n, none⟩ = some (.int .i64 (l.getD n 0)) := by
 obtain ⟨p, cap, rfl, _, _, h⟩ := h
 rcases h with rfl | ⟨b, off, rfl, h⟩
 ·simp at hn
 ·exact ⟨b, off, cap, rfl, h n hn⟩
theorem IntsIn.shape {w : World} {v : Value} {l : List Int} (h : IntsIn w v l) : ∃ p cap, v = .slice p l.length cap ∧ l.length < 4611686018427387904 := by
 obtain ⟨p, cap, rfl, _, h2, _⟩ := h
 exact ⟨p, cap, rfl, h2⟩
theorem sizesOk_at {l : List Int} (h : sizesOk l = true) (n : Nat) (hn : n < l.length) : 1 ≤ l.getD n 0 ∧ l.getD n 0 ≤ 4096 := by
 unfold sizesOk at h
 have := List.all_eq_true.1 h _ (List.getElem_mem hn)
 simp only [Bool.and_eq_true, decide_eq_true_eq] at this
 simpa [hn] using this

set_option maxHeartbeats 1000000 in
set_option maxRecDepth 100000 in
theorem newOk_any (w : World) (c : Nat → Colour) (t : Nat) (vd vt : Value) (ds ts : List Int) (hd : IntsIn w vd ds) (ht : IntsIn w vt ts) (hok : shapeOk ds ts = true) :
  Calls Tryd.prog 32 #[.agg #[vd, vt]] w fun e w' => ∃ g c' db cap gs, e = .returned (.tuple #[ptr g, .int .i64 0]) ∧ w.heap.size ≤ g ∧ (∀ b, b < w.heap.size → c' b = c b) ∧ PlantAt w' c' t g db cap gs (newPl ds ts) ∧ Below w.heap.size w w' := by
 unfold shapeOk at hok
 simp only [Bool.and_eq_true, decide_eq_true_eq] at hok
 obtain ⟨ho1, ho2, ho3, ho4⟩ := hok
 obtain ⟨B, hB⟩ : ∃ B, B = w.heap.size := ⟨_, rfl⟩
 have HB : Hid (B = w.heap.size) := hB
 obtain ⟨pd, cd, hvd, hdl⟩ := hd.shape
 obtain ⟨pt, ct, hvt, htl⟩ := ht.shape
 subst hvd hvt
 obtain ⟨nd, hnd⟩ : ∃ nd, nd = ds.length := ⟨_, rfl⟩
 obtain ⟨nt, hnt⟩ : ∃ nt, nt = ts.length := ⟨_, rfl⟩
 have HND : Hid (nd = ds.length) := hnd
 have HNT : Hid (nt = ts.length) := hnt
 have HD : Hid (IntsIn w (.slice pd nd cd) ds) := by rw [hnd]; exact hd
 have HT : Hid (IntsIn w (.slice pt nt ct) ts) := by rw [hnt]; exact ht
 rw [← hnd, ← hnt, ← hB]
 rw [← hnd, ← hnt] at ho1 ho2
 rw [← hnd] at hdl
 rw [← hnt] at htl
 clear hd ht hB hnd hnt
 go_enter Tryd.func32, Tryd.ntmps32
 go_upto_region 0 with fail
 refine wp_region_lit ?_
 refine wpList_box (.tmp 0) rfl rfl [.slice pd nd cd, .slice pt nt ct] rfl ?_
 intro w1 r1 s1 b1
 refine wpList_assign (.const (.pointer none)) rfl rfl (.pointer none) rfl ?_
 refine wpList_assign (.const (.int .i64 0)) rfl rfl (.int .i64 0) rfl ?_
 refine wpList_nil ?_
 simp only [Act.put, aS, aC, aZ]
 rw [← HB.out] at r1 s1 b1 ⊢
 have k0 := r1.at 0 _ rfl
 have k1 := r1.at 1 _ rfl
 have HB1 : Hid (Below B w w1 ∧ w1.heap.size = B + 1) := ⟨b1, s1⟩
 have HR1 : Hid (Row w1 B 84 [.slice pd nd cd, .slice pt nt ct]) := r1
 have HD1 : Hid (IntsIn w1 (.slice pd nd cd) ds) := HD.out.later (by rw [← HB.out]; exact b1)
 have HT1 : Hid (IntsIn w1 (.slice pt nt ct) ts) := HT.out.later (by rw [← HB.out]; exact b1)
 have cs1 := sizes_any w1 _ ds HD1.out
 have cs2 := sizes_any w1 _ ts HT1.out
 rw [ho3] at cs1
 rw [ho4] at cs2
 have CS1 : Hid (Calls Tryd.prog 56 #[.slice pd nd cd] w1 fun e w' => e = .returned (.bool true) ∧ w1 = w') := cs1.mono fun _ _ h => ⟨h.1, h.2.symm⟩
 have CS2 : Hid (Calls Tryd.prog 56 #[.slice pt nt ct] w1 fun e w' => e = .returned (.bool true) ∧ w1 = w') := cs2.mono fun _ _ h => ⟨h.1, h.2.symm⟩
 have t1 : decide ((nd : Int) + (nt : Int) < 1) = false := by simp; omega
 have t2 : decide (12 < (nd : Int) + (nt : Int)) = false := by simp; omega
 clear r1 s1 b1 cs1 cs2
 go_upto_region 4 with (first | (go_at_call_of 56 (Value.slice pd nd cd); refine CS1.out.mono ?_; rintro e wx ⟨rfl, rfl⟩) | (go_at_call_of 56 (Value.slice pt nt ct); refine CS2.out.mono ?_; rintro e wx ⟨rfl, rfl⟩))
 refine wp_region_lit ?_
 refine wpList_value rfl (.agg ([.slice none 0 0, .bool true, .int .i64 (-1), .int .i64 0, .int .i64 0] : List Value).toArray) w1 (by simp [execOp, run_build69, Act.eval]) ?_
 simp only [Act.put, aS, aC, aZ]
 refine wpList_box (.tmp 35) rfl rfl [.slice none 0 0, .bool true, .int .i64 (-1), .int .i64 0, .int .i64 0] rfl ?_
 intro w2 r2 s2 b2
 refine wpList_assign (.tmp 36) rfl rfl (ptr w1.heap.size) rfl ?_
 refine wpList_nil ?_
 simp only [Act.put, aS, aC, aZ]
 obtain ⟨gp, hgp⟩ : ∃ gp, gp = w1.heap.size := ⟨_, rfl⟩
 rw [← hgp] at r2 s2 b2 ⊢
 have HGP : Hid (gp = B + 1) := by rw [hgp]; exact HB1.out.2
 obtain ⟨c2, hc2⟩ : ∃ c2, c2 = paint c gp (t, 0) := ⟨_, rfl⟩
 have HN0 : Hid (NewIn w2 c2 t gp B (newPl ds ts) 0) := ⟨_, [], r2, by rw [hc2]; exact paint_new _ _ _ _ (Nat.le_refl _), rfl, ⟨rfl, Or.inl ⟨rfl, rfl⟩⟩, fun b hb => (by cases hb), fun i hi => (by omega)⟩
 have HR2 : Hid (Row w2 B 84 [.slice pd nd cd, .slice pt nt ct]) := HR1.out.later b2 (by have := HGP.out; omega)
 have HB2 : Hid (Below B w w2) := HB1.out.1.trans (b2.mono (by have := HGP.out; omega))
 have HC2 : Hid (∀ b, b < B → c2 b = c b) := fun b hb => by rw [hc2]; exact paint_old _ _ _ _ (by have := HGP.out; omega)
 have k0 := HR2.out.at 0 _ rfl
 clear r2 s2 b2 hgp hc2 k1 CS1 CS2 t1 t2 HR1
 go_wp2
 go_loopw [40] (fun ix W => ∃ n : Nat, n ≤ nd ∧ ix = .int .i64 n ∧ ∃ c', (∀ b, b < B → c' b = c b) ∧ NewIn W c' t gp B (newPl ds ts) n ∧ Row W B 84 [.slice pd nd cd, .slice pt nt ct] ∧ Below B w W) (fun ix _ => nd - (intOf ix).toNat)
 case atStart => exact ⟨0, Nat.zero_le _, rfl, c2, HC2.out, HN0.out, HR2.out, HB2.out⟩
 case round =>
  obtain ⟨n, hn, rfl, c', hcc, hin, hrB, hbw⟩ := hrel
  clear k0 HN0
  have HRB : Hid (Row wr B 84 [.slice pd nd cd, .slice pt nt ct]) := hrB
  clear hrB
  by_cases hlt : n < nd
  ·obtain ⟨bd, offd, cd', hv, hcell⟩ := HD.out.cell n (by rw [← HND.out]; exact hlt)
   injection hv with hv1 hv2 hv3
   subst hv1
   have hsz := sizesOk_at ho3 n (by rw [← HND.out]; exact hlt)
   obtain ⟨zn, hzn⟩ : ∃ zn : Nat, ds.getD n 0 = (zn : Int) := ⟨(ds.getD n 0).toNat, by omega⟩
   rw [hzn] at hcell
   have cn : wr.cell? ⟨bd, offd + n, none⟩ = some (.int .i64 (zn : Int)) := cell_later (by rw [← HB.out]; exact hbw) hcell
   have HTS : Hid ((newPl ds ts).tape n = false ∧ (newPl ds ts).size n = zn) := by
    have := newPl_disk ds ts n (by rw [← HND.out]; exact hlt)
    rw [hzn] at this
    exact this
   clear hcell hzn hsz hv2 hv3
   obtain ⟨v, gl, hr, hcg, hgl, ho, hob, hdv⟩ := hin
   have c0 := hr.at 0 _ rfl
   have HIN : Hid (Row wr gp 69 [v, .bool true, .int .i64 (-1), .int .i64 0, .int .i64 0] ∧ c' gp = (t, 0) ∧ gl.length = n ∧ wr.ownsRow B 79 1 v (n) (gl.map ptr) ∧ (∀ b, v.ownBlock = some b → c' b = (t, 0)) ∧ ∀ i, i < n → DevIn wr c' (t, i + 1) (gl.getD i 0) ((newPl ds ts).tape i) ((newPl ds ts).size i) (fresh ((newPl ds ts).tape i) ((newPl ds ts).size i)) []) := ⟨hr, hcg, hgl, ho, hob, hdv⟩
   have HBW : Hid (B ≤ wr.heap.size) := by have := hbw.size; rw [HB.out]; exact this
   have HBL : Hid (Below B w wr ∧ (∀ b, b < B → c' b = c b)) := ⟨hbw, hcc⟩
   clear hr hcg hgl ho hob hdv hbw hcc
   go_upto_region 8 with fail
   refine wp_region_any (by kernel_rfl) ?_
   show wpAny _ _ _ _ 12 (Array.replicate 12 false) _ (wr.drewN 1)
   refine takeA (i := 0) (some 44) rfl rfl (by kernel_rfl) (by kernel_rfl) (by kernel_rfl) (fun _ _ _ h => h) (yMove rfl (.tmp 5) rfl (ptr gp) rfl) ?_
   simp only [Act.put, aS, aC, aZ]
   refine takeA (i := 1) (some 45) rfl rfl (by kernel_rfl) (by kernel_rfl) (by kernel_rfl) (fun _ _ _ h => h) (yMove rfl (.tmp 5) rfl (ptr gp) rfl) ?_
   simp only [Act.put, aS, aC, aZ]
   refine takeA (i := 2) (some 46) rfl rfl (by kernel_rfl) (by kernel_rfl) (by kernel_rfl) (fun _ _ _ h => h) (yNil rfl (.tmp 45) rfl _ rfl) ?_
   simp only [Act.put, aS, aC, aZ]
   refine takeA (i := 3) (some 47) rfl rfl (by kernel_rfl) (by kernel_rfl) (by kernel_rfl) (fun _ _ _ h => h) (yField f69_0 rfl (.tmp 46) rfl gp 0 rfl) ?_
   simp only [Act.put, aS, aC, aZ]
   refine takeA (i := 5) (some 49) rfl rfl (by kernel_rfl) (by kernel_rfl) (by kernel_rfl) (fun _ _ _ h => h) (yMove rfl (.tmp 7) rfl (.int .i64 (zn : Int)) rfl) ?_
   simp only [Act.put, aS, aC, aZ]
   have hcall := newDev_any (wr.drewN 1) c' (t, n + 1) zn false
   refine anyThree (i := 4) (j := 6) (k := 7) 48 50 51 rfl rfl rfl (by decide) (by decide) (by decide) (by decide) (by kernel_rfl) (by kernel_rfl) (by kernel_rfl) (by kernel_rfl) (by kernel_rfl)
    v (fun u W' => ∃ gd, u = ptr gd ∧ wr.heap.size ≤ gd ∧ DevIn W' (paint c' wr.heap.size (t, n + 1)) (t, n + 1) gd false zn (fresh false zn) [] ∧ Below wr.heap.size wr W')
    (fun u s W'' => ∃ gd W', u = ptr gd ∧ wr.heap.size ≤ gd ∧ DevIn W' (paint c' wr.heap.size (t, n + 1)) (t, n + 1) gd false zn (fresh false zn) [] ∧ Below wr.heap.size wr W' ∧ s = .slice (some ⟨W'.heap.size, 0, none⟩) 1 1 ∧ W'' = W'.alloc (.cells #[ptr gd] 79)) ?_ ?_ ?_ ?_ ?_ ?_ ?_ ?_
   ·exact run_load1 one67 (.tmp 47) rfl gp 0 rfl _ c0
   ·rintro u W' ⟨gd, rfl, _, _, hb'⟩
    exact run_load1 one67 (.tmp 47) rfl gp 0 rfl _ (cell_later hb' c0)
   ·rintro u W' s W'' _ ⟨gd, W1, rfl, _, _, hb', rfl, rfl⟩
    exact run_load1 one67 (.tmp 47) rfl gp 0 rfl _ (cell_later (hb'.trans ((Below.refl _ W1).alloc hb'.size _)) c0)
   ·intro R hR
    refine opCallA (some 50) rfl rfl rfl 57 _ (run_call en38 [.tmp 49, .const (.bool false)] _ rfl [.int .i64 (zn : Int), .bool false] rfl) (hcall.mono ?_)
    rintro e W' ⟨gd, rfl, hgd, hd, hb'⟩
    exact ⟨_, rfl, hR _ _ ⟨gd, rfl, hgd, hd, (Below.drewN (Below.refl wr.heap.size wr) 1).trans hb'⟩⟩
   ·intro R hR
    refine opCallA (some 50) rfl rfl rfl 57 _ (run_call en38 [.tmp 49, .const (.bool false)] _ rfl [.int .i64 (zn : Int), .bool false] rfl) (hcall.mono ?_)
    rintro e W' ⟨gd, rfl, hgd, hd, hb'⟩
    exact ⟨_, rfl, hR _ _ ⟨gd, rfl, hgd, hd, (Below.drewN (Below.refl wr.heap.size wr) 1).trans hb'⟩⟩
   ·rintro u W' ⟨gd, rfl, hgd, hd, hb'⟩ R hR
    exact opValue (some 51) rfl rfl rfl _ _ (run_onePtrOp (.tmp 50) rfl gd rfl) (hR _ _ ⟨gd, W', rfl, hgd, hd, hb', rfl, rfl⟩)
   ·rintro u W' ⟨gd, rfl, hgd, hd, hb'⟩ R hR
    exact opValue (some 51) rfl rfl rfl _ _ (run_onePtrOp (.tmp 50) rfl gd rfl) (hR _ _ ⟨gd, W', rfl, hgd, hd, hb', rfl, rfl⟩)
   rintro u W0 s W6 _ ⟨gd, W5, rfl, hgd, hd5, hb5, rfl, hW6⟩
   simp only [Act.put, aS, aC, aZ]
   refine anySeqD 8 (by kernel_rfl) rfl ?_
   simp only [List.drop_succ_cons, List.drop_zero]
   obtain ⟨hr, hcg, hgl, ho, hob, hdv⟩ := HIN.out
   have s6 : W6.heap.size = W5.heap.size + 1 := by rw [hW6]; simp
   have b6 : Below wr.heap.size wr W6 := by rw [hW6]; exact hb5.trans ((Below.refl _ W5).alloc hb5.size _)
   have r6 : Row W6 W5.heap.size 79 [ptr gd] := by rw [hW6]; exact Row.new W5 79 [ptr gd]
   obtain ⟨i0, hi0, hz0, hz1, hz2⟩ := info_parts info70
   refine wpList_append_own_at _ rfl (.tmp 48) (.tmp 51) 67 rfl B 79 i0 _ 1 8 und67 hi0 hz0 hz1 hz2 rfl (by decide) v (n) (gl.map ptr) rfl (ownsRow_below ho b6) ⟨W5.heap.size, 0, none⟩ 1 1 [ptr gd] rfl rfl ?cells (by intro z hz; obtain rfl := List.mem_singleton.1 hz; rfl) (by unfold maxLen; omega) (by omega) (by have := HBW.out; have := b6.size; omega) ?_
   case cells =>
    intro k z hz
    rw [add_none, Nat.zero_add]
    exact r6.at k z hz
   intro v7 W7 o7 g7 n7 l7
   simp only [Act.put, aS, aC, aZ]
   have hnd : DevIn W5 (paint c' wr.heap.size (t, n + 1)) (t, n + 1) gd ((newPl ds ts).tape (n)) ((newPl ds ts).size (n)) (fresh ((newPl ds ts).tape (n)) ((newPl ds ts).size (n))) [] := by
    rw [HTS.out.1, HTS.out.2]
    exact hd5
   obtain ⟨hN, hcc2, hr7, hrest⟩ := new_step hr hcg hgl ho hob hdv hnd hb5 o7 (by rw [← hW6]; exact g7) (by rw [← hW6]; exact l7)
   have hv7 : v7.cells = #[v7] ∧ v7.oneCell' = true := by
    obtain ⟨_, h⟩ := o7
    rcases h with ⟨rfl, _⟩ | ⟨_, _, _, rfl, _⟩
    ·exact ⟨rfl, rfl⟩
    ·exact ⟨rfl, rfl⟩
   have HB7 : Hid (Below B w W7) := by
    refine (HBL.out.1.trans (b6.mono HBW.out)).trans ((Below.refl B W6).grown g7 (by have := HBW.out; have := b6.size; omega) fun k hk => ?_)
    exact (ho.lt k hk).1
   refine wpList_nilCheck (.tmp 44) rfl rfl _ rfl ?_
   simp only [Act.put, aS, aC, aZ]
   refine wpList_field f69_0 (.tmp 53) rfl rfl gp 0 rfl ?_
   simp only [Act.put, aS, aC, aZ]
   refine wpList_store1 size67 (.tmp 54) (.tmp 52) rfl rfl rfl gp (0 + 0) 69 rfl v7 _ rfl hv7.1 hv7.2 hr7 (by simp) ?_
   refine wpList_nil ?_
   obtain ⟨W8, hW8⟩ : ∃ W8, W8 = W7.setRow gp ([v7, .bool true, .int .i64 (-1), .int .i64 0, .int .i64 0] : List Value).toArray := ⟨_, rfl⟩
   have e8 : W7.setRow gp (([v, .bool true, .int .i64 (-1), .int .i64 0, .int .i64 0] : List Value).set (0 + 0) v7).toArray = W8 := by rw [hW8]; rfl
   rw [e8]
   have HN8 : Hid (NewIn W8 (paint (paint c' wr.heap.size (t, n + 1)) W5.heap.size (t, 0)) t gp B (newPl ds ts) (n + 1)) := by rw [hW8]; exact hN
   have hrb8 := hrest B 84 _ (by decide) (by have := HGP.out; omega) HRB.out
   rw [← hW8] at hrb8
   have HB8 : Hid (Below B w W8) := by
    rw [hW8]
    exact HB7.out.trans ⟨rfl, rfl, rfl, by simp [World.setRow], fun k hk => Go.setRow_other W7 gp k _ (by have := HGP.out; omega)⟩
   have HC8 : Hid (∀ b, b < B → paint (paint c' wr.heap.size (t, n + 1)) W5.heap.size (t, 0) b = c b) := fun b hb => (hcc2 b (by have := HBW.out; omega)).trans (HBL.out.2 b hb)
   clear hN hcc2 hrest hr7 hv7 hr ho hob hdv hd5 hnd hb5 b6 r6 o7 g7 l7 e8 hW8 hW6 c0 hcall
   go_wp2
   exact ⟨⟨n + 1, by omega, by go_num, _, HC8.out, HN8.out, hrb8, HB8.out⟩, by simp [intOf]; omega⟩
  ·have e : n = nd := by omega
   subst e
   have k1 := HRB.out.at 1 _ rfl
   have HN1 : Hid (NewIn wr c' t gp B (newPl ds ts) (n + 0)) := hin
   have HB3 : Hid (Below B w wr) := hbw
   have HC3 : Hid (∀ b, b < B → c' b = c b) := hcc
   clear hin hbw hcc
   go_wp2
   go_loopw [59] (fun ix W => ∃ j : Nat, j ≤ nt ∧ ix = .int .i64 j ∧ ∃ c', (∀ b, b < B → c' b = c b) ∧ NewIn W c' t gp B (newPl ds ts) (n + j) ∧ Row W B 84 [.slice pd n cd, .slice pt nt ct] ∧ Below B w W) (fun ix _ => nt - (intOf ix).toNat)
   case atStart => exact ⟨0, Nat.zero_le _, rfl, c', HC3.out, HN1.out, HRB.out, HB3.out⟩
   case round =>
    obtain ⟨j, hj, rfl, c', hcc, hin, hrB, hbw⟩ := hrel
    clear k1 HN1
    have HRB : Hid (Row wr B 84 [.slice pd n cd, .slice pt nt ct]) := hrB
    clear hrB
    by_cases hlt : j < nt
    ·obtain ⟨bd, offd, cd', hv, hcell⟩ := HT.out.cell j (by rw [← HNT.out]; exact hlt)
     injection hv with hv1 hv2 hv3
     subst hv1
     have hsz := sizesOk_at ho4 j (by rw [← HNT.out]; exact hlt)
     obtain ⟨zn, hzn⟩ : ∃ zn : Nat, ts.getD j 0 = (zn : Int) := ⟨(ts.getD j 0).toNat, by omega⟩
     rw [hzn] at hcell
     have cn : wr.cell? ⟨bd, offd + j, none⟩ = some (.int .i64 (zn : Int)) := cell_later (by rw [← HB.out]; exact hbw) hcell
     have HTS : Hid ((newPl ds ts).tape (n + j) = true ∧ (newPl ds ts).size (n + j) = zn) := by
      have := newPl_tape ds ts j (by rw [← HNT.out]; exact hlt)
      rw [hzn, ← HND.out] at this
      exact this
     clear hcell hzn hsz hv2 hv3
     obtain ⟨v, gl, hr, hcg, hgl, ho, hob, hdv⟩ := hin
     have c0 := hr.at 0 _ rfl
     have HIN : Hid (Row wr gp 69 [v, .bool true, .int .i64 (-1), .int .i64 0, .int .i64 0] ∧ c' gp = (t, 0) ∧ gl.length = n + j ∧ wr.ownsRow B 79 1 v (n + j) (gl.map ptr) ∧ (∀ b, v.ownBlock = some b → c' b = (t, 0)) ∧ ∀ i, i < n + j → DevIn wr c' (t, i + 1) (gl.getD i 0) ((newPl ds ts).tape i) ((newPl ds ts).size i) (fresh ((newPl ds ts).tape i) ((newPl ds ts).size i)) []) := ⟨hr, hcg, hgl, ho, hob, hdv⟩
     have HBW : Hid (B ≤ wr.heap.size) := by have := hbw.size; rw [HB.out]; exact this
     have HBL : Hid (Below B w wr ∧ (∀ b, b < B → c' b = c b)) := ⟨hbw, hcc⟩
     clear hr hcg hgl ho hob hdv hbw hcc
     go_upto_region 13 with fail
     refine wp_region_any (by kernel_rfl) ?_
     show wpAny _ _ _ _ 12 (Array.replicate 12 false) _ (wr.drewN 1)
     refine takeA (i := 0) (some 63) rfl rfl (by kernel_rfl) (by kernel_rfl) (by kernel_rfl) (fun _ _ _ h => h) (yMove rfl (.tmp 5) rfl (ptr gp) rfl) ?_
     simp only [Act.put, aS, aC, aZ]
     refine takeA (i := 1) (some 64) rfl rfl (by kernel_rfl) (by kernel_rfl) (by kernel_rfl) (fun _ _ _ h => h) (yMove rfl (.tmp 5) rfl (ptr gp) rfl) ?_
     simp only [Act.put, aS, aC, aZ]
     refine takeA (i := 2) (some 65) rfl rfl (by kernel_rfl) (by kernel_rfl) (by kernel_rfl) (fun _ _ _ h => h) (yNil rfl (.tmp 64) rfl _ rfl) ?_
     simp only [Act.put, aS, aC, aZ]
     refine takeA (i := 3) (some 66) rfl rfl (by kernel_rfl) (by kernel_rfl) (by kernel_rfl) (fun _ _ _ h => h) (yField f69_0 rfl (.tmp 65) rfl gp 0 rfl) ?_
     simp only [Act.put, aS, aC, aZ]
     refine takeA (i := 5) (some 68) rfl rfl (by kernel_rfl) (by kernel_rfl) (by kernel_rfl) (fun _ _ _ h => h) (yMove rfl (.tmp 9) rfl (.int .i64 (zn : Int)) rfl) ?_
     simp only [Act.put, aS, aC, aZ]
     have hcall := newDev_any (wr.drewN 1) c' (t, n + j + 1) zn true
     refine anyThree (i := 4) (j := 6) (k := 7) 67 69 70 rfl rfl rfl (by decide) (by decide) (by decide) (by decide) (by kernel_rfl) (by kernel_rfl) (by kernel_rfl) (by kernel_rfl) (by kernel_rfl)
      v (fun u W' => ∃ gd, u = ptr gd ∧ wr.heap.size ≤ gd ∧ DevIn W' (paint c' wr.heap.size (t, n + j + 1)) (t, n + j + 1) gd true zn (fresh true zn) [] ∧ Below wr.heap.size wr W')
      (fun u s W'' => ∃ gd W', u = ptr gd ∧ wr.heap.size ≤ gd ∧ DevIn W' (paint c' wr.heap.size (t, n + j + 1)) (t, n + j + 1) gd true zn (fresh true zn) [] ∧ Below wr.heap.size wr W' ∧ s = .slice (some ⟨W'.heap.size, 0, none⟩) 1 1 ∧ W'' = W'.alloc (.cells #[ptr gd] 79)) ?_ ?_ ?_ ?_ ?_ ?_ ?_ ?_
     ·exact run_load1 one67 (.tmp 66) rfl gp 0 rfl _ c0
     ·rintro u W' ⟨gd, rfl, _, _, hb'⟩
      exact run_load1 one67 (.tmp 66) rfl gp 0 rfl _ (cell_later hb' c0)
     ·rintro u W' s W'' _ ⟨gd, W1, rfl, _, _, hb', rfl, rfl⟩
      exact run_load1 one67 (.tmp 66) rfl gp 0 rfl _ (cell_later (hb'.trans ((Below.refl _ W1).alloc hb'.size _)) c0)
     ·intro R hR
      refine opCallA (some 69) rfl rfl rfl 57 _ (run_call en38 [.tmp 68, .const (.bool true)] _ rfl [.int .i64 (zn : Int), .bool true] rfl) (hcall.mono ?_)
      rintro e W' ⟨gd, rfl, hgd, hd, hb'⟩
      exact ⟨_, rfl, hR _ _ ⟨gd, rfl, hgd, hd, (Below.drewN (Below.refl wr.heap.size wr) 1).trans hb'⟩⟩
     ·intro R hR
      refine opCallA (some 69) rfl rfl rfl 57 _ (run_call en38 [.tmp 68, .const (.bool true)] _ rfl [.int .i64 (zn : Int), .bool true] rfl) (hcall.mono ?_)
      rintro e W' ⟨gd, rfl, hgd, hd, hb'⟩
      exact ⟨_, rfl, hR _ _ ⟨gd, rfl, hgd, hd, (Below.drewN (Below.refl wr.heap.size wr) 1).trans hb'⟩⟩
     ·rintro u W' ⟨gd, rfl, hgd, hd, hb'⟩ R hR
      exact opValue (some 70) rfl rfl rfl _ _ (run_onePtrOp (.tmp 69) rfl gd rfl) (hR _ _ ⟨gd, W', rfl, hgd, hd, hb', rfl, rfl⟩)
     ·rintro u W' ⟨gd, rfl, hgd, hd, hb'⟩ R hR
      exact opValue (some 70) rfl rfl rfl _ _ (run_onePtrOp (.tmp 69) rfl gd rfl) (hR _ _ ⟨gd, W', rfl, hgd, hd, hb', rfl, rfl⟩)
     rintro u W0 s W6 _ ⟨gd, W5, rfl, hgd, hd5, hb5, rfl, hW6⟩
     simp only [Act.put, aS, aC, aZ]
     refine anySeqD 8 (by kernel_rfl) rfl ?_
     simp only [List.drop_succ_cons, List.drop_zero]
     obtain ⟨hr, hcg, hgl, ho, hob, hdv⟩ := HIN.out
     have s6 : W6.heap.size = W5.heap.size + 1 := by rw [hW6]; simp
     have b6 : Below wr.heap.size wr W6 := by rw [hW6]; exact hb5.trans ((Below.refl _ W5).alloc hb5.size _)
     have r6 : Row W6 W5.heap.size 79 [ptr gd] := by rw [hW6]; exact Row.new W5 79 [ptr gd]
     obtain ⟨i0, hi0, hz0, hz1, hz2⟩ := info_parts info70
     refine wpList_append_own_at _ rfl (.tmp 67) (.tmp 70) 67 rfl B 79 i0 _ 1 8 und67 hi0 hz0 hz1 hz2 rfl (by decide) v (n + j) (gl.map ptr) rfl (ownsRow_below ho b6) ⟨W5.heap.size, 0, none⟩ 1 1 [ptr gd] rfl rfl ?cells (by intro z hz; obtain rfl := List.mem_singleton.1 hz; rfl) (by unfold maxLen; omega) (by omega) (by have := HBW.out; have := b6.size; omega) ?_
     case cells =>
      intro k z hz
      rw [add_none, Nat.zero_add]
      exact r6.at k z hz
     intro v7 W7 o7 g7 n7 l7
     simp only [Act.put, aS, aC, aZ]
     have hnd : DevIn W5 (paint c' wr.heap.size (t, n + j + 1)) (t, n + j + 1) gd ((newPl ds ts).tape (n + j)) ((newPl ds ts).size (n + j)) (fresh ((newPl ds ts).tape (n + j)) ((newPl ds ts).size (n + j))) [] := by
      rw [HTS.out.1, HTS.out.2]
      exact hd5
     obtain ⟨hN, hcc2, hr7, hrest⟩ := new_step hr hcg hgl ho hob hdv hnd hb5 o7 (by rw [← hW6]; exact g7) (by rw [← hW6]; exact l7)
     have hv7 : v7.cells = #[v7] ∧ v7.oneCell' = true := by
      obtain ⟨_, h⟩ := o7
      rcases h with ⟨rfl, _⟩ | ⟨_, _, _, rfl, _⟩
      ·exact ⟨rfl, rfl⟩
      ·exact ⟨rfl, rfl⟩
     have HB7 : Hid (Below B w W7) := by
      refine (HBL.out.1.trans (b6.mono HBW.out)).trans ((Below.refl B W6).grown g7 (by have := HBW.out; have := b6.size; omega) fun k hk => ?_)
      exact (ho.lt k hk).1
     refine wpList_nilCheck (.tmp 63) rfl rfl _ rfl ?_
     simp only [Act.put, aS, aC, aZ]
     refine wpList_field f69_0 (.tmp 72) rfl rfl gp 0 rfl ?_
     simp only [Act.put, aS, aC, aZ]
     refine wpList_store1 size67 (.tmp 73) (.tmp 71) rfl rfl rfl gp (0 + 0) 69 rfl v7 _ rfl hv7.1 hv7.2 hr7 (by simp) ?_
     refine wpList_nil ?_
     obtain ⟨W8, hW8⟩ : ∃ W8, W8 = W7.setRow gp ([v7, .bool true, .int .i64 (-1), .int .i64 0, .int .i64 0] : List Value).toArray := ⟨_, rfl⟩
     have e8 : W7.setRow gp (([v, .bool true, .int .i64 (-1), .int .i64 0, .int .i64 0] : List Value).set (0 + 0) v7).toArray = W8 := by rw [hW8]; rfl
     rw [e8]
     have HN8 : Hid (NewIn W8 (paint (paint c' wr.heap.size (t, n + j + 1)) W5.heap.size (t, 0)) t gp B (newPl ds ts) (n + j + 1)) := by rw [hW8]; exact hN
     have hrb8 := hrest B 84 _ (by decide) (by have := HGP.out; omega) HRB.out
     rw [← hW8] at hrb8
     have HB8 : Hid (Below B w W8) := by
      rw [hW8]
      exact HB7.out.trans ⟨rfl, rfl, rfl, by simp [World.setRow], fun k hk => Go.setRow_other W7 gp k _ (by have := HGP.out; omega)⟩
     have HC8 : Hid (∀ b, b < B → paint (paint c' wr.heap.size (t, n + j + 1)) W5.heap.size (t, 0) b = c b) := fun b hb => (hcc2 b (by have := HBW.out; omega)).trans (HBL.out.2 b hb)
     clear hN hcc2 hrest hr7 hv7 hr ho hob hdv hd5 hnd hb5 b6 r6 o7 g7 l7 e8 hW8 hW6 c0 hcall
     go_wp2
     exact ⟨⟨j + 1, by omega, by go_num, _, HC8.out, HN8.out, hrb8, HB8.out⟩, by simp [intOf]; omega⟩
    ·have e : j = nt := by omega
     subst e
     have HE : Hid (∃ db cap gs, PlantAt wr c' t gp db cap gs (newPl ds ts)) := by
      refine new_done (B := B) ?_ (by have := HND.out; have := HNT.out; omega)
      rw [← HND.out, ← HNT.out]
      exact hin
     have HB4 : Hid (Below B w wr) := hbw
     have HC4 : Hid (∀ b, b < B → c' b = c b) := hcc
     clear hin hbw hcc
     go_wp2
     go_ret2
     obtain ⟨db, cap, gs, hP⟩ := HE.out
     exact ⟨gp, c', db, cap, gs, rfl, by have := HGP.out; omega, HC4.out, hP, HB4.out⟩
end Go.Proofs.YthgidfoidbgnaaaDoor

namespace Go.Proofs.YthgidfoidbgnaaaDoor
open Go.RowKit Go.Maps

/-- bytes of a slice are bytes -/
theorem SliceIn.lt256 {w : World} {v : Value} {cs : List Nat} (h : SliceIn w v cs) : ∀ c ∈ cs, c < 256 := by
 intro x hx
 obtain ⟨p, cap, rfl, _, h⟩ := h
 rcases h with rfl | ⟨b, off, rfl, _, hb⟩
 ·simp at hx
 ·obtain ⟨j, hj, rfl⟩ := List.getElem_of_mem hx
  have := hb j
  simpa [hj] using this
end Go.Proofs.YthgidfoidbgnaaaDoor

namespace Go.Proofs.YthgidfoidbgnaaaDoor
open Go.RowKit Go.Maps

theorem Pl.write_wf {m : Pl} (h : m.WF) (d p : Int) (s : List Nat) (hs : ∀ c ∈ s, c < 256) : (m.write d p s).2.WF := by
 unfold Pl.write
 split
 ·exact h
 ·split
  ·exact h
  ·rename_i hh
   split
   ·exact h
   ·rename_i hl
    split
    ·exact Pl.step_wf h
    ·rename_i hf
     simp only [Classical.not_not] at hh hl
     obtain ⟨hd, ht, hp0, hp1⟩ := hh
     exact Pl.wait_wf h hf _ _ s (by have := hd.1; have := hd.2; omega) (by omega) ⟨hl, hs⟩ (fun ht' => by rw [ht] at ht'; cases ht')
theorem layAll_sec {tape : Bool} {fl : List (List Nat)} {l : List Wr} (h1 : ∀ s ∈ fl, Sec s) (h2 : ∀ x ∈ l, Sec x.b) : ∀ s ∈ layAll tape fl l, Sec s := by
 induction l generalizing fl with
 | nil => exact h1
 | cons x l ih =>
  have e : layAll tape fl (x :: l) = layAll tape (lay tape fl x.place x.b) l := rfl
  rw [e]
  refine ih (fun s hs => ?_) (fun y hy => h2 y (by simp [hy]))
  unfold lay at hs
  split at hs
  ·rcases List.mem_append.1 hs with hs | hs
   ·exact h1 s hs
   ·rw [List.mem_singleton.1 hs]
    exact h2 x (by simp)
  ·rcases List.mem_or_eq_of_mem_set hs with hs | hs
   ·exact h1 s hs
   ·rw [hs]
    exact h2 x (by simp)
theorem Pl.flushed_wf {m : Pl} (h : m.WF) (i : Nat) : (m.flushed i).WF := by
 have hsub : ∀ x ∈ (m.flushed i).wts, x ∈ m.wts := fun x hx => (List.mem_filter.1 hx).1
 refine ⟨h.few, h.pos, h.sizes, fun j => ?_, fun j hj ht => ?_, fun j hj ht => ?_, fun x hx => h.wsec x (hsub x hx), fun x hx => h.wdev x (hsub x hx), h.order.sublist List.filter_sublist, Nat.le_trans (List.length_filter_le _ _) h.count, h.fuse0, h.fuse1, h.clock0, h.clock1⟩
 ·show ∀ s ∈ upd m.fl i _ j, _
  unfold upd
  split
  ·rename_i e
   exact layAll_sec (h.secs i) (fun x hx => h.wsec x (Pl.wt_mem hx).1)
  ·exact h.secs j
 ·show (upd m.fl i _ j).length = m.size j
  unfold upd
  split
  ·rename_i e
   subst e
   rw [layAll_length, show m.tape j = false from ht]
   exact h.disk j hj ht
  ·exact h.disk j hj ht
 ·rw [Pl.wt_flushed]
  have ht' : m.tape j = true := ht
  have hh := h.tapes j hj ht'
  by_cases e : j = i
  ·subst e
   rw [if_pos rfl]
   have e1 : ((m.flushed j).fl j).length = (m.fl j).length + (m.wt j).length := by
    show (upd m.fl j _ j).length = _
    unfold upd
    rw [if_pos rfl, layAll_length, ht']
    simp
   rw [e1]
   exact ⟨by simp only [List.length_nil, Nat.add_zero]; exact hh.1, fun k x hx => by simp at hx⟩
  ·rw [if_neg e]
   have e1 : (m.flushed i).fl j = m.fl j := by show upd m.fl i _ j = _; simp [upd, e]
   rw [e1]
   exact hh
theorem Pl.flush_wf {m : Pl} (h : m.WF) (d : Int) : (m.flush d).2.WF := by
 unfold Pl.flush
 split
 ·exact h
 ·split
  ·exact h
  ·split
   ·exact Pl.step_wf h
   ·exact Pl.flushed_wf (Pl.step_wf h) _
theorem Pl.boot_wf {m : Pl} (h : m.WF) (ks : List Int) : (m.boot ks).WF := by
 have hp := boot_place h ks m.wts.length (Nat.le_refl _)
 have hout : ∀ i, ¬ i < m.n → (bootTo m ks m.wts.length).1 i = m.fl i := by
  intro i hi
  have : ∀ n, n ≤ m.wts.length → (bootTo m ks n).1 i = m.fl i := by
   intro n
   induction n with
   | zero => intro _; rfl
   | succ n ih =>
    intro hn
    obtain ⟨x, hx⟩ : ∃ x, m.wts[n]? = some x := ⟨_, List.getElem?_eq_getElem (by omega)⟩
    have hxd := (h.wdev x (List.mem_of_getElem? hx)).1
    rw [bootTo_succ m ks n x hx]
    unfold bootStep
    split
    ·exact ih (by omega)
    ·have hne : i ≠ x.dev := fun e => hi (by rw [e]; exact hxd)
     show upd _ _ _ i = _
     simp only [upd, if_neg hne]
     exact ih (by omega)
  exact this _ (Nat.le_refl _)
 refine ⟨h.few, h.pos, h.sizes, fun i => ?_, fun i hi ht => (hp i hi).2.1 ht, fun i hi ht => ?_, fun x hx => (by cases hx), fun x hx => (by cases hx), List.Pairwise.nil, Nat.zero_le _, (by decide : (-9223372036854775808 : Int) ≤ -1), (by decide : (-1 : Int) ≤ 9223372036854775807), h.clock0, h.clock1⟩
 ·show ∀ s ∈ (bootTo m ks m.wts.length).1 i, _
  by_cases hi : i < m.n
  ·exact (hp i hi).1
  ·rw [hout i hi]
   exact h.secs i
 ·have h4 := (hp i hi).2.2.2 ht
  rw [List.take_length] at h4
  have := (h.tapes i hi ht).1
  have e : (m.boot ks).wt i = [] := rfl
  rw [e]
  exact ⟨by show ((bootTo m ks m.wts.length).1 i).length + 0 ≤ m.size i; unfold Pl.wt at this; omega, fun j x hx => by simp at hx⟩
theorem Pl.fuse_wf {m : Pl} (h : m.WF) (n : Int) (h0 : -9223372036854775808 ≤ n) (h1 : n ≤ 9223372036854775807) : (m.fuseTo n).WF := by
 unfold Pl.fuseTo
 split
 ·exact ⟨h.few, h.pos, h.sizes, h.secs, h.disk, h.tapes, h.wsec, h.wdev, h.order, h.count, h0, h1, h.clock0, h.clock1⟩
 ·exact h
theorem newPl_wf (ds ts : List Int) (hok : shapeOk ds ts = true) : (newPl ds ts).WF := by
 unfold shapeOk at hok
 simp only [Bool.and_eq_true, decide_eq_true_eq] at hok
 obtain ⟨ho1, ho2, ho3, ho4⟩ := hok
 have hn : (newPl ds ts).sh.length = ds.length + ts.length := newPl_n ds ts
 have hsz : ∀ i, i < (newPl ds ts).sh.length → 1 ≤ (newPl ds ts).size i ∧ (newPl ds ts).size i ≤ 4096 := fun i hi => by
  rw [hn] at hi
  by_cases h : i < ds.length
  ·have := sizesOk_at ho3 i h
   rw [(newPl_disk ds ts i h).2]
   omega
  ·have h' : i - ds.length < ts.length := by omega
   have := sizesOk_at ho4 _ h'
   have e := (newPl_tape ds ts _ h').2
   rw [show ds.length + (i - ds.length) = i by omega] at e
   rw [e]
   omega
 refine ⟨by omega, by omega, hsz, fun i s hs => ?_, fun i hi ht => ?_, fun i hi ht => ?_, fun x hx => (by cases hx), fun x hx => (by cases hx), List.Pairwise.nil, Nat.zero_le _, (by decide : (-9223372036854775808 : Int) ≤ -1), (by decide : (-1 : Int) ≤ 9223372036854775807), (by decide : (0 : Int) ≤ 0), (by decide : (0 : Int) ≤ 1099511627776)⟩
 ·have hs' : s ∈ fresh ((newPl ds ts).tape i) ((newPl ds ts).size i) := hs
  unfold fresh at hs'
  split at hs'
  ·cases hs'
  ·rw [(List.mem_replicate.1 hs').2]
   exact sec_zero
 ·show (fresh ((newPl ds ts).tape i) ((newPl ds ts).size i)).length = _
  rw [ht]
  simp [fresh]
 ·have e : (newPl ds ts).fl i = [] := by
   show fresh ((newPl ds ts).tape i) ((newPl ds ts).size i) = []
   rw [ht]
   rfl
  have e2 : (newPl ds ts).wt i = [] := rfl
  rw [e, e2]
  exact ⟨by simp, fun j x hx => by simp at hx⟩

/-- a plant that is there, its colours no other's, also in what is still to come -/
def Live (w : World) (c : Nat → Colour) (t g : Nat) (m : Pl) : Prop := PlantIn w c t g m ∧ m.WF ∧ ∀ b, w.heap.size ≤ b → (c b).1 ≠ t
def Next (w : World) (c : Nat → Colour) (t g : Nat) (m' : Pl) (w' : World) : Prop := ∃ c', (∀ b, b < w.heap.size → c' b = c b) ∧ (∀ b, w.heap.size ≤ b → (c' b).1 = t ∨ (c' b).1 = t + 1) ∧ Live w' c' t g m' ∧ Ch (fun b => (c b).1 = t) w w'
theorem Live.below {w w' : World} {c : Nat → Colour} {t g : Nat} {m : Pl} (h : Live w c t g m) (hb : Below w.heap.size w w') : Live w' c t g m :=
 ⟨h.1.kept hb.size fun b hlt _ => ⟨hb.block b hlt, rfl⟩, h.2.1, fun b hlt => h.2.2 b (Nat.le_trans hb.size hlt)⟩
theorem Live.post {w w' : World} {c : Nat → Colour} {t g db cap : Nat} {gs : Nat → Nat} {m' : Pl} (hp : Post w c t g db cap gs m' w') (hwf : m'.WF) : Next w c t g m' w' := by
 obtain ⟨c', hcc, hP, hch⟩ := hp
 obtain ⟨c2, hc2⟩ : ∃ c2 : Nat → Colour, c2 = fun b => if b < w.heap.size then c b else if b < w'.heap.size ∧ (c' b).1 = t then c' b else (t + 1, 0) := ⟨_, rfl⟩
 have hsz := hch.size
 refine ⟨c2, fun b hb => by rw [hc2]; simp [hb], fun b hb => ?_, ⟨⟨db, cap, gs, ?_⟩, hwf, fun b hb => ?_⟩, hch⟩
 ·rw [hc2]
  simp only [show ¬ b < w.heap.size by omega, if_false]
  split
  ·rename_i h
   exact Or.inl h.2
  ·exact Or.inr rfl
 ·have hsame : ∀ b, b < w'.heap.size → (c' b).1 = t → c2 b = c' b := fun b hb ht => by
   rw [hc2]
   by_cases h : b < w.heap.size
   ·simp [h, hcc b h]
   ·simp [h, hb, ht]
  refine ⟨hP.row, ?_, ?_, hP.ne, hP.lt, hP.cap, hP.cell, fun i hi => (hP.dev i hi).kept fun b hb hk => ⟨rfl, ?_⟩⟩
  ·rw [hsame g hP.row.lt (by rw [hP.cg]), hP.cg]
  ·rw [hsame db hP.lt (by rw [hP.cd]), hP.cd]
  ·rw [hsame b hb (by rw [hk]), hk]
 ·rw [hc2]
  simp [show ¬ b < w.heap.size by omega, show ¬ b < w'.heap.size by omega]

section
variable {w : World} {c : Nat → Colour} {t g : Nat} {m : Pl}
theorem Live.write (h : Live w c t g m) (hst : m.steps < 1099511627775) (d p : Int) (v : Value) (s : List Nat) (hv : SliceIn w v s) : Calls Tryd.prog 60 #[ptr g, .int .i64 d, .int .i64 p, v] w fun e w' => e = .returned (.int .i64 (m.write d p s).1) ∧ Next w c t g (m.write d p s).2 w' := by
 obtain ⟨⟨db, cap, gs, hP⟩, hwf, _⟩ := h
 exact (write_any hP hwf (by omega) d p v s hv).mono fun e w' he => ⟨he.1, Live.post he.2 (Pl.write_wf hwf d p s hv.lt256)⟩
theorem Live.flush (h : Live w c t g m) (hst : m.steps < 1099511627775) (d : Int) : Calls Tryd.prog 61 #[ptr g, .int .i64 d] w fun e w' => e = .returned (.int .i64 (m.flush d).1) ∧ Next w c t g (m.flush d).2 w' := by
 obtain ⟨⟨db, cap, gs, hP⟩, hwf, _⟩ := h
 exact (flush_any hP hwf (by omega) d).mono fun e w' he => ⟨he.1, Live.post he.2 (Pl.flush_wf hwf d)⟩
theorem Live.boot (h : Live w c t g m) (hst : m.steps < 1099511627775) (kv : Value) (ks : List Int) (hk : KeepIn w c t kv ks) : Calls Tryd.prog 15 #[ptr g, kv] w fun e w' => e = .returned noResult ∧ Next w c t g (m.boot ks) w' := by
 obtain ⟨⟨db, cap, gs, hP⟩, hwf, _⟩ := h
 exact (boot_any hP hwf (by omega) kv ks hk).mono fun e w' he => ⟨he.1, Live.post he.2 (Pl.boot_wf hwf ks)⟩
theorem Live.fuse (h : Live w c t g m) (n : Int) (h0 : -9223372036854775808 ≤ n) (h1 : n ≤ 9223372036854775807) : Calls Tryd.prog 13 #[ptr g, .int .i64 n] w fun e w' => e = .returned noResult ∧ Next w c t g (m.fuseTo n) w' := by
 obtain ⟨⟨db, cap, gs, hP⟩, hwf, _⟩ := h
 exact (fuse_any hP n).mono fun e w' he => ⟨he.1, Live.post (Post.stepped hP he.2.1 he.2.2) (Pl.fuse_wf hwf n h0 h1)⟩
theorem Live.read (h : Live w c t g m) (hst : m.steps < 1099511627775) (hon : m.on = true) (i p : Nat) (hi : i < m.n) (hp : p < m.len i) : Calls Tryd.prog 66 #[ptr g, .int .i64 (i : Int), .int .i64 (p : Int)] w fun e w' => ∃ b, e = .returned (.tuple #[.slice (some ⟨b, 0, none⟩) 64 64, .int .i64 0]) ∧ w.heap.size ≤ b ∧ Row w' b 5 (bcells (m.rd i p)) ∧ Below w.heap.size w w' := by
 obtain ⟨⟨db, cap, gs, hP⟩, hwf, _⟩ := h
 exact readP_any hP hwf (by omega) hon i p hi hp
theorem Live.isOn (h : Live w c t g m) : Calls Tryd.prog 45 #[ptr g] w fun e w' => e = .returned (.bool m.on) ∧ w' = w := by
 obtain ⟨⟨db, cap, gs, hP⟩, hwf, _⟩ := h
 exact on_cells w g m.on hP.c1
theorem Live.steps (h : Live w c t g m) : Calls Tryd.prog 65 #[ptr g] w fun e w' => e = .returned (.int .i64 (m.steps : Int)) ∧ w' = w := by
 obtain ⟨⟨db, cap, gs, hP⟩, hwf, _⟩ := h
 exact steps_cells w g _ hP.c3
end
/-- a plant is made -/
theorem Live.new (w : World) (c : Nat → Colour) (t : Nat) (vd vt : Value) (ds ts : List Int) (hd : IntsIn w vd ds) (ht : IntsIn w vt ts) (hok : shapeOk ds ts = true) :
  Calls Tryd.prog 32 #[.agg #[vd, vt]] w fun e w' => ∃ g c', e = .returned (.tuple #[ptr g, .int .i64 0]) ∧ w.heap.size ≤ g ∧ (∀ b, b < w.heap.size → c' b = c b) ∧ (∀ b, w.heap.size ≤ b → (c' b).1 = t ∨ (c' b).1 = t + 1) ∧ Live w' c' t g (newPl ds ts) ∧ Below w.heap.size w w' := by
 refine (newOk_any w c t vd vt ds ts hd ht hok).mono fun e w' ⟨g, c', db, cap, gs, he, hg, hcc, hP, hb⟩ => ?_
 obtain ⟨c2, h1, h2, h3, _⟩ := Live.post (w := w) (c := c) (t := t) (g := g) ⟨c', hcc, hP, Ch.of_below hb⟩ (newPl_wf ds ts hok)
 exact ⟨g, c2, he, hg, h1, h2, h3, hb⟩
end Go.Proofs.YthgidfoidbgnaaaDoor

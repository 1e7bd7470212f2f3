/- Layer 8: the desk appends a transaction: the walk. Layer 8: the desk formats its disk anew. -/
import Derived.Test.YtomfdnjbipgmcaaDoorZ36
namespace Go.Proofs.YtomfdnjbipgmcaaDoor
open Go.RowKit Go.Maps

end Go.Proofs.YtomfdnjbipgmcaaDoor

namespace Go.Proofs.YtomfdnjbipgmcaaDoor
open Go.RowKit Go.Maps

theorem wpList_callW {w : World} {ops : Array Oper} {rest : List Oper} {o : Oper} {a : Act} {Q : Exit → Act → World → Prop} {f : Nat} (ef : EntersF f) (xs : List Operand) (ts : Array TypeId) (hgd : Region.wanted o (yielded ops a.tmps) = true) (ho : o.op = .call { callee := .value (.func f), args := xs.toArray, argTypes := ts }) (vs : List Value) (hv : xs.map a.eval = vs)
    (h : Calls Tryd.prog f vs.toArray w fun e w' => ∃ v, e = .returned v ∧ wpList Tryd.prog ops Q rest (a.put o.dst v) w') : wpList Tryd.prog ops Q (o :: rest) a w :=
  BigFrame.wpList_want hgd fun K hK => by
    unfold Oper.wp
    rw [run_call ef xs ts ho vs hv]
    refine h.mono fun e w' he => ?_
    obtain ⟨v, rfl, hw⟩ := he
    exact hK _ _ hw
/-- Format of a disk that may have a journal -/
theorem formatJ_any {w : World} {c : Nat → Colour} {t g : Nat} {m : Pl} (h : Live w c t g m) {ds ts : List Nat} {i n : Nat} (hsh : ShapeOf m ds ts) (hi : i < ds.length) (hn : ds.getD i 0 = n) (h8 : 8 ≤ n) (hon : m.on = true) (ht : Fr.TabIn w) (htc : (c 0).1 ≠ t) (hst : m.steps + 20000 < 1099511627775) :
    Calls Tryd.prog 11 #[ptr g, .int .i64 (i : Nat)] w fun e w' => ∃ c' m', (∀ b, b < w.heap.size → c' b = c b) ∧ Live w' c' t g m' ∧ Ch (fun b => (c b).1 = t) w w' ∧ Rel m m' i ∧ m'.steps ≤ m.steps + 5000 ∧
      ((e = .returned (.int .i64 0) ∧ Jc m' i n [] ∧ (m.fuse < 0 → m'.fuse < 0)) ∨
       (0 ≤ m.fuse ∧ e = .returned (.int .i64 2) ∧ m'.on = false ∧ (m.wt i = [] → ∀ ks, (∀ p, (m'.boot ks).rd i p = m.rd i p) ∨ Blank (m'.boot ks) i n ∨ Jc (m'.boot ks) i n []))) := by
  have hhold : holds ds (i : Int) = true := by
    unfold holds
    exact decide_eq_true ⟨by omega, by omega, by rw [Int.toNat_natCast, hn]; exact h8⟩
  have hf : m.format ds (i : Int) = m.format3 i n := by
    unfold Pl.format
    rw [hhold, if_pos rfl, Int.toNat_natCast, hn]
  have hd := hsh.disk i hi
  have hlv : Lv m i := ⟨h.2.1, hon, by rw [hsh.n]; omega, hd.1⟩
  have hsz : m.size i = n := by rw [hd.2, hn]
  have hn4 : n ≤ 4096 := by rw [← hsz]; exact (h.2.1.sizes i hlv.lt).2
  refine (format_any h hsh (i : Int) ht htc hst).mono fun e w' he => ?_
  obtain ⟨he, c', hcc, hl, hch⟩ := he
  rw [hf] at he hl
  refine ⟨c', _, hcc, hl, hch, ?_⟩
  rcases format_C hlv hsz h8 with ⟨k1, k2, k3, k4, k5⟩ | ⟨k1, k2, k3, k4, k5, k6, k7⟩
  · exact ⟨k2.rel, by omega, Or.inl ⟨by rw [he, k1], ⟨1, 1, 1, [], k5, rfl⟩, k4⟩⟩
  · refine ⟨k2.rel, by omega, Or.inr ⟨k4, by rw [he, k1], k5, fun hw ks => ?_⟩⟩
    rcases k7 hw ks with k | k | k
    · exact Or.inl k
    · exact Or.inr (Or.inl k)
    · exact Or.inr (Or.inr ⟨1, 1, 1, [], k, rfl⟩)
/-- Open of a disk whose head is blank -/
theorem openB_any {w : World} {c : Nat → Colour} {t g : Nat} {m : Pl} (h : Live w c t g m) {ds ts : List Nat} {i n : Nat} (hd : DiskOn m ds ts i) (hn : ds.getD i 0 = n) (ht : Fr.TabIn w) (htc : (c 0).1 ≠ t) (hb : Blank m i n) :
    Calls Tryd.prog 12 #[ptr g, .int .i64 (i : Nat)] w fun e w' => e = .returned (.tuple #[.pointer none, .slice none 0 0, .int .i64 4]) ∧ ∃ c', (∀ b, b < w.heap.size → c' b = c b) ∧ Live w' c' t g m ∧ Ch (fun b => (c b).1 = t) w w' := by
  have h1 := hb.openR
  refine (open_any h hd ht htc).mono fun e w' he => ?_
  obtain ⟨wv, tv, he, c', hcc, hl, hch, _, hx⟩ := he
  rw [hn, h1] at he hl hx
  obtain ⟨q1, q2⟩ := hx (show (4 : Int) ≠ 0 by decide)
  exact ⟨by rw [he, q1, q2], c', hcc, hl, hch⟩
theorem Jd.back {m m' : Pl} {i n : Nat} {D : List (List (List Nat))} (h : Jc m i n D) (lv : Lv m' i) (wt : m'.wt i = []) (sh : m'.sh = m.sh) (st : m.steps ≤ m'.steps) (rd : ∀ p, m'.rd i p = m.rd i p) : Jc m' i n D := by
  obtain ⟨S, B, F, rows, h1, h2⟩ := h
  exact ⟨S, B, F, rows, h1.same lv wt sh st rd, h2⟩
end Go.Proofs.YtomfdnjbipgmcaaDoor

/- Layer 8: a journal that is opened till it tells what it must. Layer 8: the power went off within a call: booted, and opened. -/
import Derived.Test.YtomfdnjbipgmcaaDoorZ34
namespace Go.Proofs.YtomfdnjbipgmcaaDoor
open Go.RowKit Go.Maps

/-- Open of a journal at rest: it tells what it has; or the power goes off -/
theorem openJ_any {w : World} {c : Nat → Colour} {t g : Nat} {m : Pl} (h : Live w c t g m) {ds ts : List Nat} {i n : Nat} (hd : DiskOn m ds ts i) (hn : ds.getD i 0 = n) (ht : Fr.TabIn w) (htc : (c 0).1 ≠ t) {D : List (List (List Nat))} (hj : Jc m i n D) :
    Calls Tryd.prog 12 #[ptr g, .int .i64 (i : Nat)] w fun e w' => ∃ c' m', (∀ b, b < w.heap.size → c' b = c b) ∧ Live w' c' t g m' ∧ Ch (fun b => (c b).1 = t) w w' ∧ Rel m m' i ∧ m'.steps ≤ m.steps + 2 ∧
      ((∃ gw tv S E, e = .returned (.tuple #[ptr gw, tv, .int .i64 0]) ∧ w.heap.size ≤ gw ∧ WalAt w' c' t gw g (i : Int) S E ∧ Jo m' i n S E D ∧ (m.fuse < 0 → m'.fuse < 0) ∧ ∃ us, Rob (fun b => w.heap.size ≤ b ∧ b < gw ∧ (c' b).1 ≠ t) (fun W => TxsC W tv D us) w') ∨
       (0 ≤ m.fuse ∧ e = .returned (.tuple #[.pointer none, .slice none 0 0, .int .i64 2]) ∧ m'.on = false ∧ m'.WF ∧ ∀ ks, Jc (m'.boot ks) i n D)) := by
  have hst := hd.steps
  obtain ⟨S, B, F, rows, hJ, hD⟩ := hj
  have hsm := Jc.small ⟨S, B, F, rows, hJ, hD⟩
  have hS := hJ.lt (by omega)
  have h1 := hJ.openR (by omega)
  obtain ⟨_, hs1, hs2⟩ := headOpen hJ.head hJ.le hS
  have hlog := hJ.logOf (by omega)
  refine (open_any h hd ht htc).mono fun e w' he => ?_
  obtain ⟨wv, tv, he, c', hcc, hl, hch, ho, hx⟩ := he
  rw [hn, h1] at he hl ho hx
  refine ⟨c', (m.begin (i : Int) (S + 1) F).2, hcc, hl, hch, ?_⟩
  rcases hJ.beginC hJ.ltB with ⟨k1, k2, k3⟩ | ⟨k1, k2, k3⟩
  · have hle := k2.le
    simp only [List.length_singleton] at hle
    refine ⟨k2.oth.rel, by omega, Or.inl ?_⟩
    obtain ⟨gw, D', used, q1, q2, q3, q4, q5, q6, W5, q7, q8, q9⟩ := ho k1
    rw [hs1, hs2, hlog] at q3
    rw [hs1] at q5
    injection q3 with q3
    injection q3 with q3 q3'
    rw [hD] at q3
    subst q3 q3'
    obtain ⟨us, hus⟩ := q8.con (by omega) fun tx htx => by have := (notLong (hsm.2 tx htx)).1; omega
    refine ⟨gw, tv, S + 1, logLen rows, by rw [he, k1, q1], q2, q5, ⟨F, rows, k3, hD, rfl⟩, k2.fuse, us, fun W h2 h3 => ?_⟩
    exact hus W (by have := q5.row.lt; omega) fun b h4 h5 => (h3 b (by have := q5.row.lt; omega) ⟨h4, by omega, by rw [q6 b (by omega)]; exact h.2.2 b h4⟩).trans (q9 b h4 (by omega))
  · have hle := k2.le
    simp only [List.length_singleton] at hle
    refine ⟨k2.oth.rel, by omega, Or.inr ⟨k2.fuse, ?_, k2.off, k2.wf, fun ks => ?_⟩⟩
    · obtain ⟨q1, q2⟩ := hx (by rw [k1]; decide)
      rw [he, k1, q1, q2]
    · rcases k3 ks with k | k
      · exact ⟨S, B, F, rows, k, hD⟩
      · exact ⟨S + 1, B, F, rows, k, hD⟩
/-- what holds behind an opening of the desk's journal -/
structure Opn (w : World) (c : Nat → Colour) (t gd g : Nat) (m : Pl) (ds ts : List Nat) (i n : Nat) (D : List (List (List Nat))) (dims K Kd : Nat) (w' : World) (c' : Nat → Colour) (gw : Nat) (m' : Pl) (S E : Nat) (nv' : Value) (dims' : Nat) : Prop where
  cc : ∀ b, b < w.heap.size → c' b = c b
  ch : Ch (fun b => (c b).1 = t ∨ b = gd) w w'
  dk : Dk w' c' t gd g m' ds ts i n (ptr gw) nv' (costs D) dims'
  wal : WalAt w' c' t gw g (i : Int) S E
  new : w.heap.size ≤ gw
  jo : Jo m' i n S E D
  now : ∃ us, Rob (Fr3 c' t gd gw) (fun W => TxsC W nv' D us) w'
  rel : Rel m m' i
  le : m'.steps ≤ m.steps + K
  dim : dims' ≤ dims + Kd
/-- what holds ahead of each round -/
structure OpSt (w : World) (c : Nat → Colour) (t gd g : Nat) (m : Pl) (ds ts : List Nat) (i n : Nat) (D : List (List (List Nat))) (wv nv : Value) (cost dims : Nat) (kv : Value) (ks : List Int) (mv : Value) (l : List (Value × List (List (List Nat)) × List Value)) (k : Nat) (W : World) (c1 : Nat → Colour) (m1 : Pl) (d1 : Nat) : Prop where
  le : k ≤ 1
  fuse : k = 1 → m1.fuse < 0
  dk : Dk W c1 t gd g m1 ds ts i n wv nv cost d1
  jc : Jc m1 i n D
  cc : ∀ b, b < w.heap.size → c1 b = c b
  ch : Ch (fun b => (c b).1 = t ∨ b = gd) w W
  rel : Rel m m1 i
  steps : m1.steps ≤ m.steps + 4 * k
  dim : d1 ≤ dims + k
  keep : KeepX W (Fr2 c1 t gd) kv ks
  may : Rob (Fr2 c1 t gd) (fun W => MayIn W mv l) W
theorem Dk.later {w w1 : World} {c c1 : Nat → Colour} {t gd : Nat} (hcc : ∀ b, b < w.heap.size → c1 b = c b) (hch : Ch (fun b => (c b).1 = t ∨ b = gd) w w1) : ∀ b, b < w.heap.size → Fr2 c t gd b → w1.heap[b]? = w.heap[b]? ∧ Fr2 c1 t gd b := fun b hb hp => ⟨hch.block b hb (fun e => e.elim hp.1 hp.2), by unfold Fr2; rw [hcc b hb]; exact hp⟩
end Go.Proofs.YtomfdnjbipgmcaaDoor

namespace Go.Proofs.YtomfdnjbipgmcaaDoor
open Go.RowKit Go.Maps

theorem Opn.after {w w1 : World} {c c1 : Nat → Colour} {t gd g : Nat} {m m1 : Pl} {ds ts : List Nat} {i n : Nat} {D : List (List (List Nat))} {dims dims1 K Kd K' Kd' : Nat} {w' : World} {c' : Nat → Colour} {gw : Nat} {m' : Pl} {S E : Nat} {nv' : Value} {dims' : Nat} (h : Opn w1 c1 t gd g m1 ds ts i n D dims1 K Kd w' c' gw m' S E nv' dims') (hcc : ∀ b, b < w.heap.size → c1 b = c b) (hch : Ch (fun b => (c b).1 = t ∨ b = gd) w w1) (hr : Rel m m1 i) (hs : m1.steps + K ≤ m.steps + K') (hd : dims1 + Kd ≤ dims + Kd') : Opn w c t gd g m ds ts i n D dims K' Kd' w' c' gw m' S E nv' dims' :=
  ⟨fun b hb => by rw [h.cc b (Nat.lt_of_lt_of_le hb hch.size)]; exact hcc b hb, hch.trans' h.ch fun b hb e => by rw [← hcc b hb]; exact e, h.dk, h.wal, Nat.le_trans hch.size h.new, h.jo, h.now, hr.trans h.rel, by have := h.le; omega, by have := h.dim; omega⟩
end Go.Proofs.YtomfdnjbipgmcaaDoor

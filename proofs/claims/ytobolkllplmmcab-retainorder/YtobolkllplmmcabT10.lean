/- The sort of what is due. -/
import Derived.Test.YtobolkllplmmcabT8
import Derived.Test.YtobolkllplmmcabShelf
import Derived.Lib.OwnBridge
namespace Go.Proofs.Ytobolkllplmmcab
open Go.RowKit Go.Sort Go.Lib

theorem sw_block {α : Type} [Inhabited α] (enc : α → Value) (w : World) (g off m : Nat) (d : Array α) (os : Array Obj) (b : Nat) (hb : b < w.heap.size) (hne : b ≠ g) : (sortWorld enc w g off m d os).heap[b]? = w.heap[b]? := by
  unfold sortWorld putRow mapBlock
  rw [heap_grow_old _ _ (by simpa [Sort.ahead] using hb)]
  simp [Sort.ahead, Array.getElem?_modify, Ne.symm hne]
theorem sw_grown {α : Type} [Inhabited α] (enc : α → Value) (w : World) (g off m : Nat) (d : Array α) (os : Array Obj) : w.grownBy (sortWorld enc w g off m d os) (some g) :=
  ⟨rfl, rfl, rfl, by simp [sortWorld, putRow, mapBlock, grow, Sort.ahead], fun b hb hne => sw_block enc w g off m d os b hb fun e => hne (congrArg some e)⟩
theorem grow_none (w : World) : grow w #[] = w := by
  unfold grow
  rw [Array.append_empty]
theorem own_grow {w : World} {base e sz n : Nat} {v : Value} {xs : List Value} (h : w.ownsRow base e sz v n xs) (os : Array Obj) : (grow w os).ownsRow base e sz v n xs :=
  own_kept h fun b hb => heap_grow_old _ _ (h.lt b hb).2
set_option maxHeartbeats 4000000 in
theorem sort_any (l : List Rv) (vl : Value) (q : Nat) (w : World) (base : Nat) (vd : Value) (is : List Nat) (hb : w.cell? ⟨q, 0, none⟩ = some vl) (hin : RsIn w vl l) (hown : IOwn w base vd is) (hlt : ∀ i ∈ is, i < l.length) (hq : vd.ownBlock ≠ some q) (hne : l ≠ [] → ∀ b, vl.ownBlock = some b → vd.ownBlock ≠ some b) (hsz : is.length < 4611686018427387904) :
    Calls Try.prog 13 #[vd, .func (.func 14) #[] #[ptr q]] w fun e w' => e = .returned noResult ∧ (∃ is' : List Nat, is'.Perm is ∧ is'.Pairwise (fun i j => ¬ RI (l.map (·.r)) j i) ∧ IOwn w' base vd is') ∧ w.grownBy w' vd.ownBlock := by
  by_cases h0 : is = []
  · subst h0
    obtain ⟨p, cap, rfl⟩ : ∃ p cap, vd = .slice p 0 cap := by
      rcases hown.2 with ⟨rfl, _⟩ | ⟨g, cap, _, rfl, _⟩
      · exact ⟨_, _, rfl⟩
      · exact ⟨_, _, rfl⟩
    have h := AnyF.slices_SortFunc_none (P := Try.prog) (ρ := Try.laySort_ren) { Try.laySort with } p cap (.func (.func 14) #[] #[ptr q]) w
    refine Calls.mono h ?_
    rintro e w' ⟨rfl, rfl⟩
    exact ⟨rfl, ⟨[], List.Perm.refl _, List.Pairwise.nil, hown⟩, World.grownBy.refl _ _⟩
  · obtain ⟨i0, hi0⟩ : ∃ i, i ∈ is := List.exists_mem_of_ne_nil _ h0
    have hpos : 0 < l.length := Nat.lt_of_le_of_lt (Nat.zero_le _) (hlt i0 hi0)
    let α := { i : Nat // i < l.length }
    letI : Inhabited α := ⟨⟨0, hpos⟩⟩
    let enc : α → Value := fun x => .int .i64 (x.1 : Nat)
    let cf : α → α → Int := fun x y => cmpI (l.map (·.r)) x.1 y.1
    obtain ⟨zs, hzs⟩ : ∃ zs : List α, zs.map (·.1) = is := ⟨is.attach.map fun x => ⟨x.1, hlt x.1 x.2⟩, by simp⟩
    have hmap : is.map (fun i => Value.int .i64 (i : Nat)) = zs.map enc := by
      rw [← hzs, List.map_map]
      rfl
    have hlen : zs.length = is.length := by rw [← hzs, List.length_map]
    have hlt' : ∀ x y : α, ltOf cf x y = true ↔ RI (l.map (·.r)) x.1 y.1 := fun x y => by
      unfold ltOf
      rw [decide_eq_true_iff]
      exact cmpI_lt _ _ _
    have hltf : ∀ x y : α, ltOf cf x y = false ↔ ¬ RI (l.map (·.r)) x.1 y.1 := fun x y => by
      rw [← hlt', Bool.not_eq_true]
    have hO : SWO (ltOf cf) := ⟨fun x => (hltf x x).2 (RI.irrefl _ _), fun x y z h k => (hlt' x z).2 (((hlt' x y).1 h).trans ((hlt' y z).1 k)), fun x y z h k => (hltf x z).2 (RI.ntrans ((hltf x y).1 h) ((hltf y z).1 k))⟩
    unfold IOwn at hown
    rw [hmap] at hown
    have hvd : vd ≠ .slice none 0 0 := by
      rintro rfl
      rcases hown.2 with ⟨_, h⟩ | ⟨g, cap, cur, h, _⟩
      · exact h0 (List.eq_nil_of_length_eq_zero h)
      · cases h
    obtain ⟨g, cap, rfl, hbg, hg, hnc, hcm, hzl, hH⟩ := holds_of_ownsRow hown hvd
    have hqg : q ≠ g := fun e => hq (by rw [e]; rfl)
    have hqlt : q < w.heap.size := block_lt_of_cell hb
    have hcmp : CmpLays1 Try.prog 14 #[ptr q] enc cf g 0 zs.toArray.size w := by
      intro m os dk _ x y
      have hq' : (sortWorld enc w g 0 m dk os).cell? ⟨q, 0, none⟩ = some vl := by
        rw [← hb]
        exact World.cell?_of_block (w := w) (sw_block enc w g 0 m dk os q hqlt hqg)
      have hin' : RsIn (sortWorld enc w g 0 m dk os) vl l := hin.keep fun b hb' hlt => sw_block enc w g 0 m dk os b hlt fun e => hne (List.ne_nil_of_length_pos hpos) b hb' (by rw [e]; rfl)
      refine Calls.mono (closure_any l vl q _ hq' hin' x.1 y.1 x.2 y.2) ?_
      rintro e w' ⟨rfl, n, rfl⟩
      exact ⟨rfl, n, #[], (grow_none _).symm⟩
    have h := Any.slices_SortFunc Try.laySort enc (fun _ => rfl) cf hO 14 #[ptr q] g 0 cap zs.toArray w eN26 hcmp hH hg (by simpa [hlen] using hsz)
    change Calls Try.prog 13 _ _ _ at h
    rw [show zs.toArray.size = is.length from hzl] at h
    refine Calls.mono h ?_
    rintro e w' ⟨rfl, d', n, os, hperm, hsort, rfl⟩
    obtain ⟨hds, _, hpm⟩ := hperm
    have hds' : d'.size = is.length := by rw [hds]; exact hzl
    have hp : d'.toList.Perm zs := by
      have e1 : d'.extract 0 is.length = d' := by rw [← hds']; simp
      have e2 : zs.toArray.extract 0 is.length = zs.toArray := by rw [← hzl]; simp
      rw [e1, e2] at hpm
      simpa using hpm
    refine ⟨rfl, ⟨d'.toList.map (·.1), ?_, ?_, ?_⟩, sw_grown enc w g 0 n d' os⟩
    · rw [← hzs]
      exact hp.map _
    · rw [List.pairwise_map, List.pairwise_iff_getElem]
      intro i j hi hj hij
      have hj' : j < d'.size := by simpa using hj
      have := (hltf _ _).1 (hsort i j (Nat.zero_le _) hij (by rw [← hds']; exact hj'))
      have e1 : d'[i]! = d'.toList[i] := by simp [show i < d'.size by omega]
      have e2 : d'[j]! = d'.toList[j] := by simp [hj']
      rw [e1, e2] at this
      exact this
    · have hl2 : d'.toList.length = is.length := by simpa using hds'
      have ho := ownsRow_putRow (q := n) (k := is.length) hown (ys := d'.toList) hl2 (Nat.le_refl _)
      rw [show d'.toList.toArray = d' from rfl, List.take_of_length_le (by omega)] at ho
      unfold IOwn
      rw [List.length_map, hl2, List.map_map]
      exact own_grow ho os
end Go.Proofs.Ytobolkllplmmcab

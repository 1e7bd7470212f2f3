/- The walk of Plant.Boot. -/
import Derived.Test.YtgkmegcejekbcaaAll
namespace Go.Proofs.Ytgkmegcejekbcaa
open Go.RowKit Go.Maps

/-- what is said of the i-th write -/
def bootK (keep : List Int) (i : Nat) : Int := if keep.length = 0 then 0 else keep.getD (i % keep.length) 0
/-- the devices and the tapes that are ended, behind one more write -/
def bootStep (m : Pl) (keep : List Int) (st : (Nat → List (List Nat)) × (Nat → Bool)) (i : Nat) (x : Wr) : (Nat → List (List Nat)) × (Nat → Bool) :=
  if st.2 x.dev = true then st
  else (upd st.1 x.dev (settled (m.tape x.dev) (st.1 x.dev) x.place x.b (bootK keep i)), fun d => if d = x.dev then !goesOn (m.tape x.dev) (bootK keep i) else st.2 d)
def bootTo (m : Pl) (keep : List Int) : Nat → (Nat → List (List Nat)) × (Nat → Bool)
  | 0 => (m.fl, fun _ => false)
  | n + 1 => match m.wts[n]? with
    | some x => bootStep m keep (bootTo m keep n) n x
    | none => bootTo m keep n
def Pl.boot (m : Pl) (keep : List Int) : Pl := { m with fl := (bootTo m keep m.wts.length).1, wts := [], on := true, fuse := -1 }
theorem bootTo_succ (m : Pl) (keep : List Int) (n : Nat) (x : Wr) (h : m.wts[n]? = some x) : bootTo m keep (n + 1) = bootStep m keep (bootTo m keep n) n x := by
  rw [bootTo, h]

def Pl.withFl (m : Pl) (fl : Nat → List (List Nat)) : Pl := { m with fl := fl }

/-- numbers handed in, none of them in a block of the plant's -/
def KeepIn (w : World) (c : Nat → Colour) (t : Nat) (v : Value) (ks : List Int) : Prop :=
  ∃ p cap, v = .slice p ks.length cap ∧ ks.length ≤ cap ∧ ks.length < 4611686018427387904 ∧ (ks = [] ∨ ∃ b off, p = some ⟨b, off, none⟩ ∧ (c b).1 ≠ t ∧ b < w.heap.size ∧ ∀ j, j < ks.length → w.cell? ⟨b, off + j, none⟩ = some (.int .i64 (ks.getD j 0)))

/-- a tape that has not ended takes the next of its blocks -/
theorem boot_place {m : Pl} (h : m.WF) (keep : List Int) : ∀ n, n ≤ m.wts.length → ∀ i, i < m.n →
    (∀ s ∈ (bootTo m keep n).1 i, Sec s) ∧ (m.tape i = false → ((bootTo m keep n).1 i).length = m.size i) ∧
    (m.tape i = true → (bootTo m keep n).2 i = false → ((bootTo m keep n).1 i).length = (m.fl i).length + ((m.wts.take n).filter fun x => x.dev == i).length) ∧
    (m.tape i = true → ((bootTo m keep n).1 i).length ≤ (m.fl i).length + ((m.wts.take n).filter fun x => x.dev == i).length)
  | 0, _, i, hi => by
    refine ⟨h.secs i, fun ht => h.disk i hi ht, fun _ _ => by simp [bootTo], fun _ => by simp [bootTo]⟩
  | n + 1, hn, i, hi => by
    obtain ⟨x, hx⟩ : ∃ x, m.wts[n]? = some x := ⟨_, List.getElem?_eq_getElem (by omega)⟩
    obtain ⟨h1, h2, h3, h4⟩ := boot_place h keep n (by omega) i hi
    rw [bootTo_succ m keep n x hx, take_next _ n x hx, List.filter_append]
    have hxs : Sec x.b := h.wsec x (List.mem_of_getElem? hx)
    unfold bootStep
    by_cases he : (bootTo m keep n).2 x.dev = true
    · rw [if_pos he]
      refine ⟨h1, h2, fun ht hee => ?_, fun ht => ?_⟩
      · have hne : x.dev ≠ i := fun e => by rw [e, hee] at he; cases he
        have := h3 ht hee
        simp [hne, this]
      · have := h4 ht
        simp
        omega
    · rw [if_neg he]
      by_cases hd : i = x.dev
      · subst hd
        have hu : upd (bootTo m keep n).1 x.dev (settled (m.tape x.dev) ((bootTo m keep n).1 x.dev) x.place x.b (bootK keep n)) x.dev = settled (m.tape x.dev) ((bootTo m keep n).1 x.dev) x.place x.b (bootK keep n) := by simp [upd]
        simp only [hu]
        have hlay : ∀ b, Sec b → ∀ s ∈ lay (m.tape x.dev) ((bootTo m keep n).1 x.dev) x.place b, Sec s := fun b hb s hs => by
          unfold lay at hs
          split at hs
          · rcases List.mem_append.1 hs with hs | hs
            · exact h1 s hs
            · rw [List.mem_singleton.1 hs]
              exact hb
          · rcases List.mem_or_eq_of_mem_set hs with hs | hs
            · exact h1 s hs
            · rw [hs]
              exact hb
        refine ⟨fun s hs => ?_, fun ht => ?_, fun ht hee => ?_, fun ht => ?_⟩
        · unfold settled at hs
          split at hs
          · exact hlay _ hxs s hs
          · split at hs
            · exact hlay _ (torn_sec hxs) s hs
            · exact h1 s hs
        · unfold settled
          rw [ht]
          simp only [Bool.false_eq_true, false_and, if_false]
          split
          · rw [lay_length]
            simpa using h2 ht
          · exact h2 ht
        · have hee' : goesOn (m.tape x.dev) (bootK keep n) = true := by simpa using hee
          have hodd : bootK keep n % 2 = 1 := by
            unfold goesOn at hee'
            rw [ht] at hee'
            simpa using hee'
          unfold settled
          rw [if_pos hodd, lay_length, ht, h3 ht (by simpa using he)]
          simp
          omega
        · have h4' := h4 ht
          have hle : (settled (m.tape x.dev) ((bootTo m keep n).1 x.dev) x.place x.b (bootK keep n)).length ≤ ((bootTo m keep n).1 x.dev).length + 1 := by
            unfold settled
            rw [ht]
            split
            · rw [lay_length]; simp
            · split
              · rw [lay_length]; simp
              · omega
          simp
          omega
      · have hu : upd (bootTo m keep n).1 x.dev (settled (m.tape x.dev) ((bootTo m keep n).1 x.dev) x.place x.b (bootK keep n)) i = (bootTo m keep n).1 i := by simp [upd, hd]
        simp only [hu, if_neg hd]
        have hf : (List.filter (fun x => x.dev == i) [x]).length = 0 := by simp [Ne.symm hd]
        refine ⟨h1, h2, fun ht hee => ?_, fun ht => ?_⟩
        · rw [h3 ht hee, List.length_append, hf]
          omega
        · rw [List.length_append, hf]
          exact h4 ht
end Go.Proofs.Ytgkmegcejekbcaa

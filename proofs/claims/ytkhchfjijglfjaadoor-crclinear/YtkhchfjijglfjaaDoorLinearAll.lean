/- The law CrcLinear: its two ways together; what a slice that came in has behind its length. -/
import Derived.Test.YtkhchfjijglfjaaDoorLinear
import Derived.Test.YtkhchfjijglfjaaDoorOpen
namespace Go.Proofs.YtkhchfjijglfjaaDoor
open Go.ChangeShapes Go.WideShapes Go.ChangeAt Go.RowKit

/-- a slice's length is within its capacity -/
theorem fits {H : Type} {enc : TypeId × Value → H} {W : World} {v : Value} {d : DataW H} {p : List MemPlace} {base : Nat}
    (hv : Value.okWide Tryd.prog W .any base 22 v) (h : DataW.Trod enc Tryd.prog W 0 (fun _ => true) true 22 v d p) : ∀ q n c, v = .slice q n c → n ≤ c := by
  obtain ⟨a0, len0, cap0, rfl⟩ := okWide_slice Tryd.underlying22 hv
  obtain ⟨fuel, hf⟩ := h
  intro q n c e
  simp only [Value.slice.injEq] at e
  obtain ⟨rfl, rfl, rfl⟩ := e
  rcases open_ints Tryd.underlying22 Tryd.underlying5 cells5 hf with ⟨hcs, _⟩ | ⟨x, l, c, zs, hcs, _, hl, hm, hz, hx, hcell, hwz⟩
  · simp [Value.cells] at hcs
    omega
  · simp [Value.cells] at hcs
    omega

theorem crcLinear_any (va vb vc : Value) (xs ys zs : List Nat) (w : World) (hx : SliceIn w va xs) (hy : SliceIn w vb ys) (hz : SliceIn w vc zs) (ht : TabIn w)
    (fx : ∀ q n c, va = .slice q n c → n ≤ c) (fy : ∀ q n c, vb = .slice q n c → n ≤ c) (fz : ∀ q n c, vc = .slice q n c → n ≤ c)
    (mx : xs.length ≤ 140737488351232) (my : ys.length ≤ 140737488351232) (mz : zs.length ≤ 140737488351232) :
    Calls Tryd.prog 6 #[va, vb, vc] w fun e w' => e = .returned (.bool true) ∧ Below w.heap.size w w' := by
  obtain ⟨pa, ca, rfl, _, hx⟩ := hx
  obtain ⟨pb, cb, rfl, _, hy⟩ := hy
  obtain ⟨pc, cc, rfl, _, hz⟩ := hz
  by_cases h0 : xs.length = 0 ∨ ys.length = 0 ∨ zs.length = 0
  · exact linear_zero pa pb pc xs.length ys.length zs.length ca cb cc w ht h0 mx my mz
  rcases hx with rfl | ⟨a, oa, rfl, hx⟩
  · exact absurd (Or.inl rfl) h0
  rcases hy with rfl | ⟨b, ob, rfl, hy⟩
  · exact absurd (Or.inr (Or.inl rfl)) h0
  rcases hz with rfl | ⟨c, oc, rfl, hz⟩
  · exact absurd (Or.inr (Or.inr rfl)) h0
  have h1 := Nat.min_le_left xs.length (min ys.length zs.length)
  have h2 := Nat.min_le_right xs.length (min ys.length zs.length)
  have h3 := Nat.min_le_left ys.length zs.length
  have h4 := Nat.min_le_right ys.length zs.length
  exact linear_some a b c oa ob oc ca cb cc (min xs.length (min ys.length zs.length)) xs ys zs w ht hx hy hz (fx _ _ _ rfl) (fy _ _ _ rfl) (fz _ _ _ rfl) mx my mz (by omega) (by omega) (by omega) (by omega)
end Go.Proofs.YtkhchfjijglfjaaDoor

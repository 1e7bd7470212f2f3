/- Two values of 32 bytes that are one are told to be one. -/
import Derived.Test.YtjdmpanemdhbbaaDoorState
import Derived.Laws.StructEq
namespace Go.Proofs.YtjdmpanemdhbbaaDoor
open Go.RowKit

theorem info5e : (Tryd.prog.info? 5).map (·.size) = some 1 := by kernel_rfl
theorem eql25 (cs : List Nat) (hl : cs.length = 32) (W : World) : (Op.equalIn 10000 23 (.agg (bcells cs).toArray) (.agg (bcells cs).toArray)).run Tryd.prog W = .ok true W := by
  obtain ⟨i, hi, hsz⟩ := Option.map_eq_some_iff.1 info5e
  have key : ∀ j, j < 32 → ((part 5 (bcells cs).toArray (j * i.size)).run Tryd.prog W = .ok (.int .u8 (cs.getD j 0 : Nat)) W) := by
    intro j hj
    have := bcells_at cs j (by omega)
    simp [part, isAgg, run_underlying Tryd.underlying5, this, hsz]
  have e : (10000 : Nat) = 9998 + 1 + 1 := rfl
  have hs5 : (sizeOf 5).run Tryd.prog W = .ok i.size W := by simp [sizeOf, typeInfo, hi]
  have hq : ∀ a : Int, (Op.equalIn (9998 + 1) 5 (.int .u8 a) (.int .u8 a)).run Tryd.prog W = .ok true W := fun a => by
    rw [run_equalIn_int W 9998 5 .u8 .u8 a a Tryd.underlying5]
    simp
  rw [e, Op.equalIn]
  simp only [Sem.run_bind, run_underlying Tryd.underlying23, Result.andThen_ok, hs5, Std.Legacy.Range.forIn_eq_forIn_range']
  have hL : ∀ j ∈ List.range' 0 32 1, j < 32 := by
    intro j hj
    have := (List.mem_range'_1.1 hj).2
    omega
  show Result.andThen (Sem.run Tryd.prog (forIn (List.range' 0 32 1) _ _) W) _ = _
  generalize List.range' 0 32 1 = L at hL ⊢
  induction L with
  | nil => simp
  | cons j L ih =>
    have hj := hL j (by simp)
    have hk := key j hj
    have ih' := ih (fun x hx => hL x (by simp [hx]))
    simp only [List.forIn_cons, Sem.run_bind, hk, Result.andThen_ok, hq, Bool.not_true, Bool.false_eq_true, if_false, Sem.run_pure]
    exact ih'
end Go.Proofs.YtjdmpanemdhbbaaDoor

/- Sums and quotients of numbers; the least and the greatest of a row. -/
import Derived.Test.YtbmlbnbhjligdaaI1
namespace Go.Proofs.Ytbmlbnbhjligdaa
open Go.RowKit Go.MapKept

theorem wrap_i64 (z : Int) (h : -9223372036854775808 ≤ z) (h' : z ≤ 9223372036854775807) : IntKind.i64.wrap z = z := by
  simp [IntKind.wrap, IntKind.signed, IntKind.bits]; omega
section
variable {w : World} {a : Act} {o : Oper}
theorem run_addZ (x y : Operand) (ho : o.op = .binOp .add 3 x y 3) (z z' r : Int) (hx : a.eval x = .int .i64 z) (hy : a.eval y = .int .i64 z') (hr : z + z' = r) (h : -9223372036854775808 ≤ r) (h' : r ≤ 9223372036854775807) : (execOp a.eval o).run Try.prog w = .ok (.value (.int .i64 r)) w := by
  subst hr
  simp only [execOp, ho, hx, hy]
  simp [go_sem, wrap_i64 _ h h']
theorem run_subZ (x y : Operand) (ho : o.op = .binOp .sub 3 x y 3) (z z' r : Int) (hx : a.eval x = .int .i64 z) (hy : a.eval y = .int .i64 z') (hr : z - z' = r) (h : -9223372036854775808 ≤ r) (h' : r ≤ 9223372036854775807) : (execOp a.eval o).run Try.prog w = .ok (.value (.int .i64 r)) w := by
  subst hr
  simp only [execOp, ho, hx, hy]
  simp [go_sem, wrap_i64 _ h h']
theorem run_mulZ (x y : Operand) (ho : o.op = .binOp .mul 3 x y 3) (z z' r : Int) (hx : a.eval x = .int .i64 z) (hy : a.eval y = .int .i64 z') (hr : z * z' = r) (h : -9223372036854775808 ≤ r) (h' : r ≤ 9223372036854775807) : (execOp a.eval o).run Try.prog w = .ok (.value (.int .i64 r)) w := by
  subst hr
  simp only [execOp, ho, hx, hy]
  simp [go_sem, wrap_i64 _ h h']
/-- divided without the rest -/
theorem run_quoZ (x y : Operand) (ho : o.op = .binOp .quo 3 x y 3) (z k r : Int) (hx : a.eval x = .int .i64 z) (hy : a.eval y = .int .i64 k) (hk : k ≠ 0) (hr : Int.tdiv z k = r) (h : -9223372036854775808 ≤ r) (h' : r ≤ 9223372036854775807) : (execOp a.eval o).run Try.prog w = .ok (.value (.int .i64 r)) w := by
  subst hr
  simp only [execOp, ho, hx, hy]
  simp [go_sem, wrap_i64 _ h h', hk]
theorem run_minZ (x y : Operand) (ho : o.op = .call { callee := .builtin .min, args := #[x, y], argTypes := #[3, 3] }) (z z' : Int) (hx : a.eval x = .int .i64 z) (hy : a.eval y = .int .i64 z') : (execOp a.eval o).run Try.prog w = .ok (.value (.int .i64 (min z z'))) w := by
  have hr : ∀ ty, (Builtin.min_ #[3, 3] ty #[.int .i64 z, .int .i64 z']).run Try.prog w = .ok (.int .i64 (min z z')) w := fun ty => by
    rw [run_min_int2]
    congr 2
    split <;> omega
  simp only [execOp, ho, resolve, invoke, builtin, Sem.run_bind, Sem.run_pure, Result.andThen_ok, List.map_toArray, List.map_cons, List.map_nil, hx, hy]
  have := hr o.type
  simp [this]
theorem run_maxZ (x y : Operand) (ho : o.op = .call { callee := .builtin .max, args := #[x, y], argTypes := #[3, 3] }) (z z' : Int) (hx : a.eval x = .int .i64 z) (hy : a.eval y = .int .i64 z') : (execOp a.eval o).run Try.prog w = .ok (.value (.int .i64 (max z z'))) w := by
  have hr : ∀ ty, (Builtin.max_ #[3, 3] ty #[.int .i64 z, .int .i64 z']).run Try.prog w = .ok (.int .i64 (max z z')) w := fun ty => by
    rw [run_max_int2]
    congr 2
    split <;> omega
  simp only [execOp, ho, resolve, invoke, builtin, Sem.run_bind, Sem.run_pure, Result.andThen_ok, List.map_toArray, List.map_cons, List.map_nil, hx, hy]
  have := hr o.type
  simp [this]
end
/-- the least of the first n, the first one with it -/
def mnk (l : List Int) (n : Nat) : Int := (l.take n).foldl min (nth l 0)
def mxk (l : List Int) (n : Nat) : Int := (l.take n).foldl max (nth l 0)
theorem mnk_succ (l : List Int) (n : Nat) (h : n < l.length) : mnk l (n + 1) = min (mnk l n) (nth l n) := by
  unfold mnk
  rw [List.take_succ_eq_append_getElem h, List.foldl_append, nth_at l n h]
  rfl
theorem mxk_succ (l : List Int) (n : Nat) (h : n < l.length) : mxk l (n + 1) = max (mxk l n) (nth l n) := by
  unfold mxk
  rw [List.take_succ_eq_append_getElem h, List.foldl_append, nth_at l n h]
  rfl
theorem mnk_one (l : List Int) (h : 0 < l.length) : mnk l 1 = nth l 0 := by
  rw [mnk_succ l 0 h]
  unfold mnk
  rw [List.take_zero, List.foldl_nil, Int.min_self]
theorem mxk_one (l : List Int) (h : 0 < l.length) : mxk l 1 = nth l 0 := by
  rw [mxk_succ l 0 h]
  unfold mxk
  rw [List.take_zero, List.foldl_nil, Int.max_self]
theorem foldl_min (c : Int) : ∀ (l : List Int) (a : Int), c ≤ l.foldl min a ↔ c ≤ a ∧ ∀ x ∈ l, c ≤ x
  | [], a => by simp
  | y :: r, a => by
    rw [List.foldl_cons, foldl_min c r, show c ≤ min a y ↔ c ≤ a ∧ c ≤ y by omega, and_assoc]
    simp only [List.mem_cons, forall_eq_or_imp]
theorem foldl_max (c : Int) : ∀ (l : List Int) (a : Int), l.foldl max a ≤ c ↔ a ≤ c ∧ ∀ x ∈ l, x ≤ c
  | [], a => by simp
  | y :: r, a => by
    rw [List.foldl_cons, foldl_max c r, show max a y ≤ c ↔ a ≤ c ∧ y ≤ c by omega, and_assoc]
    simp only [List.mem_cons, forall_eq_or_imp]
def mn (l : List Int) : Int := mnk l l.length
def mx (l : List Int) : Int := mxk l l.length
theorem le_mn (l : List Int) (h : 0 < l.length) (c : Int) : c ≤ mn l ↔ ∀ x ∈ l, c ≤ x := by
  unfold mn mnk
  rw [List.take_length, foldl_min]
  have hm : nth l 0 ∈ l := by
    rw [nth_at l 0 h]
    exact List.getElem_mem h
  exact ⟨fun h => h.2, fun h => ⟨h _ hm, h⟩⟩
theorem mx_le (l : List Int) (h : 0 < l.length) (c : Int) : mx l ≤ c ↔ ∀ x ∈ l, x ≤ c := by
  unfold mx mxk
  rw [List.take_length, foldl_max]
  have hm : nth l 0 ∈ l := by
    rw [nth_at l 0 h]
    exact List.getElem_mem h
  exact ⟨fun h => h.2, fun h => ⟨h _ hm, h⟩⟩

set_option maxHeartbeats 1000000 in
set_option maxRecDepth 100000 in
theorem min_any (w : World) (v : Value) (l : List Int) (hv : IntsIn w v l) (h0 : 0 < l.length) : Calls Try.prog 19 #[v] w fun e w' => e = .returned (.int .i64 (mn l)) ∧ w' = w := by
  have HV : Hid (IntsIn w v l) := hv
  have hlt := hv.lt
  clear hv
  go_enter Try.func19, Try.ntmps19
  go_wp2_with (first
    | (refine wl_lenI (.tmp 6) rfl rfl v l rfl HV.out ?_)
    | (refine wl_lenI (.tmp 5) rfl rfl v l rfl HV.out ?_)
    | (refine wl_ixI (.tmp 9) (.const (.int .i64 0)) rfl rfl v l rfl HV.out 0 h0 0 rfl rfl ?_; intro b0 j0 c0))
  go_loopw [3, 4] (fun m ix W => ∃ n : Nat, n ≤ l.length ∧ 1 ≤ n ∧ ix = .int .i64 (n : Nat) ∧ m = .int .i64 (mnk l n) ∧ W = w) (fun _ ix _ => l.length - (intOf ix).toNat)
  case atStart => exact ⟨1, h0, Nat.le_refl _, rfl, by rw [mnk_one l h0], rfl⟩
  case round =>
    obtain ⟨n, hn, hn1, rfl, rfl, rfl⟩ := hrel
    by_cases hl : n < l.length
    · have hs := mnk_succ l n hl
      have HS : Hid (mnk l (n + 1) = min (mnk l n) (nth l n)) := hs
      clear hs
      generalize mnk l n = z at HS ⊢
      go_wp2_with (first
        | (refine wl_lenI (.tmp 13) rfl rfl v l rfl HV.out ?_)
        | (refine wl_ixI (.tmp 19) (.tmp 20) rfl rfl v l rfl HV.out n hl _ rfl rfl ?_; intro b1 j1 c1)
        | (refine wl rfl _ _ (run_minZ (.tmp 18) (.tmp 22) rfl _ _ rfl rfl) ?_))
      refine ⟨⟨n + 1, hl, by omega, by go_num, by rw [HS.out], by first | rfl | trivial⟩, ?_⟩
      simp [intOf]; omega
    · obtain rfl : n = l.length := by omega
      go_wp2_with (refine wl_lenI (.tmp 13) rfl rfl v l rfl HV.out ?_)
      go_ret
      exact ⟨rfl, rfl⟩

set_option maxHeartbeats 1000000 in
set_option maxRecDepth 100000 in
theorem max_any (w : World) (v : Value) (l : List Int) (hv : IntsIn w v l) (h0 : 0 < l.length) : Calls Try.prog 20 #[v] w fun e w' => e = .returned (.int .i64 (mx l)) ∧ w' = w := by
  have HV : Hid (IntsIn w v l) := hv
  have hlt := hv.lt
  clear hv
  go_enter Try.func20, Try.ntmps20
  go_wp2_with (first
    | (refine wl_lenI (.tmp 6) rfl rfl v l rfl HV.out ?_)
    | (refine wl_lenI (.tmp 5) rfl rfl v l rfl HV.out ?_)
    | (refine wl_ixI (.tmp 9) (.const (.int .i64 0)) rfl rfl v l rfl HV.out 0 h0 0 rfl rfl ?_; intro b0 j0 c0))
  go_loopw [3, 4] (fun m ix W => ∃ n : Nat, n ≤ l.length ∧ 1 ≤ n ∧ ix = .int .i64 (n : Nat) ∧ m = .int .i64 (mxk l n) ∧ W = w) (fun _ ix _ => l.length - (intOf ix).toNat)
  case atStart => exact ⟨1, h0, Nat.le_refl _, rfl, by rw [mxk_one l h0], rfl⟩
  case round =>
    obtain ⟨n, hn, hn1, rfl, rfl, rfl⟩ := hrel
    by_cases hl : n < l.length
    · have hs := mxk_succ l n hl
      have HS : Hid (mxk l (n + 1) = max (mxk l n) (nth l n)) := hs
      clear hs
      generalize mxk l n = z at HS ⊢
      go_wp2_with (first
        | (refine wl_lenI (.tmp 13) rfl rfl v l rfl HV.out ?_)
        | (refine wl_ixI (.tmp 19) (.tmp 20) rfl rfl v l rfl HV.out n hl _ rfl rfl ?_; intro b1 j1 c1)
        | (refine wl rfl _ _ (run_maxZ (.tmp 18) (.tmp 22) rfl _ _ rfl rfl) ?_))
      refine ⟨⟨n + 1, hl, by omega, by go_num, by rw [HS.out], by first | rfl | trivial⟩, ?_⟩
      simp [intOf]; omega
    · obtain rfl : n = l.length := by omega
      go_wp2_with (refine wl_lenI (.tmp 13) rfl rfl v l rfl HV.out ?_)
      go_ret
      exact ⟨rfl, rfl⟩
end Go.Proofs.Ytbmlbnbhjligdaa

/- Ids and bounds. -/
import Derived.Test.YtncjmolhofnpbaaR3
namespace Go.Proofs.Ytncjmolhofnpbaa
open Go.RowKit

/-- a text of these bytes -/
def str (cs : List Nat) : Value := .string (strOfNums (cs.map Int.ofNat))
theorem str_size (cs : List Nat) : (strOfNums (cs.map Int.ofNat)).size = cs.length := by simp [strOfNums, ByteArray.size]
theorem str_at (cs : List Nat) (j : Nat) (h : j < cs.length) (hb : ∀ c ∈ cs, c < 256) (h' : j < (strOfNums (cs.map Int.ofNat)).size) : (((strOfNums (cs.map Int.ofNat))[j]'h').toNat : Int) = (cs.getD j 0 : Nat) := by
  have e : (strOfNums (cs.map Int.ofNat))[j]'h' = UInt8.ofNat cs[j] := by
    show (strOfNums (cs.map Int.ofNat)).data[j]'_ = _
    simp [strOfNums]
  have h2 := hb cs[j] (List.getElem_mem h)
  rw [e]
  simp [h]
  omega
section
variable {w : World} {a : Act} {o : Oper}
theorem run_lenS (cs : List Nat) (x : Operand) (ho : o.op = .call { callee := .builtin .len, args := #[x], argTypes := #[9] }) (hx : a.eval x = str cs) : (execOp a.eval o).run Try.prog w = .ok (.value (.int .i64 (cs.length : Nat))) w := by
  have hr := run_len_string (P := Try.prog) w 9 o.type (strOfNums (cs.map Int.ofNat)) Try.underlying9
  rw [str_size] at hr
  simp only [execOp, ho, resolve, invoke, builtin, Sem.run_bind, Sem.run_pure, Result.andThen_ok, List.map_toArray, List.map_cons, List.map_nil, hx, str, hr]
  rfl
theorem run_ixS (cs : List Nat) (hb : ∀ c ∈ cs, c < 256) (x i : Operand) (ho : o.op = .index 9 x i) (hx : a.eval x = str cs) (j : Nat) (hj : j < cs.length) (hi : a.eval i = .int .i64 (j : Nat)) : (execOp a.eval o).run Try.prog w = .ok (.value (.int .u8 (cs.getD j 0 : Nat))) w := by
  have hs := str_size cs
  have hr := run_index_string (P := Try.prog) w 9 (strOfNums (cs.map Int.ofNat)) .i64 (j : Nat) Try.underlying9
  rw [dif_pos ⟨by omega, by omega⟩, str_at cs _ (by simpa using hj) hb] at hr
  simp only [Int.toNat_natCast] at hr
  simp only [execOp, ho, hx, hi, str, hr, Sem.run_bind, Sem.run_pure, Result.andThen_ok]
end
/-- isSign 26 -/
theorem isSign_any (c : Nat) (w : World) : Calls Try.prog 26 #[.int .u8 (c : Nat)] w fun e w' => e = .returned (.bool (sign c)) ∧ w = w' := by
  have HS : Hid (sign c = ((decide (97 ≤ c) && decide (c ≤ 122)) || (decide (48 ≤ c) && decide (c ≤ 57)) || decide (c = 45) || decide (c = 46))) := rfl
  generalize sign c = sg at HS ⊢
  go_enter Try.func26, Try.ntmps26
  go_wp2
  all_goals (go_ret; refine ⟨congrArg (fun b => Ending.returned (Value.bool b)) ?_, rfl⟩; rw [HS.out, Bool.eq_iff_iff]; simp; omega)
theorem within_any (n m : Int) (w : World) : Calls Try.prog 33 #[.int .i64 n, .int .i64 m] w fun e w' => e = .returned (.bool (inB n m)) ∧ w = w' := by
  have HS : Hid (inB n m = (decide (0 ≤ n) && decide (n ≤ m))) := rfl
  generalize inB n m = sg at HS ⊢
  go_enter Try.func33, Try.ntmps33
  go_wp2
  all_goals (go_ret; refine ⟨congrArg (fun b => Ending.returned (Value.bool b)) ?_, rfl⟩; rw [HS.out, Bool.eq_iff_iff]; simp; omega)
theorem flag_any (b : Bool) (n : Nat) (w : World) : Calls Try.prog 22 #[.bool b, .int .u8 (n : Nat)] w fun e w' => e = .returned (.int .u8 (bitB b n : Nat)) ∧ w = w' := by
  cases b with
  | true =>
    go_enter Try.func22, Try.ntmps22
    go_wp2
    go_ret
    exact ⟨rfl, rfl⟩
  | false =>
    go_enter Try.func22, Try.ntmps22
    go_wp2
    go_ret
    exact ⟨rfl, rfl⟩
theorem all_snoc (id : List Nat) (k : Nat) (h : k < id.length) : (id.take (k + 1)).all sign = ((id.take k).all sign && sign (id.getD k 0)) := by
  have e : id.take (k + 1) = id.take k ++ [id.getD k 0] := by
    rw [List.take_add_one]
    simp [h]
  rw [e, List.all_append]
  simp
theorem name_not (id : List Nat) (k : Nat) (h : k < id.length) (hs : sign (id.getD k 0) = false) : nameB id = false := by
  unfold nameB
  have : id.all sign = false := by
    rw [List.all_eq_false]
    exact ⟨id[k], List.getElem_mem h, by simpa [h] using hs⟩
  rw [this, Bool.and_false]
set_option maxHeartbeats 1000000 in
theorem name_any (id : List Nat) (hb : ∀ c ∈ id, c < 256) (w : World) : Calls Try.prog 13 #[str id] w fun e w' => e = .returned (.bool (nameB id)) ∧ w = w' := by
  have HB : Hid (∀ c ∈ id, c < 256) := hb
  clear hb
  obtain ⟨r, hr⟩ : ∃ r, r = nameB id := ⟨_, rfl⟩
  have HR : Hid (r = nameB id) := hr
  obtain ⟨PQ, HPQ⟩ : ∃ PQ : Ending → World → Prop, Hid (PQ = fun e w' => e = .returned (.bool r) ∧ w = w') := ⟨_, rfl⟩
  rw [← hr, ← HPQ.out]
  clear hr
  obtain ⟨vs, hvs⟩ : ∃ vs, vs = str id := ⟨_, rfl⟩
  have HV : Hid (vs = str id) := hvs
  rw [← hvs]
  clear hvs
  obtain ⟨n, hn⟩ : ∃ n, n = id.length := ⟨_, rfl⟩
  have HN : Hid (n = id.length) := hn
  clear hn
  have HLen : Hid (∀ (W : World) (a : Act) (o : Oper) (x : Operand), o.op = .call { callee := .builtin .len, args := #[x], argTypes := #[9] } → a.eval x = vs → (execOp a.eval o).run Try.prog W = .ok (.value (.int .i64 (n : Nat))) W) := fun W a o x ho hx => by
    rw [HN.out]
    exact run_lenS id x ho (by rw [hx, HV.out])
  by_cases h0 : n < 1
  · have t0 : decide ((n : Int) < 1) = true := decide_eq_true (by omega)
    have er : r = false := by rw [HR.out]; simp [nameB, ← HN.out]; omega
    subst er
    clear h0
    go_enter Try.func13, Try.ntmps13
    go_wp2_with (first | (refine wl (by kernel_rfl) (.int .i64 (n : Nat)) _ (HLen.out _ _ _ (.tmp 4) rfl rfl) ?_) | (refine wl (by kernel_rfl) (.int .i64 (n : Nat)) _ (HLen.out _ _ _ (.tmp 8) rfl rfl) ?_) | (refine wl (by kernel_rfl) (.int .i64 (n : Nat)) _ (HLen.out _ _ _ (.tmp 12) rfl rfl) ?_))
    all_goals (first | (rw [HPQ.out]; exact ⟨rfl, rfl⟩) | (go_ret; rw [HPQ.out]; exact ⟨rfl, rfl⟩))
  by_cases h1 : 16 < n
  · have t0 : decide ((n : Int) < 1) = false := decide_eq_false (by omega)
    have t1 : decide ((16 : Int) < (n : Int)) = true := decide_eq_true (by omega)
    have er : r = false := by rw [HR.out]; simp [nameB, ← HN.out]; omega
    subst er
    clear h0 h1
    go_enter Try.func13, Try.ntmps13
    go_wp2_with (first | (refine wl (by kernel_rfl) (.int .i64 (n : Nat)) _ (HLen.out _ _ _ (.tmp 4) rfl rfl) ?_) | (refine wl (by kernel_rfl) (.int .i64 (n : Nat)) _ (HLen.out _ _ _ (.tmp 8) rfl rfl) ?_) | (refine wl (by kernel_rfl) (.int .i64 (n : Nat)) _ (HLen.out _ _ _ (.tmp 12) rfl rfl) ?_))
    all_goals (first | (rw [HPQ.out]; exact ⟨rfl, rfl⟩) | (go_ret; rw [HPQ.out]; exact ⟨rfl, rfl⟩))
  have t0 : decide ((n : Int) < 1) = false := decide_eq_false (by omega)
  have t1 : decide ((16 : Int) < (n : Int)) = false := decide_eq_false (by omega)
  have HNN : Hid (1 ≤ n ∧ n ≤ 16) := ⟨by omega, by omega⟩
  clear h0 h1
  go_enter Try.func13, Try.ntmps13
  go_wp2_with (first | (refine wl (by kernel_rfl) (.int .i64 (n : Nat)) _ (HLen.out _ _ _ (.tmp 4) rfl rfl) ?_) | (refine wl (by kernel_rfl) (.int .i64 (n : Nat)) _ (HLen.out _ _ _ (.tmp 8) rfl rfl) ?_) | (refine wl (by kernel_rfl) (.int .i64 (n : Nat)) _ (HLen.out _ _ _ (.tmp 12) rfl rfl) ?_))
  clear t0 t1
  go_loopw [14] (fun vk W => ∃ k : Nat, vk = .int .i64 (k : Nat) ∧ k ≤ n ∧ (id.take k).all sign = true ∧ w = W) (fun vk _ => n - (intOf vk).toNat)
  case atStart => exact ⟨0, rfl, Nat.zero_le _, rfl, rfl⟩
  case round =>
    obtain ⟨k, rfl, hk, ha, hw⟩ := hrel
    subst hw
    have HA : Hid ((id.take k).all sign = true) := ha
    clear ha
    by_cases hlt : k < n
    · have t1 : decide ((k : Int) < (n : Int)) = true := decide_eq_true (by omega)
      obtain ⟨c, hc⟩ : ∃ c, c = id.getD k 0 := ⟨_, rfl⟩
      have HC : Hid (c = id.getD k 0) := hc
      have HIx : Hid (∀ (W : World) (a : Act) (o : Oper) (x i : Operand), o.op = .index 9 x i → a.eval x = vs → a.eval i = .int .i64 (k : Nat) → (execOp a.eval o).run Try.prog W = .ok (.value (.int .u8 (c : Nat))) W) := fun W a o x i ho hx hi => by
        rw [hc]
        exact run_ixS id HB.out x i ho (by rw [hx, HV.out]) k (by rw [← HN.out]; exact hlt) hi
      clear hc
      have h16 : n ≤ 16 := HNN.out.2
      obtain ⟨sg, hsg⟩ : ∃ sg, sg = sign c := ⟨_, rfl⟩
      have HSg : Hid (sg = sign c) := hsg
      cases sg with
      | false =>
        have er : r = false := by rw [HR.out]; exact name_not id k (by rw [← HN.out]; exact hlt) (by rw [← HC.out]; exact hsg.symm)
        subst er
        clear hsg
        go_wp2_with (first
          | (refine wl (by kernel_rfl) (.int .u8 (c : Nat)) _ (HIx.out _ _ _ (.tmp 17) (.tmp 18) rfl rfl rfl) ?_)
          | (go_at_call 26; refine (isSign_any c _).mono ?_; rintro e w1 ⟨rfl, rfl⟩; rw [← HSg.out]))
        all_goals (first | (rw [HPQ.out]; exact ⟨rfl, rfl⟩) | (go_ret; rw [HPQ.out]; exact ⟨rfl, rfl⟩))
      | true =>
        clear hsg
        go_wp2_with (first
          | (refine wl (by kernel_rfl) (.int .u8 (c : Nat)) _ (HIx.out _ _ _ (.tmp 17) (.tmp 18) rfl rfl rfl) ?_)
          | (go_at_call 26; refine (isSign_any c _).mono ?_; rintro e w1 ⟨rfl, rfl⟩; rw [← HSg.out]))
        refine ⟨⟨k + 1, by go_num, by omega, by rw [all_snoc id k (by rw [← HN.out]; exact hlt), HA.out, ← HC.out, ← HSg.out]; rfl, by first | rfl | trivial⟩, ?_⟩
        simp [intOf]; omega
    · have t1 : decide ((k : Int) < (n : Int)) = false := decide_eq_false (by omega)
      have ek : k = n := by omega
      have er : r = true := by
        rw [HR.out]
        have h2 := HA.out
        have h3 := HNN.out
        rw [ek, HN.out, List.take_length] at h2
        rw [HN.out] at h3
        simp [nameB, h2, h3]
      subst er
      clear ek
      go_wp2_with (first | (refine wl (by kernel_rfl) (.int .i64 (n : Nat)) _ (HLen.out _ _ _ (.tmp 4) rfl rfl) ?_) | (refine wl (by kernel_rfl) (.int .i64 (n : Nat)) _ (HLen.out _ _ _ (.tmp 8) rfl rfl) ?_) | (refine wl (by kernel_rfl) (.int .i64 (n : Nat)) _ (HLen.out _ _ _ (.tmp 12) rfl rfl) ?_))
      all_goals (first | (rw [HPQ.out]; exact ⟨rfl, rfl⟩) | (go_ret; rw [HPQ.out]; exact ⟨rfl, rfl⟩))
set_option maxHeartbeats 1000000 in
theorem refName_any (id : List Nat) (hb : ∀ c ∈ id, c < 256) (w : World) : Calls Try.prog 14 #[str id] w fun e w' => e = .returned (.bool (nameB id)) ∧ w = w' := by
  have HB : Hid (∀ c ∈ id, c < 256) := hb
  clear hb
  obtain ⟨r, hr⟩ : ∃ r, r = nameB id := ⟨_, rfl⟩
  have HR : Hid (r = nameB id) := hr
  obtain ⟨PQ, HPQ⟩ : ∃ PQ : Ending → World → Prop, Hid (PQ = fun e w' => e = .returned (.bool r) ∧ w = w') := ⟨_, rfl⟩
  rw [← hr, ← HPQ.out]
  clear hr
  obtain ⟨vs, hvs⟩ : ∃ vs, vs = str id := ⟨_, rfl⟩
  have HV : Hid (vs = str id) := hvs
  rw [← hvs]
  clear hvs
  obtain ⟨n, hn⟩ : ∃ n, n = id.length := ⟨_, rfl⟩
  have HN : Hid (n = id.length) := hn
  clear hn
  have HLen : Hid (∀ (W : World) (a : Act) (o : Oper) (x : Operand), o.op = .call { callee := .builtin .len, args := #[x], argTypes := #[9] } → a.eval x = vs → (execOp a.eval o).run Try.prog W = .ok (.value (.int .i64 (n : Nat))) W) := fun W a o x ho hx => by
    rw [HN.out]
    exact run_lenS id x ho (by rw [hx, HV.out])
  by_cases h0 : n < 1
  · have t0 : decide ((n : Int) < 1) = true := decide_eq_true (by omega)
    have er : r = false := by rw [HR.out]; simp [nameB, ← HN.out]; omega
    subst er
    clear h0
    go_enter Try.func14, Try.ntmps14
    go_wp2_with (first | (refine wl (by kernel_rfl) (.int .i64 (n : Nat)) _ (HLen.out _ _ _ (.tmp 5) rfl rfl) ?_) | (refine wl (by kernel_rfl) (.int .i64 (n : Nat)) _ (HLen.out _ _ _ (.tmp 9) rfl rfl) ?_) | (refine wl (by kernel_rfl) (.int .i64 (n : Nat)) _ (HLen.out _ _ _ (.tmp 14) rfl rfl) ?_))
    all_goals (first | (rw [HPQ.out]; exact ⟨rfl, rfl⟩) | (go_ret; rw [HPQ.out]; exact ⟨rfl, rfl⟩))
  by_cases h1 : 16 < n
  · have t0 : decide ((n : Int) < 1) = false := decide_eq_false (by omega)
    have t1 : decide ((16 : Int) < (n : Int)) = true := decide_eq_true (by omega)
    have er : r = false := by rw [HR.out]; simp [nameB, ← HN.out]; omega
    subst er
    clear h0 h1
    go_enter Try.func14, Try.ntmps14
    go_wp2_with (first | (refine wl (by kernel_rfl) (.int .i64 (n : Nat)) _ (HLen.out _ _ _ (.tmp 5) rfl rfl) ?_) | (refine wl (by kernel_rfl) (.int .i64 (n : Nat)) _ (HLen.out _ _ _ (.tmp 9) rfl rfl) ?_) | (refine wl (by kernel_rfl) (.int .i64 (n : Nat)) _ (HLen.out _ _ _ (.tmp 14) rfl rfl) ?_))
    all_goals (first | (rw [HPQ.out]; exact ⟨rfl, rfl⟩) | (go_ret; rw [HPQ.out]; exact ⟨rfl, rfl⟩))
  have t0 : decide ((n : Int) < 1) = false := decide_eq_false (by omega)
  have t1 : decide ((16 : Int) < (n : Int)) = false := decide_eq_false (by omega)
  have HNN : Hid (1 ≤ n ∧ n ≤ 16) := ⟨by omega, by omega⟩
  clear h0 h1
  go_enter Try.func14, Try.ntmps14
  go_wp2_with (first | (refine wl (by kernel_rfl) (.int .i64 (n : Nat)) _ (HLen.out _ _ _ (.tmp 5) rfl rfl) ?_) | (refine wl (by kernel_rfl) (.int .i64 (n : Nat)) _ (HLen.out _ _ _ (.tmp 9) rfl rfl) ?_) | (refine wl (by kernel_rfl) (.int .i64 (n : Nat)) _ (HLen.out _ _ _ (.tmp 14) rfl rfl) ?_))
  clear t0 t1
  go_loopw [3] (fun vk W => ∃ k : Nat, vk = .int .i64 (k : Nat) ∧ k ≤ n ∧ (id.take k).all sign = true ∧ w = W) (fun vk _ => n - (intOf vk).toNat)
  case atStart => exact ⟨0, rfl, Nat.zero_le _, rfl, rfl⟩
  case round =>
    obtain ⟨k, rfl, hk, ha, hw⟩ := hrel
    subst hw
    have HA : Hid ((id.take k).all sign = true) := ha
    clear ha
    by_cases hlt : k < n
    · have t1 : decide ((k : Int) < (n : Int)) = true := decide_eq_true (by omega)
      obtain ⟨c, hc⟩ : ∃ c, c = id.getD k 0 := ⟨_, rfl⟩
      have HC : Hid (c = id.getD k 0) := hc
      have HIx : Hid (∀ (W : World) (a : Act) (o : Oper) (x i : Operand), o.op = .index 9 x i → a.eval x = vs → a.eval i = .int .i64 (k : Nat) → (execOp a.eval o).run Try.prog W = .ok (.value (.int .u8 (c : Nat))) W) := fun W a o x i ho hx hi => by
        rw [hc]
        exact run_ixS id HB.out x i ho (by rw [hx, HV.out]) k (by rw [← HN.out]; exact hlt) hi
      clear hc
      have h16 : n ≤ 16 := HNN.out.2
      go_wp2_with (first
        | (refine wl (by kernel_rfl) (.int .i64 (n : Nat)) _ (HLen.out _ _ _ (.tmp 14) rfl rfl) ?_)
        | (refine wl (by kernel_rfl) (.int .u8 (c : Nat)) _ (HIx.out _ _ _ (.tmp 19) (.tmp 20) rfl rfl rfl) ?_))
      all_goals (first
        | (have hs : sign c = false := (by simp [sign] at *; omega)
           have er : r = false := (by rw [HR.out]; exact name_not id k (by rw [← HN.out]; exact hlt) (by rw [← HC.out]; exact hs))
           subst er
           first | (rw [HPQ.out]; exact ⟨rfl, rfl⟩) | (go_ret; rw [HPQ.out]; exact ⟨rfl, rfl⟩))
        | (have hs : sign c = true := (by simp [sign] at *; omega)
           refine ⟨⟨k + 1, by go_num, by omega, by rw [all_snoc id k (by rw [← HN.out]; exact hlt), HA.out, ← HC.out, hs]; rfl, by first | rfl | trivial⟩, ?_⟩
           simp [intOf]; omega))
    · have t1 : decide ((k : Int) < (n : Int)) = false := decide_eq_false (by omega)
      have ek : k = n := by omega
      have er : r = true := by
        rw [HR.out]
        have h2 := HA.out
        have h3 := HNN.out
        rw [ek, HN.out, List.take_length] at h2
        rw [HN.out] at h3
        simp [nameB, h2, h3]
      subst er
      clear ek
      go_wp2_with (first | (refine wl (by kernel_rfl) (.int .i64 (n : Nat)) _ (HLen.out _ _ _ (.tmp 5) rfl rfl) ?_) | (refine wl (by kernel_rfl) (.int .i64 (n : Nat)) _ (HLen.out _ _ _ (.tmp 9) rfl rfl) ?_) | (refine wl (by kernel_rfl) (.int .i64 (n : Nat)) _ (HLen.out _ _ _ (.tmp 14) rfl rfl) ?_))
      all_goals (first | (rw [HPQ.out]; exact ⟨rfl, rfl⟩) | (go_ret; rw [HPQ.out]; exact ⟨rfl, rfl⟩))

end Go.Proofs.Ytncjmolhofnpbaa

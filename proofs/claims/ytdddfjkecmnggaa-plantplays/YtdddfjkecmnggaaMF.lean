/- The document's own plant, its own block: On, step, Fuse. The document's own plant: how many disks, whether there is such a device, how much it may have. The document's own plant: Tick. The document's own plant in memory: rows of rows of bytes that nobody writes, the writes that wait. Rows of the call's own, whatever they hold: length, element, one more; the shape of the document's own plant. Regions that draw their order and end in one operation that waits for all looks: what the looks read is held until that operation. The document's own plant: Len. The document's own plant: a copy of bytes; Read. The document's own plant: settle. -/
import Derived.Test.YtdddfjkecmnggaaMC
import Derived.Test.YtdddfjkecmnggaaMB
import Derived.Deep.QuietTactic
import Derived.OrdersHeld
namespace Go.Proofs.Ytdddfjkecmnggaa
open Go.RowKit Go.Maps

/-- the cells of a plant of the document's own -/
def rcells (vd vt hv wv : Value) (off burns : Bool) (left done clock : Int) : List Value := [vd, vt, hv, wv, .bool off, .bool burns, .int .i64 left, .int .i64 done, .int .i64 clock]
/-- its own block says what m says of the power, the steps and the clock -/
def RefRow (W : World) (g : Nat) (vd vt hv wv : Value) (m : Pl) : Prop :=
  ∃ left : Int, (0 ≤ m.fuse → left = m.fuse) ∧ Row W g 56 (rcells vd vt hv wv (!m.on) (decide (0 ≤ m.fuse)) left (m.steps : Nat) m.clock)
theorem RefRow.lt {W : World} {g : Nat} {vd vt hv wv : Value} {m : Pl} (h : RefRow W g vd vt hv wv m) : g < W.heap.size := by
  obtain ⟨_, _, h⟩ := h
  exact h.lt

set_option maxHeartbeats 400000 in
theorem refOn_any {w : World} {g : Nat} {vd vt hv wv : Value} {m : Pl} (h : RefRow w g vd vt hv wv m) :
    Calls Try.prog 56 #[ptr g] w fun e w' => e = .returned (.bool m.on) ∧ w = w' := by
  obtain ⟨left, _, hr⟩ := h
  have c4 := hr.at 4 _ rfl
  cases hon : m.on with
  | false =>
    rw [hon] at c4
    go_enter Try.func56, Try.ntmps56
    go_wp2
    go_ret
    exact ⟨rfl, rfl⟩
  | true =>
    rw [hon] at c4
    go_enter Try.func56, Try.ntmps56
    go_wp2
    go_ret
    exact ⟨rfl, rfl⟩
set_option maxHeartbeats 400000 in
theorem refFuse_any {w : World} {g : Nat} {vd vt hv wv : Value} {m : Pl} (h : RefRow w g vd vt hv wv m) (n : Int) :
    Calls Try.prog 24 #[ptr g, .int .i64 n] w fun e w' => e = .returned noResult ∧ RefRow w' g vd vt hv wv (if m.on then { m with fuse := n } else m) ∧ Ch (· = g) w w' := by
  obtain ⟨left, hleft, hr⟩ := h
  have c4 := hr.at 4 _ rfl
  have fz : ∀ i, w.frozen? ⟨g, i, none⟩ = false := fun i => hr.frozen i
  obtain ⟨u5, c5⟩ : ∃ u, w.cell? ⟨g, 5, none⟩ = some u := ⟨_, hr.at 5 _ rfl⟩
  obtain ⟨u6, c6⟩ : ∃ u, w.cell? ⟨g, 6, none⟩ = some u := ⟨_, hr.at 6 _ rfl⟩
  have HR : Hid (Row w g 56 (rcells vd vt hv wv (!m.on) (decide (0 ≤ m.fuse)) left (m.steps : Nat) m.clock)) := hr
  have HL : Hid (0 ≤ m.fuse → left = m.fuse) := hleft
  clear hr hleft
  cases hon : m.on with
  | false =>
    rw [hon] at c4
    go_enter Try.func24, Try.ntmps24
    go_wp2
    first | go_end0 | refine bodyPost_ret (results_none rfl _ _ _) rfl ?_
    refine ⟨rfl, ⟨left, HL.out, ?_⟩, Ch.refl _ _⟩
    have := HR.out
    rw [hon] at this
    simpa [hon] using this
  | true =>
    rw [hon] at c4
    have HON : Hid (m.on = true) := hon
    clear hon
    go_enter Try.func24, Try.ntmps24
    go_wp2
    go_end0
    refine ⟨rfl, ?_, ((Ch.refl (· = g) w).setCell (g := g) (Or.inl rfl) _ _).setCell (g := g) (Or.inl rfl) _ _⟩
    refine ⟨n, fun _ => rfl, ?_⟩
    have h1 := (HR.out.setCell 5 (.bool (decide (0 ≤ n)))).setCell 6 (.int .i64 n)
    rw [HON.out] at h1
    simpa [rcells, HON.out] using h1
set_option maxHeartbeats 800000 in
theorem refStep_any {w : World} {g : Nat} {vd vt hv wv : Value} {m : Pl} (h : RefRow w g vd vt hv wv m) (hon : m.on = true) (hst : m.steps < 9223372036854775807) (hf : m.fuse ≤ 9223372036854775807) :
    Calls Try.prog 45 #[ptr g] w fun e w' => e = .returned (.bool m.stepOk) ∧ RefRow w' g vd vt hv wv m.step ∧ Ch (· = g) w w' := by
  obtain ⟨left, hleft, hr⟩ := h
  have c5 := hr.at 5 _ rfl
  have c6 := hr.at 6 _ rfl
  have c7 := hr.at 7 _ rfl
  have c4 := hr.at 4 _ rfl
  have fz : ∀ i, w.frozen? ⟨g, i, none⟩ = false := fun i => hr.frozen i
  have HR : Hid (Row w g 56 (rcells vd vt hv wv (!m.on) (decide (0 ≤ m.fuse)) left (m.steps : Nat) m.clock)) := hr
  have HON : Hid (m.on = true) := hon
  clear hr
  by_cases h0 : m.fuse = 0
  · obtain rfl : left = m.fuse := hleft (by omega)
    have HS : Hid (m.stepOk = false ∧ m.step = { m with on := false, fuse := -1 }) := by
      unfold Pl.stepOk Pl.step
      refine ⟨by simp [h0], by rw [if_pos h0]⟩
    have HF : Hid (m.fuse = 0) := h0
    rw [h0] at c5 c6
    rw [show decide ((0 : Int) ≤ 0) = true from rfl] at c5
    clear hleft h0
    go_enter Try.func45, Try.ntmps45
    go_wp2
    go_ret
    refine ⟨by rw [HS.out.1]; rfl, ?_, ((Ch.refl (· = g) w).setCell (g := g) (Or.inl rfl) _ _).setCell (g := g) (Or.inl rfl) _ _⟩
    rw [HS.out.2]
    refine ⟨m.fuse, fun hh => by have : (-1 : Int) ≥ 0 := hh; omega, ?_⟩
    have h1 := (HR.out.setCell 4 (.bool true)).setCell 5 (.bool false)
    simpa [rcells] using h1
  · by_cases hpos : 0 < m.fuse
    · obtain rfl : left = m.fuse := hleft (by omega)
      have HS : Hid (m.stepOk = true ∧ m.step = { m with fuse := m.fuse - 1, steps := m.steps + 1 }) := by
        unfold Pl.stepOk Pl.step
        refine ⟨by simp [h0], by rw [if_neg h0, if_pos hpos]⟩
      have HF : Hid (0 < m.fuse) := hpos
      rw [decide_eq_true (show 0 ≤ m.fuse by omega)] at c5
      have hne : (m.fuse == 0) = false := by simpa using h0
      generalize hq : m.fuse = q at c6 hne hpos h0 hf
      have HQ : Hid (m.fuse = q) := hq
      clear hq hleft
      go_enter Try.func45, Try.ntmps45
      go_wp2
      go_ret
      refine ⟨by rw [HS.out.1]; rfl, ?_, ((Ch.refl (· = g) w).setCell (g := g) (Or.inl rfl) _ _).setCell (g := g) (Or.inl rfl) _ _⟩
      rw [HS.out.2]
      refine ⟨q - 1, fun _ => by rw [HQ.out], ?_⟩
      have h1 := (HR.out.setCell 6 (.int .i64 (q - 1))).setCell 7 (.int .i64 ((m.steps : Int) + 1))
      have e1 : decide (0 ≤ m.fuse) = true := decide_eq_true (by have := HF.out; omega)
      have e2 : decide (0 ≤ m.fuse - 1) = true := decide_eq_true (by have := HF.out; omega)
      rw [e1] at h1
      simp only [e2]
      simpa [rcells] using h1
    · have HS : Hid (m.stepOk = true ∧ m.step = { m with steps := m.steps + 1 }) := by
        unfold Pl.stepOk Pl.step
        refine ⟨by simp [h0], by rw [if_neg h0, if_neg hpos]⟩
      have HF : Hid (m.fuse < 0) := by show _ < _; omega
      rw [decide_eq_false (show ¬ 0 ≤ m.fuse by omega)] at c5
      have HLF : Hid (0 ≤ m.fuse → left = m.fuse) := hleft
      clear hleft h0 hpos hf
      go_enter Try.func45, Try.ntmps45
      go_wp2
      go_ret
      refine ⟨by rw [HS.out.1]; rfl, ?_, (Ch.refl (· = g) w).setCell (g := g) (Or.inl rfl) _ _⟩
      rw [HS.out.2]
      refine ⟨left, HLF.out, ?_⟩
      have h1 := HR.out.setCell 7 (.int .i64 ((m.steps : Int) + 1))
      simpa [rcells] using h1
end Go.Proofs.Ytdddfjkecmnggaa

namespace Go.Proofs.Ytdddfjkecmnggaa
open Go.RowKit Go.Maps

/-- a slice of numbers -/
def NumsIn (w : World) (v : Value) (l : List Int) : Prop :=
  ∃ p cap, v = .slice p l.length cap ∧ l.length ≤ cap ∧ l.length < 4611686018427387904 ∧ (l = [] ∨ ∃ b off, p = some ⟨b, off, none⟩ ∧ ∀ j, j < l.length → w.cell? ⟨b, off + j, none⟩ = some (.int .i64 (l.getD j 0)))
theorem NumsIn.shape {w : World} {v : Value} {l : List Int} (h : NumsIn w v l) : ∃ p cap, v = .slice p l.length cap ∧ l.length < 4611686018427387904 := by
  obtain ⟨p, cap, rfl, _, h2, _⟩ := h
  exact ⟨p, cap, rfl, h2⟩
theorem NumsIn.cell {w : World} {v : Value} {l : List Int} (h : NumsIn w v l) (n : Nat) (hn : n < l.length) : ∃ b off cap, v = .slice (some ⟨b, off, none⟩) l.length cap ∧ w.cell? ⟨b, off + n, none⟩ = some (.int .i64 (l.getD n 0)) := by
  obtain ⟨p, cap, rfl, _, _, h⟩ := h
  rcases h with rfl | ⟨b, off, rfl, h⟩
  · simp at hn
  · exact ⟨b, off, cap, rfl, h n hn⟩

set_option maxHeartbeats 400000 in
theorem refDisks_any {w : World} {g : Nat} {vd vt hv wv : Value} {m : Pl} (h : RefRow w g vd vt hv wv m) {ds : List Int} (hd : NumsIn w vd ds) :
    Calls Try.prog 44 #[ptr g] w fun e w' => e = .returned (.int .i64 (ds.length : Nat)) ∧ w = w' := by
  obtain ⟨left, _, hr⟩ := h
  obtain ⟨p, cap, rfl, hl⟩ := hd.shape
  have k0 := hr.at 0 _ rfl
  clear hr hd
  generalize ds.length = n at k0 hl ⊢
  go_enter Try.func44, Try.ntmps44
  go_wp2
  go_ret
  exact ⟨rfl, rfl⟩
set_option maxHeartbeats 800000 in
theorem refHas_any {w : World} {g : Nat} {vd vt hv wv : Value} {m : Pl} (h : RefRow w g vd vt hv wv m) {ds ts : List Int} (hd : NumsIn w vd ds) (ht : NumsIn w vt ts) (dev : Int) :
    Calls Try.prog 48 #[ptr g, .int .i64 dev] w fun e w' => e = .returned (.bool (decide (0 ≤ dev ∧ dev < (ds.length : Int) + (ts.length : Int)))) ∧ ∃ k, w' = w.drewN k := by
  obtain ⟨left, _, hr⟩ := h
  obtain ⟨p, cap, rfl, hl⟩ := hd.shape
  obtain ⟨p2, cap2, rfl, hl2⟩ := ht.shape
  have k0 := hr.at 0 _ rfl
  have k1 := hr.at 1 _ rfl
  clear hr hd ht
  generalize ds.length = n at k0 hl ⊢
  generalize ts.length = k at k1 hl2 ⊢
  by_cases h0 : 0 ≤ dev
  · have t1 : decide (0 ≤ dev) = true := decide_eq_true h0
    by_cases h1 : dev < (n : Int) + (k : Int)
    · have t2 : decide (dev < (n : Int) + (k : Int)) = true := decide_eq_true h1
      have HA : Hid (decide (0 ≤ dev ∧ dev < (n : Int) + (k : Int)) = true) := decide_eq_true ⟨h0, h1⟩
      go_enter Try.func48, Try.ntmps48
      go_wp2
      go_quiet (fail)
      go_wp2
      go_ret
      exact ⟨by rw [HA.out]; rfl, _, rfl⟩
    · have t2 : decide (dev < (n : Int) + (k : Int)) = false := decide_eq_false h1
      have HA : Hid (decide (0 ≤ dev ∧ dev < (n : Int) + (k : Int)) = false) := decide_eq_false fun e => h1 e.2
      go_enter Try.func48, Try.ntmps48
      go_wp2
      go_quiet (fail)
      go_wp2
      go_ret
      exact ⟨by rw [HA.out]; rfl, _, rfl⟩
  · have t1 : decide (0 ≤ dev) = false := decide_eq_false h0
    have HA : Hid (decide (0 ≤ dev ∧ dev < (n : Int) + (k : Int)) = false) := decide_eq_false fun e => h0 e.1
    go_enter Try.func48, Try.ntmps48
    go_wp2
    go_quiet (fail)
    go_wp2
    go_ret
    exact ⟨by rw [HA.out]; rfl, _, rfl⟩
set_option maxHeartbeats 400000 in
theorem refMost_disk {w : World} {g : Nat} {vd vt hv wv : Value} {m : Pl} (h : RefRow w g vd vt hv wv m) {ds : List Int} (ha : NumsIn w vd ds) (i : Nat) (hi : i < ds.length) :
    Calls Try.prog 39 #[ptr g, .int .i64 (i : Nat)] w fun e w' => e = .returned (.int .i64 (ds.getD i 0)) ∧ ∃ k, w' = w.drewN k := by
  obtain ⟨left, _, hr⟩ := h
  obtain ⟨b, off, cap, hva, hc⟩ := ha.cell i hi
  obtain ⟨p, cap', hvs, hl⟩ := ha.shape
  rw [hva] at hr
  have k0 := hr.at 0 _ rfl
  obtain ⟨n, hn⟩ : ∃ n, n = ds.length := ⟨_, rfl⟩
  rw [← hn] at k0 hi hl
  generalize ds.getD i 0 = x at hc ⊢
  clear hr ha hva hvs hn
  go_enter Try.func39, Try.ntmps39
  go_wp2
  go_ret
  exact ⟨rfl, 0, rfl⟩
set_option maxHeartbeats 400000 in
theorem refMost_tape {w : World} {g : Nat} {vd vt hv wv : Value} {m : Pl} (h : RefRow w g vd vt hv wv m) {ds ts : List Int} (ha : NumsIn w vd ds) (hb : NumsIn w vt ts) (i : Nat) (hi : i < ts.length) :
    Calls Try.prog 39 #[ptr g, .int .i64 ((ds.length + i : Nat) : Int)] w fun e w' => e = .returned (.int .i64 (ts.getD i 0)) ∧ ∃ k, w' = w.drewN k := by
  obtain ⟨left, _, hr⟩ := h
  obtain ⟨b, off, cap, hvb, hc⟩ := hb.cell i hi
  obtain ⟨p, cap', hvs, hl⟩ := ha.shape
  obtain ⟨p2, cap2, _, hl2⟩ := hb.shape
  rw [hvb, hvs] at hr
  have k0 := hr.at 0 _ rfl
  have k1 := hr.at 1 _ rfl
  obtain ⟨n, hn⟩ : ∃ n, n = ds.length := ⟨_, rfl⟩
  obtain ⟨mm, hm⟩ : ∃ mm, mm = ts.length := ⟨_, rfl⟩
  rw [← hn] at k0 hl ⊢
  rw [← hm] at k1 hl2 hi
  generalize ts.getD i 0 = x at hc ⊢
  clear hr ha hb hvb hvs hn hm
  rw [show ((n + i : Nat) : Int) = (n : Int) + (i : Int) by omega]
  have t1 : decide ((n : Int) + (i : Int) < (n : Int)) = false := by simp; omega
  have e1 : (n : Int) + (i : Int) - (n : Int) = (i : Int) := by omega
  go_enter Try.func39, Try.ntmps39
  go_wp2
  go_quiet (fail)
  go_wp2
  go_ret
  exact ⟨rfl, _, rfl⟩
end Go.Proofs.Ytdddfjkecmnggaa

namespace Go.Proofs.Ytdddfjkecmnggaa
open Go.RowKit Go.Maps

/-- the clock goes on -/
def tickR (m : Pl) (n : Int) : Pl := if 0 < n then { m with clock := m.clock + min n (1099511627776 - m.clock) } else m
theorem size3r : (Try.prog.info? 3).map (·.size) = some 1 := by kernel_rfl
theorem f56_7 : FieldAt 56 7 8 := fun w g off => by kernel_rfl
set_option maxHeartbeats 800000 in
theorem refTick_any {w : World} {g : Nat} {vd vt hv wv : Value} {m : Pl} (h : RefRow w g vd vt hv wv m) (hwf : m.WF) (n : Int) (hn1 : n ≤ 9223372036854775807) :
    Calls Try.prog 30 #[ptr g, .int .i64 n] w fun e w' => e = .returned noResult ∧ RefRow w' g vd vt hv wv (tickR m n) ∧ Ch (· = g) w w' := by
  obtain ⟨left, hleft, hr⟩ := h
  have HL : Hid (0 ≤ m.fuse → left = m.fuse) := hleft
  have HP : Hid (Row w g 56 (rcells vd vt hv wv (!m.on) (decide (0 ≤ m.fuse)) left (m.steps : Nat) m.clock)) := hr
  obtain ⟨k0, hk0⟩ : ∃ k0, k0 = m.clock := ⟨_, rfl⟩
  have c8 : w.cell? ⟨g, 8, none⟩ = some (.int .i64 k0) := by rw [hk0]; exact hr.at 8 _ rfl
  have HK0 : Hid (k0 = m.clock) := hk0
  have hc0 : 0 ≤ k0 := by rw [hk0]; exact hwf.clock0
  have hc1 : k0 ≤ 1099511627776 := by rw [hk0]; exact hwf.clock1
  clear hr hwf hk0 hleft
  by_cases hpos : 0 < n
  · have tp : decide (0 < n) = true := by simpa using hpos
    obtain ⟨k, hk⟩ : ∃ k, k = min n (1099511627776 - k0) := ⟨_, rfl⟩
    have hmin : (if 1099511627776 - k0 < n then 1099511627776 - k0 else n) = k := by rw [hk]; split <;> omega
    have hkb : 0 ≤ k ∧ k ≤ 1099511627776 - k0 := by omega
    have HK : Hid (k = min n (1099511627776 - k0)) := hk
    obtain ⟨hkb0, hkb1⟩ := hkb
    clear hk
    generalize hcur : rcells vd vt hv wv (!m.on) (decide (0 ≤ m.fuse)) left (m.steps : Nat) m.clock = cur at HP
    have HCur : Hid (rcells vd vt hv wv (!m.on) (decide (0 ≤ m.fuse)) left (m.steps : Nat) m.clock = cur) := hcur
    have hlen : 0 + 8 < cur.length := by rw [← hcur]; simp [rcells]
    clear hcur
    go_enter Try.func30, Try.ntmps30
    go_upto_region 1 with fail
    refine wp_region_headOne_drew 12 (.tmp 0) (by kernel_rfl) (by kernel_rfl) rfl rfl (fun _ _ _ h => h) ?_
    simp only [List.take_succ_cons, List.take_zero, List.drop_succ_cons, List.drop_zero]
    iterate 13 (go_big_quiet_step (fail))
    refine wpQuiet_nil ?_
    intro _ hw'
    obtain ⟨nq, hw''⟩ := hw'
    subst hw''
    refine wpList_nilCheck (.tmp 6) rfl rfl _ rfl ?_
    simp only [Act.put, List.setIfInBounds_toArray, List.set_cons_succ, List.set_cons_zero]
    refine wpList_field f56_7 (.tmp 19) rfl rfl g 0 rfl ?_
    simp only [Act.put, List.setIfInBounds_toArray, List.set_cons_succ, List.set_cons_zero]
    refine wpList_store1 size3r (.tmp 20) (.tmp 18) rfl rfl rfl g (0 + 8) 56 rfl (.int .i64 (k0 + k)) cur rfl rfl rfl HP.out hlen ?_
    refine wpList_nil ?_
    have HC : Hid (Ch (· = g) w ((w.drewN nq).setRow g (cur.set (0 + 8) (.int .i64 (k0 + k))).toArray)) := ((Ch.refl (· = g) w).drewN nq).setRow (g := g) (Or.inl rfl) _
    have HE : Hid (RefRow ((w.drewN nq).setRow g (cur.set (0 + 8) (.int .i64 (k0 + k))).toArray) g vd vt hv wv (tickR m n)) := by
      show RefRow _ _ _ _ _ _ _
      unfold tickR
      rw [if_pos hpos]
      refine ⟨left, HL.out, ?_⟩
      have hr : Row (w.drewN nq) g 56 cur := HP.out
      have := hr.setRow (cur.set (0 + 8) (.int .i64 (k0 + k)))
      rw [← HCur.out] at this ⊢
      rw [HK.out, HK0.out] at this
      rw [HK.out, HK0.out]
      simpa [rcells] using this
    go_wp2
    go_end0
    exact ⟨rfl, HE.out, HC.out⟩
  · have tp : decide (0 < n) = false := by simpa using hpos
    go_enter Try.func30, Try.ntmps30
    go_wp2
    go_end0
    refine ⟨rfl, ?_, Ch.refl _ _⟩
    unfold tickR
    rw [if_neg (by omega)]
    exact ⟨left, HL.out, HP.out⟩
end Go.Proofs.Ytdddfjkecmnggaa

namespace Go.Proofs.Ytdddfjkecmnggaa
open Go.RowKit Go.Maps

theorem ownK {w w' : World} {base e size n : Nat} {v : Value} {xs : List Value} (h : w.ownsRow base e size v n xs) (hb : ∀ b, v.ownBlock = some b → w'.heap[b]? = w.heap[b]?) : w'.ownsRow base e size v n xs := by
  obtain ⟨hl, h⟩ := h
  refine ⟨hl, ?_⟩
  rcases h with ⟨rfl, h⟩ | ⟨g, cap, cur, rfl, h0, hg, h⟩
  · exact Or.inl ⟨rfl, h⟩
  · exact Or.inr ⟨g, cap, cur, rfl, h0, (hb g rfl).trans hg, h⟩
theorem sliceK {w w' : World} {v : Value} {cs : List Nat} (h : SliceIn w v cs) (hb : ∀ b, v.ownBlock = some b → b < w.heap.size → w'.heap[b]? = w.heap[b]?) : SliceIn w' v cs := by
  obtain ⟨p, cap, rfl, hl, h⟩ := h
  refine ⟨p, cap, rfl, hl, ?_⟩
  rcases h with h | ⟨b, off, rfl, h1, h2⟩
  · exact Or.inl h
  · refine Or.inr ⟨b, off, rfl, fun j hj => ?_, h2⟩
    rw [← h1 j hj]
    exact World.cell?_of_block (w := w) (hb b rfl (block_lt_of_cell (h1 j hj)))
theorem numsK {w w' : World} {v : Value} {l : List Int} (h : NumsIn w v l) (hb : ∀ b, v.ownBlock = some b → b < w.heap.size → w'.heap[b]? = w.heap[b]?) : NumsIn w' v l := by
  obtain ⟨p, cap, rfl, h1, h2, h⟩ := h
  refine ⟨p, cap, rfl, h1, h2, ?_⟩
  rcases h with h | ⟨b, off, rfl, h⟩
  · exact Or.inl h
  · refine Or.inr ⟨b, off, rfl, fun j hj => ?_⟩
    rw [← h j hj]
    exact World.cell?_of_block (w := w) (hb b rfl (block_lt_of_cell (h j hj)))

/-- bytes in a block that nobody writes (colours (1, ..)) -/
def RO (W : World) (c : Nat → Colour) (v : Value) (s : List Nat) : Prop := SliceIn W v s ∧ ∀ b, v.ownBlock = some b → b < W.heap.size ∧ (c b).1 = 1
def NRO (W : World) (c : Nat → Colour) (v : Value) (l : List Int) : Prop := NumsIn W v l ∧ ∀ b, v.ownBlock = some b → b < W.heap.size ∧ (c b).1 = 1
/-- a row of sectors, its block of colour k -/
def RowOf (W : World) (c : Nat → Colour) (k : Colour) (v : Value) (L : List (List Nat)) : Prop :=
  (∃ hs : List Value, W.ownsRow 0 40 1 v L.length hs ∧ ∀ i, i < L.length → RO W c (hs.getD i undef) (L.getD i [])) ∧ ∀ b, v.ownBlock = some b → c b = k
/-- the rows of all devices -/
def HasOf (W : World) (c : Nat → Colour) (t : Nat) (v : Value) (n : Nat) (fl : Nat → List (List Nat)) : Prop :=
  (∃ hs : List Value, W.ownsRow 0 57 1 v n hs ∧ ∀ i, i < n → RowOf W c (t, 3 + i) (hs.getD i undef) (fl i)) ∧ ∀ b, v.ownBlock = some b → c b = (t, 1)
def wtAt (wts : List Wr) (i : Nat) : Wr := wts.getD i ⟨0, 0, 0, []⟩
/-- a write that waits, its bytes at u -/
def wtCell (x : Wr) (u : Value) : List Value := [.int .i64 (x.dev : Nat), .int .i64 (x.place : Nat), u]
def wtCells (wts : List Wr) (us : Nat → Value) : List Value := (List.range wts.length).flatMap fun i => wtCell (wtAt wts i) (us i)
def WaitsOf (W : World) (c : Nat → Colour) (t : Nat) (v : Value) (wts : List Wr) : Prop :=
  (∃ us : Nat → Value, W.ownsRow 0 81 3 v wts.length (wtCells wts us) ∧ ∀ i, i < wts.length → RO W c (us i) (wtAt wts i).b) ∧ ∀ b, v.ownBlock = some b → c b = (t, 2)
/-- how a plant's shape is told -/
def ShapeIs (m : Pl) (ds ts : List Int) : Prop := m.sh = ds.map (fun n => (false, n.toNat)) ++ ts.map (fun n => (true, n.toNat)) ∧ (∀ x ∈ ds, 0 ≤ x) ∧ ∀ x ∈ ts, 0 ≤ x
structure RefAt (W : World) (c : Nat → Colour) (t g : Nat) (vd vt hv wv : Value) (ds ts : List Int) (m : Pl) : Prop where
  row : RefRow W g vd vt hv wv m
  cg : c g = (t, 0)
  disks : NRO W c vd ds
  tapes : NRO W c vt ts
  shape : ShapeIs m ds ts
  has : HasOf W c t hv m.n m.fl
  waits : WaitsOf W c t wv m.wts
def RefIn (W : World) (c : Nat → Colour) (t g : Nat) (m : Pl) : Prop := ∃ vd vt hv wv ds ts, RefAt W c t g vd vt hv wv ds ts m
def LiveR (W : World) (c : Nat → Colour) (t g : Nat) (m : Pl) : Prop := RefIn W c t g m ∧ m.WF ∧ ∀ b, W.heap.size ≤ b → (c b).1 ≠ t ∧ (c b).1 ≠ 1
/-- the plant's own blocks, and those that nobody writes, are as they were -/
def Same (t : Nat) (W : World) (c : Nat → Colour) (W' : World) (c' : Nat → Colour) : Prop := ∀ b, b < W.heap.size → ((c b).1 = t ∨ (c b).1 = 1) → W'.heap[b]? = W.heap[b]? ∧ c' b = c b

section
variable {W W' : World} {c c' : Nat → Colour} {t : Nat}
theorem RO.same {v : Value} {s : List Nat} (h : RO W c v s) (hs : Same t W c W' c') (hz : W.heap.size ≤ W'.heap.size) : RO W' c' v s :=
  ⟨sliceK h.1 fun b hb hlt => (hs b hlt (Or.inr (h.2 b hb).2)).1, fun b hb => ⟨Nat.lt_of_lt_of_le (h.2 b hb).1 hz, by rw [(hs b (h.2 b hb).1 (Or.inr (h.2 b hb).2)).2]; exact (h.2 b hb).2⟩⟩
theorem NRO.same {v : Value} {l : List Int} (h : NRO W c v l) (hs : Same t W c W' c') (hz : W.heap.size ≤ W'.heap.size) : NRO W' c' v l :=
  ⟨numsK h.1 fun b hb hlt => (hs b hlt (Or.inr (h.2 b hb).2)).1, fun b hb => ⟨Nat.lt_of_lt_of_le (h.2 b hb).1 hz, by rw [(hs b (h.2 b hb).1 (Or.inr (h.2 b hb).2)).2]; exact (h.2 b hb).2⟩⟩
theorem RowOf.same {k : Nat} {v : Value} {L : List (List Nat)} (h : RowOf W c (t, k) v L) (hs : Same t W c W' c') (hz : W.heap.size ≤ W'.heap.size) : RowOf W' c' (t, k) v L := by
  obtain ⟨⟨us, h1, h2⟩, h3⟩ := h
  have hb : ∀ b, v.ownBlock = some b → W'.heap[b]? = W.heap[b]? ∧ c' b = c b := fun b hb => hs b (h1.lt b hb).2 (Or.inl (by rw [h3 b hb]))
  exact ⟨⟨us, ownK h1 fun b hb' => (hb b hb').1, fun i hi => (h2 i hi).same hs hz⟩, fun b hb' => by rw [(hb b hb').2]; exact h3 b hb'⟩
theorem HasOf.same {v : Value} {n : Nat} {fl : Nat → List (List Nat)} (h : HasOf W c t v n fl) (hs : Same t W c W' c') (hz : W.heap.size ≤ W'.heap.size) : HasOf W' c' t v n fl := by
  obtain ⟨⟨us, h1, h2⟩, h3⟩ := h
  have hb : ∀ b, v.ownBlock = some b → W'.heap[b]? = W.heap[b]? ∧ c' b = c b := fun b hb => hs b (h1.lt b hb).2 (Or.inl (by rw [h3 b hb]))
  exact ⟨⟨us, ownK h1 fun b hb' => (hb b hb').1, fun i hi => (h2 i hi).same hs hz⟩, fun b hb' => by rw [(hb b hb').2]; exact h3 b hb'⟩
theorem WaitsOf.same {v : Value} {wts : List Wr} (h : WaitsOf W c t v wts) (hs : Same t W c W' c') (hz : W.heap.size ≤ W'.heap.size) : WaitsOf W' c' t v wts := by
  obtain ⟨⟨us, h1, h2⟩, h3⟩ := h
  have hb : ∀ b, v.ownBlock = some b → W'.heap[b]? = W.heap[b]? ∧ c' b = c b := fun b hb => hs b (h1.lt b hb).2 (Or.inl (by rw [h3 b hb]))
  exact ⟨⟨us, ownK h1 fun b hb' => (hb b hb').1, fun i hi => (h2 i hi).same hs hz⟩, fun b hb' => by rw [(hb b hb').2]; exact h3 b hb'⟩
theorem RefAt.same {g : Nat} {vd vt hv wv : Value} {ds ts : List Int} {m : Pl} (h : RefAt W c t g vd vt hv wv ds ts m) (hs : Same t W c W' c') (hz : W.heap.size ≤ W'.heap.size) : RefAt W' c' t g vd vt hv wv ds ts m := by
  have hg := hs g h.row.lt (Or.inl (by rw [h.cg]))
  refine ⟨?_, by rw [hg.2]; exact h.cg, h.disks.same hs hz, h.tapes.same hs hz, h.shape, h.has.same hs hz, h.waits.same hs hz⟩
  obtain ⟨l, h1, h2⟩ := h.row
  exact ⟨l, h1, by unfold Row; rw [hg.1]; exact h2⟩
theorem RefIn.same {g : Nat} {m : Pl} (h : RefIn W c t g m) (hs : Same t W c W' c') (hz : W.heap.size ≤ W'.heap.size) : RefIn W' c' t g m := by
  obtain ⟨vd, vt, hv, wv, ds, ts, h⟩ := h
  exact ⟨vd, vt, hv, wv, ds, ts, h.same hs hz⟩
theorem Same.below (hb : Below W.heap.size W W') : Same t W c W' c := fun b hlt _ => ⟨hb.block b hlt, rfl⟩
theorem Same.ch {S : Nat → Prop} (hc : Ch S W W') (hS : ∀ b, b < W.heap.size → S b → (c b).1 ≠ t ∧ (c b).1 ≠ 1) (hcc : ∀ b, b < W.heap.size → c' b = c b) : Same t W c W' c' :=
  fun b hlt ht => ⟨hc.block b hlt fun hs => by rcases ht with e | e; exact (hS b hlt hs).1 e; exact (hS b hlt hs).2 e, hcc b hlt⟩
theorem LiveR.below {g : Nat} {m : Pl} (h : LiveR W c t g m) (hb : Below W.heap.size W W') : LiveR W' c t g m :=
  ⟨h.1.same (Same.below hb) hb.size, h.2.1, fun b hlt => h.2.2 b (Nat.le_trans hb.size hlt)⟩
end
def NextR (w : World) (c : Nat → Colour) (t g : Nat) (m' : Pl) (w' : World) : Prop :=
  ∃ c', (∀ b, b < w.heap.size → c' b = c b) ∧ (∀ b, w.heap.size ≤ b → (c' b).1 = t ∨ (c' b).1 = t + 1 ∨ (c' b).1 = 1) ∧ (∀ b, w'.heap.size ≤ b → (c' b).1 = t + 1) ∧ LiveR w' c' t g m' ∧ Ch (fun b => (c b).1 = t) w w'
/-- a piece of the waits' cells -/
theorem wtCells_at (wts : List Wr) (us : Nat → Value) (i j : Nat) (hi : i < wts.length) (hj : j < 3) : (wtCells wts us)[i * 3 + j]? = (wtCell (wtAt wts i) (us i))[j]? := by
  unfold wtCells
  have key : ∀ n, i < n → ((List.range n).flatMap fun i => wtCell (wtAt wts i) (us i))[i * 3 + j]? = (wtCell (wtAt wts i) (us i))[j]? := by
    intro n
    induction n with
    | zero => intro h; omega
    | succ n ih =>
      intro h
      have hl : ((List.range n).flatMap fun i => wtCell (wtAt wts i) (us i)).length = n * 3 := by
        clear ih h
        induction n with
        | zero => rfl
        | succ n ih => rw [List.range_succ, List.flatMap_append, List.length_append, ih]; simp [wtCell]; omega
      rw [List.range_succ, List.flatMap_append]
      rcases Nat.lt_or_ge i n with h' | h'
      · rw [List.getElem?_append_left (by rw [hl]; omega)]
        exact ih h'
      · obtain rfl : i = n := by omega
        rw [List.getElem?_append_right (by rw [hl]; omega), hl, show i * 3 + j - i * 3 = j by omega]
        simp
  exact key wts.length hi
theorem wtCells_length (wts : List Wr) (us : Nat → Value) : (wtCells wts us).length = wts.length * 3 := by
  unfold wtCells
  generalize wts.length = n
  induction n with
  | zero => rfl
  | succ n ih => rw [List.range_succ, List.flatMap_append, List.length_append, ih]; simp [wtCell]; omega
end Go.Proofs.Ytdddfjkecmnggaa

namespace Go.Proofs.Ytdddfjkecmnggaa
open Go.RowKit Go.Maps

section
variable {w w0 : World} {ops : Array Oper} {rest : List Oper} {o : Oper} {a : Act} {Q : Exit → Act → World → Prop}
theorem wl (hgd : Region.wanted o (yielded ops a.tmps) = true) (v : Value) (w' : World) (hrun : (execOp a.eval o).run Try.prog w = .ok (.value v) w') (h : wpList Try.prog ops Q rest (a.put o.dst v) w') : wpList Try.prog ops Q (o :: rest) a w :=
  BigFrame.wpList_want hgd fun K hK => by
    unfold Oper.wp
    rw [hrun]
    exact hK _ _ h
theorem own_len {base e sz n : Nat} {v : Value} {xs : List Value} (h : w0.ownsRow base e sz v n xs) {t : TypeId} (hu : Try.prog.underlying t = some (.slice (Try.prog.elem t))) (ty : TypeId) : (Builtin.len_ #[t] ty #[v]).run Try.prog w = .ok (goInt n) w := by
  rcases h.2 with ⟨rfl, rfl⟩ | ⟨g, cap, cur, rfl, _⟩
  · exact run_len_slice w _ _ _ _ _ hu
  · exact run_len_slice w _ _ _ _ _ hu
theorem wl_olen (x : Operand) (t : TypeId) (hgd : Region.wanted o (yielded ops a.tmps) = true) (ho : o.op = .call { callee := .builtin .len, args := #[x], argTypes := #[t] }) (hu : Try.prog.underlying t = some (.slice (Try.prog.elem t))) {base e sz n : Nat} (v : Value) {xs : List Value} (hx : a.eval x = v) (hown : w0.ownsRow base e sz v n xs)
    (h : wpList Try.prog ops Q rest (a.put o.dst (.int .i64 (n : Nat))) w) : wpList Try.prog ops Q (o :: rest) a w := by
  have hr := own_len (w := w) hown hu o.type
  refine wl hgd _ w ?_ h
  simp only [execOp, ho, resolve, invoke, builtin, Sem.run_bind, Sem.run_pure, Result.andThen_ok, List.map_toArray, List.map_cons, List.map_nil, hx, hr]
  rfl
theorem own_index {base e sz n : Nat} {v : Value} {xs : List Value} (hown : w0.ownsRow base e sz v n xs) {t : TypeId} (hu : Try.prog.underlying t = some (.slice e)) (hs : (Try.prog.info? e).map (·.size) = some sz) (k : Nat) (hk : k < n) :
    ∃ b, v.ownBlock = some b ∧ (∀ w', (Instr.indexAt t v (.int .i64 (k : Nat))).run Try.prog w' = .ok (.pointer (some ⟨b, k * sz, none⟩)) w') ∧ ∀ j, j < sz → w0.cell? ⟨b, k * sz + j, none⟩ = xs[k * sz + j]? := by
  obtain ⟨i5, hi5, hsz⟩ := Option.map_eq_some_iff.1 hs
  rcases hown.2 with ⟨rfl, rfl⟩ | ⟨g, cap, cur, rfl, _, hg, hcap, hmax, hcs, htake⟩
  · omega
  · refine ⟨g, rfl, fun w' => by simp [Instr.indexAt, asIntOf, run_underlying hu, hk, sizeOf, typeInfo, hi5, hsz, add_none], fun j hj => ?_⟩
    have hlt : k * sz + j < n * sz := by
      have : (k + 1) * sz ≤ n * sz := Nat.mul_le_mul_right sz hk
      rw [Nat.add_mul, Nat.one_mul] at this
      omega
    rw [← htake, List.getElem?_take, if_pos hlt]
    simp [World.cell?, hg]
theorem wl_oidx (x i : Operand) (t e : TypeId) (hgd : Region.wanted o (yielded ops a.tmps) = true) (ho : o.op = .indexAddr t x i) (hu : Try.prog.underlying t = some (.slice e)) {sz base n : Nat} (hs : (Try.prog.info? e).map (·.size) = some sz) (v : Value) {xs : List Value} (hx : a.eval x = v) (hown : w.ownsRow base e sz v n xs) (k : Nat) (I : Int) (hi : a.eval i = .int .i64 I) (hI : I = (k : Int)) (hk : k < n)
    (h : ∀ b, v.ownBlock = some b → (∀ j, j < sz → w.cell? ⟨b, k * sz + j, none⟩ = xs[k * sz + j]?) → wpList Try.prog ops Q rest (a.put o.dst (.pointer (some ⟨b, k * sz, none⟩))) w) : wpList Try.prog ops Q (o :: rest) a w := by
  subst hI
  obtain ⟨b, hb, hr, hc⟩ := own_index hown hu hs k hk
  refine wl hgd _ w ?_ (h b hb hc)
  simp only [execOp, ho, hx, hi, hr, Sem.run_bind, Sem.run_pure, Result.andThen_ok]
theorem wl_ld {t : Nat} (ht : OneT t) (x : Operand) (hgd : Region.wanted o (yielded ops a.tmps) = true) (ho : o.op = .load t x) (g i : Nat) (hx : a.eval x = .pointer (some ⟨g, i, none⟩)) (v : Value) (hc : w.cell? ⟨g, i, none⟩ = some v)
    (h : wpList Try.prog ops Q rest (a.put o.dst v) w) : wpList Try.prog ops Q (o :: rest) a w := wl hgd _ _ (run_load1 ht x ho g i hx v hc) h
theorem wl_fld {T i k : Nat} (hf : FieldAt T i k) (x : Operand) (hgd : Region.wanted o (yielded ops a.tmps) = true) (ho : o.op = .fieldAddr T x i) (g off : Nat) (hx : a.eval x = .pointer (some ⟨g, off, none⟩))
    (h : wpList Try.prog ops Q rest (a.put o.dst (.pointer (some ⟨g, off + k, none⟩))) w) : wpList Try.prog ops Q (o :: rest) a w := wl hgd _ _ (by simp [execOp, ho, hx, hf w g off]) h
theorem wl_eqI {t : Nat} (x y : Operand) (hgd : Region.wanted o (yielded ops a.tmps) = true) (ho : o.op = .binOp .eql t x y t) (z z' : Int) (hx : a.eval x = .int .i64 z) (hy : a.eval y = .int .i64 z') (b : Bool) (hb : decide (z = z') = b) (h : wpList Try.prog ops Q rest (a.put o.dst (.bool b)) w) : wpList Try.prog ops Q (o :: rest) a w :=
  wl hgd _ _ (by
    subst hb
    simp only [execOp, ho, hx, hy]
    by_cases h : z = z'
    · subst h; simp [go_sem]
    · simp [go_sem, h]) h
end
theorem sl53 : Try.prog.underlying 53 = some (.slice (Try.prog.elem 53)) := by kernel_rfl
theorem sl54 : Try.prog.underlying 54 = some (.slice (Try.prog.elem 54)) := by kernel_rfl
theorem sl57 : Try.prog.underlying 57 = some (.slice (Try.prog.elem 57)) := by kernel_rfl
theorem s57 : (Try.prog.info? 57).map (·.size) = some 1 := by kernel_rfl
theorem s40 : (Try.prog.info? 40).map (·.size) = some 1 := by kernel_rfl
theorem s81 : (Try.prog.info? 81).map (·.size) = some 3 := by kernel_rfl
theorem i40 : (Try.prog.info? 40).map (fun i => (i.zero, i.size, i.bytes)) = some (some (.slice none 0 0), 1, 24) := by kernel_rfl
theorem i57 : (Try.prog.info? 57).map (fun i => (i.zero, i.size, i.bytes)) = some (some (.slice none 0 0), 1, 24) := by kernel_rfl
theorem i81 : (Try.prog.info? 81).map (fun i => (i.zero, i.size, i.bytes)) = some (some (.agg #[.int .i64 0, .int .i64 0, .slice none 0 0]), 3, 40) := by kernel_rfl
theorem o53 : OneT 53 := fun w g o v h => by simp [loadVar, isAgg, run_underlying Try.underlying53, h]
theorem o54 : OneT 54 := fun w g o v h => by simp [loadVar, isAgg, run_underlying Try.underlying54, h]
theorem o57 : OneT 57 := fun w g o v h => by simp [loadVar, isAgg, run_underlying Try.underlying57, h]
theorem o40 : OneT 40 := fun w g o v h => by simp [loadVar, isAgg, run_underlying Try.underlying40, h]
theorem o3 : OneT 3 := fun w g o v h => by simp [loadVar, isAgg, run_underlying Try.underlying3, h]
theorem f81_0 : FieldAt 81 0 0 := fun w g off => by kernel_rfl
theorem f81_1 : FieldAt 81 1 1 := fun w g off => by kernel_rfl
theorem f81_2 : FieldAt 81 2 2 := fun w g off => by kernel_rfl

/-! the shape -/
theorem ShapeIs.n {m : Pl} {ds ts : List Int} (h : ShapeIs m ds ts) : m.n = ds.length + ts.length := by unfold Pl.n; rw [h.1]; simp
theorem ShapeIs.tape {m : Pl} {ds ts : List Int} (h : ShapeIs m ds ts) (i : Nat) (hi : i < m.n) : m.tape i = decide (ds.length ≤ i) := by
  have hn := h.n
  unfold Pl.tape
  rw [h.1]
  rcases Nat.lt_or_ge i ds.length with h' | h'
  · rw [decide_eq_false (by omega)]
    simp [List.getD_eq_getElem?_getD, List.getElem?_append_left, h']
  · rw [decide_eq_true h']
    have : i - ds.length < ts.length := by omega
    simp [List.getD_eq_getElem?_getD, List.getElem?_append_right, h', this]
theorem ShapeIs.disk {m : Pl} {ds ts : List Int} (h : ShapeIs m ds ts) (i : Nat) (hi : i < ds.length) : (m.size i : Int) = ds.getD i 0 := by
  unfold Pl.size
  rw [h.1]
  have : 0 ≤ ds[i] := h.2.1 _ (List.getElem_mem hi)
  simp [List.getD_eq_getElem?_getD, List.getElem?_append_left, hi]
  omega
theorem ShapeIs.tapeSize {m : Pl} {ds ts : List Int} (h : ShapeIs m ds ts) (i : Nat) (hi : i < ts.length) : (m.size (ds.length + i) : Int) = ts.getD i 0 := by
  unfold Pl.size
  rw [h.1]
  have : 0 ≤ ts[i] := h.2.2 _ (List.getElem_mem hi)
  simp [List.getD_eq_getElem?_getD, hi]
  omega
theorem ShapeIs.few {m : Pl} {ds ts : List Int} (h : ShapeIs m ds ts) (hw : m.WF) : ds.length + ts.length ≤ 12 := by have := hw.few; rw [h.1] at this; simpa using this
end Go.Proofs.Ytdddfjkecmnggaa

namespace Go.Proofs.Ytdddfjkecmnggaa
open Go.RowKit
section
variable {P : Program} {ops : Array Oper} {Q : Exit → Act → World → Prop} {md : Region.Mode} {S : World → Prop} {z : Nat}

/-- whatever order is picked from here on; S holds behind every operation, as long as the last one has not come up -/
def wpAnyU (P : Program) (md : Region.Mode) (ops : Array Oper) (Q : Exit → Act → World → Prop) (S : World → Prop) (z : Nat) : Nat → Array Bool → Act → World → Prop
  | 0, listed, a, w => Region.ready md ops listed = [] ∧ Q .normal a w
  | fuel + 1, listed, a, w =>
    (Region.ready md ops listed = [] → Q .normal a w) ∧
    ∀ i ∈ Region.ready md ops listed, wpOp P ops Q i (fun a' w' => ((listed.setIfInBounds i true).getD z true = false → S w') ∧ wpAnyU P md ops Q S z fuel (listed.setIfInBounds i true) a' w') a w
theorem wpAny_of_until : ∀ (fuel : Nat) (listed : Array Bool) (a : Act) (w : World), wpAnyU P md ops Q S z fuel listed a w → wpAny P md ops Q fuel listed a w
  | 0, _, _, _, h => h
  | fuel + 1, _, _, _, h => ⟨h.1, fun i hi => wpOp_mono (fun a' w' h' => wpAny_of_until fuel _ a' w' h'.2) (h.2 i hi)⟩

theorem wpAnyU_first {i : Nat} {oi oz : Oper} {v : Value} (hi : ops[i]? = some oi) (hz : ops[z]? = some oz) (hiz : i ≠ z) (hwait : ∃ e ∈ oz.after, Region.binds md e = true ∧ e.on = i) (hsel : ∀ (j : Nat) (o : Oper) cs b, ops[j]? = some o → o.op ≠ .select cs b)
    (hQ : ∀ c a w, Q (.panic c) (a.put oi.dst v) w → Q (.panic c) a w) :
    ∀ (fuel : Nat) (listed : Array Bool) (a : Act) (w : World),
      (∀ j oj, ops[j]? = some oj → j ≠ i → listed.getD j true = false → (∀ e ∈ oj.after, Region.binds md e = true → e.on ≠ i) → oi.apart ops oj = true) →
      i ∈ Region.ready md ops listed → listed.getD z true = false → YieldsIf P ops S oi v a → S w →
      wpAnyU P md ops Q S z fuel (listed.setIfInBounds i true) (a.put oi.dst v) w → wpAnyU P md ops Q S z (fuel + 1) listed a w := by
  intro fuel
  induction fuel with
  | zero =>
    intro listed a w _ hr hzl hy hS H
    refine ⟨fun h => (by rw [h] at hr; cases hr), fun j hj => ?_⟩
    by_cases hji : j = i
    · subst hji; exact hy.wpOp hi hS ⟨fun _ => hS, H⟩
    · have := ready_mono hj hji
      rw [H.1] at this
      cases this
  | succ fuel ih =>
    intro listed a w hfree hr hzl hy hS H
    refine ⟨fun h => (by rw [h] at hr; cases hr), fun j hj => ?_⟩
    by_cases hji : j = i
    · subst hji; exact hy.wpOp hi hS ⟨fun _ => hS, H⟩
    · have h1 := H.2 j (ready_mono hj hji)
      obtain ⟨hjun, oj, hoj, hall⟩ := mem_ready.1 hj
      have hnot : ∀ e ∈ oj.after, Region.binds md e = true → e.on ≠ i := fun e he hb heq => by
        have h1 := hall e he hb
        have h0 := (mem_ready.1 hr).1
        rw [heq] at h1
        rcases Nat.lt_or_ge i listed.size with h' | h'
        · simp [h'] at h0 h1; rw [h0] at h1; cases h1
        · simp [Array.getElem?_eq_none h'] at h1
      have hjz : j ≠ z := by
        rintro rfl
        obtain ⟨e, he, hb, heq⟩ := hwait
        rw [hz] at hoj
        cases hoj
        exact hnot e he hb heq
      have hlj : (listed.setIfInBounds j true).getD z true = false := by rw [getD_set_ne true hjz]; exact hzl
      have hlij : ((listed.setIfInBounds i true).setIfInBounds j true).getD z true = false := by rw [getD_set_ne true hjz, getD_set_ne true hiz]; exact hzl
      have h2 := wpOp_putIf hoj (hfree j oj hoj hji hjun hnot) (fun cs b => hsel i oi cs b hi) (fun cs b => hsel j oj cs b hoj) hQ hy h1
      have hfree' : ∀ k ok, ops[k]? = some ok → k ≠ i → (listed.setIfInBounds j true).getD k true = false →
          (∀ e ∈ ok.after, Region.binds md e = true → e.on ≠ i) → oi.apart ops ok = true := fun k ok hk hki hun hno => by
        refine hfree k ok hk hki ?_ hno
        by_cases hjk : j = k
        · subst hjk; exact hjun
        · rw [getD_set_ne true hjk] at hun; exact hun
      refine wpOp_mono (fun a' w' h3 => ?_) h2
      have hSw := h3.2.1 hlij
      refine ⟨fun _ => hSw, ih (listed.setIfInBounds j true) a' w' hfree' (ready_mono hr (Ne.symm hji)) hlj h3.1 hSw ?_⟩
      rw [Array.setIfInBounds_comm _ _ hji]
      exact h3.2.2
theorem wp_region_until {id : Nat} {a : Act} {w : World} (z : Nat) (hm : P.follows .mixedOrders = true)
    (h : wpAnyU P .any ops Q S z ops.size (Array.replicate ops.size false) a { w with drawn := w.drawn + 1 }) : (Code.region id ops true).wp P Q a w :=
  wp_region_any hm (wpAny_of_until _ _ _ _ h)
theorem wpAnyU_done {listed : Array Bool} {a : Act} {w : World} (hr : Region.ready md ops listed = []) (h : Q .normal a w) :
    ∀ fuel, wpAnyU P md ops Q S z fuel listed a w
  | 0 => ⟨hr, h⟩
  | _ + 1 => ⟨fun _ => h, by rw [hr]; simp⟩
/-- the last waits for i -/
def waitsB (md : Region.Mode) (ops : Array Oper) (z i : Nat) : Bool := i != z && match ops[z]? with
  | some o => o.after.any fun e => Region.binds md e && e.on == i
  | none => false
end
section
variable {ops : Array Oper} {Q : Exit → Act → World → Prop} {a : Act} {w : World} {listed : Array Bool} {fuel : Nat} {S : World → Prop} {z : Nat}
theorem takeU {i : Nat} (d : Option Tmp) {oi : Oper} {v : Value} (hi : ops[i]? = some oi) (hd : oi.dst = d)
    (hs : Region.noSelect ops = true) (hf : Region.free .any ops listed i = true) (hr : (Region.ready .any ops listed).contains i = true) (hz : listed.getD z true = false) (hw : waitsB .any ops z i = true)
    (hQ : ∀ c a w, Q (.panic c) (a.put d v) w → Q (.panic c) a w) (hy : YieldsIf Try.prog ops S oi v a) (hS : S w)
    (h : wpAnyU Try.prog .any ops Q S z fuel (listed.setIfInBounds i true) (a.put d v) w) : wpAnyU Try.prog .any ops Q S z (fuel + 1) listed a w := by
  subst hd
  unfold waitsB at hw
  rw [Bool.and_eq_true] at hw
  obtain ⟨h1, h2⟩ := hw
  cases hzo : ops[z]? with
  | none => rw [hzo] at h2; cases h2
  | some oz =>
    rw [hzo] at h2
    simp only [Array.any_eq_true] at h2
    obtain ⟨n, hn, hb⟩ := h2
    simp only [Bool.and_eq_true, beq_iff_eq] at hb
    exact wpAnyU_first hi hzo (by simpa using h1) ⟨_, Array.getElem_mem hn, hb.1, hb.2⟩ (Region.noSelect_spec hs) hQ fuel listed a w (Region.free_spec hi hf) (by simpa using hr) hz hy hS h
theorem oneU {i : Nat} (hr : Region.ready .any ops listed = [i]) (h : wpOp Try.prog ops Q i (fun a' w' => ((listed.setIfInBounds i true).getD z true = false → S w') ∧ wpAnyU Try.prog .any ops Q S z fuel (listed.setIfInBounds i true) a' w') a w) : wpAnyU Try.prog .any ops Q S z (fuel + 1) listed a w :=
  ⟨fun h0 => (by rw [hr] at h0; cases h0), fun j hj => (by rw [hr] at hj; obtain rfl := List.mem_singleton.1 hj; exact h)⟩
end
end Go.Proofs.Ytdddfjkecmnggaa

namespace Go.Proofs.Ytdddfjkecmnggaa
open Go.RowKit Go.Maps

theorem below_drewN' (w : World) (k : Nat) : Below w.heap.size w (w.drewN k) := ⟨rfl, rfl, rfl, Nat.le_refl _, fun _ _ => rfl⟩
theorem refHas' {w : World} {g : Nat} {vd vt hv wv : Value} {m : Pl} (h : RefRow w g vd vt hv wv m) {ds ts : List Int} (hd : NumsIn w vd ds) (ht : NumsIn w vt ts) (hs : ShapeIs m ds ts) (dev : Int) :
    Calls Try.prog 48 #[ptr g, .int .i64 dev] w fun e w' => e = .returned (.bool (decide (m.has dev))) ∧ Below w.heap.size w w' := by
  refine (refHas_any h hd ht dev).mono fun e w' ⟨h1, k, h2⟩ => ⟨?_, h2 ▸ below_drewN' w k⟩
  rw [h1]
  have : (0 ≤ dev ∧ dev < (ds.length : Int) + (ts.length : Int)) ↔ m.has dev := by
    unfold Pl.has
    rw [hs.n]
    omega
  simp [this]
/-- how many of the first j writes are a device's -/
def cntTo (m : Pl) (i j : Nat) : Nat := ((m.wts.take j).filter fun x => x.dev == i).length
theorem cntTo_succ (m : Pl) (i j : Nat) (hj : j < m.wts.length) : cntTo m i (j + 1) = cntTo m i j + (if (wtAt m.wts j).dev = i then 1 else 0) := by
  unfold cntTo wtAt
  rw [List.take_succ_eq_append_getElem hj, List.filter_append, List.length_append]
  by_cases h : m.wts[j].dev = i
  · simp [hj, h]
  · simp [hj, h]
theorem cntTo_all (m : Pl) (i : Nat) : cntTo m i m.wts.length = (m.wt i).length := by unfold cntTo Pl.wt; rw [List.take_length]
theorem cntTo_le (m : Pl) (i j : Nat) : cntTo m i j ≤ m.wts.length := by
  unfold cntTo
  exact Nat.le_trans (List.length_filter_le _ _) (by rw [List.length_take]; omega)
set_option maxHeartbeats 1000000 in
set_option maxRecDepth 100000 in
theorem refLen_in {w : World} {c : Nat → Colour} {t g : Nat} {m : Pl} (h : LiveR w c t g m) (hst : m.steps < 1099511627775) (i : Nat) (hi : i < m.n) :
    Calls Try.prog 47 #[ptr g, .int .i64 (i : Nat)] w fun e w' => e = .returned (.tuple #[.int .i64 (m.len i : Nat), .int .i64 0]) ∧ Below w.heap.size w w' := by
  obtain ⟨⟨vd, vt, hv, wv, ds, ts, hA⟩, hwf, _⟩ := h
  have HA : Hid (RefAt w c t g vd vt hv wv ds ts m) := hA
  have HH : Hid (m.has (i : Nat)) := ⟨by omega, by omega⟩
  obtain ⟨⟨us, ho1, ho2⟩, ho3⟩ := hA.has
  obtain ⟨⟨xs, hr1, hr2⟩, hr3⟩ := ho2 i hi
  obtain ⟨⟨uw, hw1, hw2⟩, hw3⟩ := hA.waits
  obtain ⟨left, hleft, hrow⟩ := hA.row
  have HO : Hid (w.ownsRow 0 57 1 hv m.n us) := ho1
  have HR : Hid (w.ownsRow 0 40 1 (us.getD i undef) (m.fl i).length xs) := hr1
  have HWO : Hid (w.ownsRow 0 81 3 wv m.wts.length (wtCells m.wts uw)) := hw1
  have HUS : Hid (us[i]? = some (us.getD i undef)) := by
    have : us.length = m.n := by have := ho1.1; omega
    show _ = _
    simp [show i < us.length by omega]
  have HROW : Hid (∀ W, Below w.heap.size w W → W.cell? ⟨g, 2, none⟩ = some hv ∧ W.cell? ⟨g, 3, none⟩ = some wv) := fun W hW => ⟨(hrow.later hW hrow.lt).at 2 _ rfl, (hrow.later hW hrow.lt).at 3 _ rfl⟩
  have hcnt := hwf.count
  have HT : Hid (m.tape i = decide (ds.length ≤ i)) := hA.shape.tape i hi
  have HD : Hid (∀ W, Below w.heap.size w W → Calls Try.prog 44 #[ptr g] W fun e w' => e = .returned (.int .i64 (ds.length : Nat)) ∧ W = w') := fun W hW => refDisks_any (hA.same (Same.below hW) hW.size).row (hA.disks.same (t := t) (Same.below hW) hW.size).1
  have HLEN : Hid (m.len i = (m.fl i).length + (if ds.length ≤ i then cntTo m i m.wts.length else 0)) := by
    show _ = _
    unfold Pl.len
    rw [HT.out, cntTo_all]
    by_cases h : ds.length ≤ i
    · simp [h]
    · simp only [decide_eq_false h, if_neg h]
      have := hwf.disk i hi (by rw [HT.out]; exact decide_eq_false h)
      simp; omega
  have hfl : (m.fl i).length ≤ 4096 := by
    by_cases h : m.tape i = true
    · have := (hwf.tapes i hi h).1
      have := (hwf.sizes i hi).2
      omega
    · have := hwf.disk i hi (by simpa using h)
      have := (hwf.sizes i hi).2
      omega
  have hdl : ds.length ≤ 12 := by have := hA.shape.few hwf; omega
  have HC : Hid (∀ j, cntTo m i j ≤ m.wts.length) := cntTo_le m i
  have HCS : Hid (∀ j, j < m.wts.length → cntTo m i (j + 1) = cntTo m i j + (if (wtAt m.wts j).dev = i then 1 else 0)) := cntTo_succ m i
  have HCZ : Hid (cntTo m i 0 = 0) := rfl
  have HWC : Hid (∀ j, j < m.wts.length → ∀ q, q < 3 → (wtCells m.wts uw)[j * 3 + q]? = (wtCell (wtAt m.wts j) (uw j))[q]?) := fun j hj q hq => wtCells_at m.wts uw j q hj hq
  generalize hN : m.wts.length = N at HWO hcnt HLEN HC HCS HWC
  generalize hF : (m.fl i).length = F at HR HLEN hfl
  generalize us.getD i undef = rv at HR HUS
  generalize hDL : ds.length = D at HD HLEN hdl HT
  obtain ⟨V, hV⟩ : ∃ V : Nat → Nat, V = fun k => F + (if D ≤ i then cntTo m i k else 0) := ⟨_, rfl⟩
  have HV0 : Hid (V 0 = F) := by rw [hV]; show F + _ = F; rw [HCZ.out]; simp
  have HVL : Hid (m.len i = V N) := by rw [hV]; exact HLEN.out
  have HVB : Hid (∀ k, V k ≤ 4096 + N) := fun k => by rw [hV]; have := HC.out k; dsimp only; split <;> omega
  have HVS : Hid (∀ k, k < N → V (k + 1) = V k + (if (wtAt m.wts k).dev = i ∧ D ≤ i then 1 else 0)) := fun k hk => by
    rw [hV]
    dsimp only
    rw [HCS.out k hk]
    by_cases h1 : D ≤ i <;> by_cases h2 : (wtAt m.wts k).dev = i <;> simp [h1, h2]
    omega
  clear hV
  clear hA ho1 ho2 ho3 hr1 hr2 hr3 hw1 hw2 hw3 hrow hleft hN hF hDL
  go_enter Try.func47, Try.ntmps47
  go_wp2_with (first
    | (go_at_call 48; refine (refHas' HA.out.row HA.out.disks.1 HA.out.tapes.1 HA.out.shape (i : Nat)).mono ?_; rw [decide_eq_true HH.out]; rintro e w1 ⟨rfl, b1⟩; have R1 : Hid (Below w.heap.size w w1) := b1; have k2 := (HROW.out w1 b1).1; have k3 := (HROW.out w1 b1).2; clear b1)
    | (refine wl_oidx (.tmp 15) (.tmp 16) 53 57 rfl rfl Try.underlying53 s57 hv rfl (ownK HO.out fun q hq => R1.out.block q (HO.out.lt q hq).2) i _ rfl rfl hi ?_; intro b hb hc; have C1 : Hid (w1.cell? ⟨b, i * 1, none⟩ = some rv) := (by have := hc 0 (by decide); rw [Nat.add_zero, Nat.mul_one] at this; rw [Nat.mul_one, this]; exact HUS.out); clear hb hc)
    | (refine wl_ld o57 (.tmp 17) rfl rfl b (i * 1) rfl rv C1.out ?_)
    | (refine wl_olen (.tmp 18) 57 rfl rfl sl57 rv rfl HR.out ?_))
  rw [show (F : Int) = ((V 0 : Nat) : Int) by rw [HV0.out]]
  go_loopw [6, 7] (fun n j W => ∃ k : Nat, k ≤ N ∧ j = .int .i64 (k : Nat) ∧ n = .int .i64 (V k : Nat) ∧ Below w.heap.size w W) (fun _ j _ => N - (intOf j).toNat)
  case atStart => exact ⟨0, Nat.zero_le _, rfl, rfl, R1.out⟩
  case round =>
    obtain ⟨k, hk, rfl, rfl, hbw⟩ := hrel
    have HB : Hid (Below w.heap.size w wr) := hbw
    have k2 := (HROW.out wr hbw).1
    have k3 := (HROW.out wr hbw).2
    have HW3 : Hid (wr.ownsRow 0 81 3 wv N (wtCells m.wts uw)) := ownK HWO.out fun q hq => hbw.block q (HWO.out.lt q hq).2
    clear hbw
    have hvb := HVB.out k
    by_cases hlt : k < N
    · have hlt' : (k : Int) < (N : Int) := by omega
      have HS := HVS.out k hlt
      have HS' : Hid (V (k + 1) = V k + (if (wtAt m.wts k).dev = i ∧ D ≤ i then 1 else 0)) := HS
      have HX : Hid ((wtCells m.wts uw)[k * 3 + 0]? = some (.int .i64 ((wtAt m.wts k).dev : Nat))) := by rw [HWC.out k hlt 0 (by decide)]; rfl
      clear HS
      generalize (wtAt m.wts k).dev = d at HS' HX
      generalize hvk : V k = vk at HS' hvb
      clear hvk
      by_cases hd : d = i
      · have HDE : Hid (decide ((d : Int) = (i : Int)) = true) := decide_eq_true (by omega)
        by_cases hDi : D ≤ i
        · have hDi' : (D : Int) ≤ (i : Int) := by omega
          have HE : Hid (V (k + 1) = vk + 1) := by show _ = _; rw [HS'.out, if_pos ⟨hd, hDi⟩]
          clear hd
          go_wp2_with (first
            | (refine wl_olen (.tmp 24) 54 rfl rfl sl54 wv rfl HW3.out ?_)
            | (refine wl_oidx (.tmp 32) (.tmp 33) 54 81 rfl rfl Try.underlying54 s81 wv rfl HW3.out k _ rfl rfl hlt ?_; intro b2 hb2 hc2; have C2 : Hid (wr.cell? ⟨b2, k * 3 + 0, none⟩ = some (.int .i64 (d : Nat))) := (by rw [hc2 0 (by decide)]; exact HX.out); clear hb2 hc2)
            | (refine wl_fld f81_0 (.tmp 34) rfl rfl b2 (k * 3) rfl ?_)
            | (refine wl_ld o3 (.tmp 35) rfl rfl b2 (k * 3 + 0) rfl _ C2.out ?_)
            | (refine wl_eqI (.tmp 36) (.tmp 37) rfl rfl (d : Nat) (i : Nat) rfl rfl true HDE.out ?_)
            | (go_at_call 44; refine (HD.out wr HB.out).mono ?_; rintro e w' ⟨rfl, rfl⟩))
          exact ⟨⟨k + 1, by omega, by go_num, congrArg (Value.int .i64) (by have := HE.out; omega), HB.out⟩, by simp [intOf]; omega⟩
        · have hDi' : ¬ (D : Int) ≤ (i : Int) := by omega
          have hDi'' : decide ((D : Int) ≤ (i : Int)) = false := decide_eq_false hDi'
          have HE : Hid (V (k + 1) = vk) := by show _ = _; rw [HS'.out, if_neg (fun e => hDi e.2)]; rfl
          clear hd
          go_wp2_with (first
            | (refine wl_olen (.tmp 24) 54 rfl rfl sl54 wv rfl HW3.out ?_)
            | (refine wl_oidx (.tmp 32) (.tmp 33) 54 81 rfl rfl Try.underlying54 s81 wv rfl HW3.out k _ rfl rfl hlt ?_; intro b2 hb2 hc2; have C2 : Hid (wr.cell? ⟨b2, k * 3 + 0, none⟩ = some (.int .i64 (d : Nat))) := (by rw [hc2 0 (by decide)]; exact HX.out); clear hb2 hc2)
            | (refine wl_fld f81_0 (.tmp 34) rfl rfl b2 (k * 3) rfl ?_)
            | (refine wl_ld o3 (.tmp 35) rfl rfl b2 (k * 3 + 0) rfl _ C2.out ?_)
            | (refine wl_eqI (.tmp 36) (.tmp 37) rfl rfl (d : Nat) (i : Nat) rfl rfl true HDE.out ?_)
            | (go_at_call 44; refine (HD.out wr HB.out).mono ?_; rintro e w' ⟨rfl, rfl⟩))
          exact ⟨⟨k + 1, by omega, by go_num, congrArg (Value.int .i64) (by have := HE.out; omega), HB.out⟩, by simp [intOf]; omega⟩
      · have HDE : Hid (decide ((d : Int) = (i : Int)) = false) := decide_eq_false (by omega)
        have HE : Hid (V (k + 1) = vk) := by show _ = _; rw [HS'.out, if_neg (fun e => hd e.1)]; rfl
        clear hd
        go_wp2_with (first
          | (refine wl_olen (.tmp 24) 54 rfl rfl sl54 wv rfl HW3.out ?_)
          | (refine wl_oidx (.tmp 32) (.tmp 33) 54 81 rfl rfl Try.underlying54 s81 wv rfl HW3.out k _ rfl rfl hlt ?_; intro b2 hb2 hc2; have C2 : Hid (wr.cell? ⟨b2, k * 3 + 0, none⟩ = some (.int .i64 (d : Nat))) := (by rw [hc2 0 (by decide)]; exact HX.out); clear hb2 hc2)
          | (refine wl_fld f81_0 (.tmp 34) rfl rfl b2 (k * 3) rfl ?_)
          | (refine wl_ld o3 (.tmp 35) rfl rfl b2 (k * 3 + 0) rfl _ C2.out ?_)
          | (refine wl_eqI (.tmp 36) (.tmp 37) rfl rfl (d : Nat) (i : Nat) rfl rfl false HDE.out ?_))
        exact ⟨⟨k + 1, by omega, by go_num, congrArg (Value.int .i64) (by have := HE.out; omega), HB.out⟩, by simp [intOf]; omega⟩
    · have hlt' : ¬ (k : Int) < (N : Int) := by omega
      have HE : Hid (k = N) := by show _ = _; omega
      go_wp2_with (first
        | (refine wl_olen (.tmp 24) 54 rfl rfl sl54 wv rfl HW3.out ?_))
      go_ret2
      exact ⟨by rw [HVL.out, ← HE.out]; rfl, HB.out⟩
set_option maxHeartbeats 1000000 in
set_option maxRecDepth 100000 in
theorem refLen_any {w : World} {c : Nat → Colour} {t g : Nat} {m : Pl} (h : LiveR w c t g m) (hst : m.steps < 1099511627775) (d : Int) :
    Calls Try.prog 47 #[ptr g, .int .i64 d] w fun e w' => e = .returned (.tuple #[.int .i64 ((if m.has d then m.len d.toNat else 0 : Nat) : Int), .int .i64 (if m.has d then 0 else 31)]) ∧ Below w.heap.size w w' := by
  by_cases hh : m.has d
  · obtain ⟨i, rfl⟩ : ∃ i : Nat, d = (i : Int) := ⟨d.toNat, by have := hh.1; omega⟩
    rw [if_pos hh, if_pos hh, Int.toNat_natCast]
    exact refLen_in h hst i (by have := hh.2; omega)
  · rw [if_neg hh, if_neg hh]
    obtain ⟨⟨vd, vt, hv, wv, ds, ts, hA⟩, hwf, _⟩ := h
    have HA : Hid (RefAt w c t g vd vt hv wv ds ts m) := hA
    have HH : Hid (¬ m.has d) := hh
    clear hA hh
    go_enter Try.func47, Try.ntmps47
    go_wp2_with (first
      | (go_at_call 48; refine (refHas' HA.out.row HA.out.disks.1 HA.out.tapes.1 HA.out.shape d).mono ?_; rw [decide_eq_false HH.out]; rintro e w1 ⟨rfl, b1⟩; have R1 : Hid (Below w.heap.size w w1) := b1; clear b1))
    go_ret2
    exact ⟨rfl, R1.out⟩
end Go.Proofs.Ytdddfjkecmnggaa

namespace Go.Proofs.Ytdddfjkecmnggaa
open Go.RowKit Go.Maps

theorem info5b : (Try.prog.info? 5).map (fun i => (i.zero, i.size, i.bytes)) = some (some (.int .u8 0), 1, 1) := by kernel_rfl
/-- append of bytes to a row of nothing: a new block, and nothing that was there turns -/
theorem app_bytes {w : World} (ty : TypeId) (g : Nat) (hg : Row w g 5 []) (vx : Value) (s : List Nat) (hx : SliceIn w vx s) (h1 : 1 ≤ s.length) (h2 : s.length ≤ 1000000) :
    ∃ v' w', (Builtin.append_ #[40, 40] ty #[.slice (some ⟨g, 0, none⟩) 0 0, vx]).run Try.prog w = .ok v' w' ∧ w'.ownsRow 0 5 1 v' s.length (bcells s) ∧ v'.ownBlock = some w.heap.size ∧ Below w.heap.size w w' := by
  obtain ⟨i, hi, hz0, hz1, hz2⟩ := info_parts info5b
  obtain ⟨p, cap, rfl, hl, h⟩ := hx
  rcases h with rfl | ⟨b, off, rfl, hc, _⟩
  · simp at h1
  have hcl : (bcells s).length = s.length * i.size := by rw [hz1, bcells_length, Nat.mul_one]
  have hnews : ∀ j u, (bcells s)[j]? = some u → w.cell? ((⟨b, off, none⟩ : Addr).add j) = some u := by
    intro j u hu
    have hj : j < s.length := by
      have := (List.getElem?_eq_some_iff.1 hu).1
      rwa [bcells_length] at this
    rw [add_none, hc j hj, ← hu, bcells_at s j hj]
  have hr2 := run_append_grow (P := Try.prog) w 40 ty 5 i (.int .u8 0) Try.underlying40 hi hz0 ⟨g, 0, none⟩ 0 0 [] (by simp) (by intro j u hu; simp at hu) ⟨b, off, none⟩ s.length cap (bcells s) hcl hnews (by omega) (by omega) (growslice_fits (by omega) (by rw [hz2]; omega))
  have hown : w.ownsRow 0 5 1 (.slice (some ⟨g, 0, none⟩) 0 0) 0 [] := ⟨by simp, Or.inr ⟨g, 0, #[], rfl, Nat.zero_le _, hg, Nat.le_refl _, by unfold maxLen; omega, rfl, rfl⟩⟩
  obtain ⟨v', w', hr, ho, _, _⟩ := run_append_own (P := Try.prog) (w := w) 0 40 ty 5 i (.int .u8 0) 1 1 Try.underlying40 hi hz0 hz1 hz2 rfl (by decide) _ 0 [] hown
    ⟨b, off, none⟩ s.length cap (bcells s) (by rw [bcells_length, Nat.mul_one]) hnews (bcells_one s) (by unfold maxLen; omega) (by omega) (Nat.zero_le _)
  rw [hr] at hr2
  injection hr2 with e1 e2
  refine ⟨v', w', hr, ?_, by rw [e1]; rfl, ?_⟩
  · rw [Nat.zero_add, List.nil_append] at ho
    exact ho
  · rw [e2]
    exact (show Below w.heap.size w w.drew from ⟨rfl, rfl, rfl, Nat.le_refl _, fun _ _ => rfl⟩).alloc (Nat.le_refl _) _
theorem own_slice {w : World} {base : Nat} {v : Value} {s : List Nat} (h : w.ownsRow base 5 1 v s.length (bcells s)) (hb : ∀ c ∈ s, c < 256) : SliceIn w v s := by
  have hb' : ∀ j : Nat, s.getD j 0 < 256 := fun j => by
    by_cases hj : j < s.length
    · simpa [hj] using hb _ (List.getElem_mem hj)
    · simp [hj]
  rcases h.2 with ⟨rfl, h0⟩ | ⟨g, cap, cur, rfl, _, hg, hcap, hmax, hcs, htake⟩
  · have : s = [] := List.length_eq_zero_iff.1 h0
    subst this
    exact ⟨none, 0, rfl, ⟨Nat.le_refl _, by decide⟩, Or.inl rfl⟩
  · refine ⟨_, cap, rfl, ⟨hcap, by unfold maxLen at hmax; omega⟩, Or.inr ⟨g, 0, rfl, fun j hj => ?_, hb'⟩⟩
    have := h.cells (g := g) rfl j _ (bcells_at s j hj)
    rw [add_none] at this
    exact this
section
variable {w : World} {ops : Array Oper} {rest : List Oper} {o : Oper} {a : Act} {Q : Exit → Act → World → Prop}
theorem wl_none (hgd : Region.wanted o (yielded ops a.tmps) = true) (ho : o.op = .buildSlice 40 0 #[])
    (h : ∀ w', Row w' w.heap.size 5 [] → w'.heap.size = w.heap.size + 1 → Below w.heap.size w w' → wpList Try.prog ops Q rest (a.put o.dst (.slice (some ⟨w.heap.size, 0, none⟩) 0 0)) w') : wpList Try.prog ops Q (o :: rest) a w := by
  have hr : (Instr.buildSlice 40 0 #[]).run Try.prog w = .ok (.slice (some ⟨w.heap.size, 0, none⟩) 0 0) (w.alloc (.cells #[] 5)) := by kernel_rfl
  exact wl hgd _ _ (by simp [execOp, ho, hr]) (h _ (Row.new w 5 []) (by simp) ((Below.refl _ _).alloc (Nat.le_refl _) _))
theorem wl_appB (sv x : Operand) (hgd : Region.wanted o (yielded ops a.tmps) = true) (ho : o.op = .call { callee := .builtin .append, args := #[sv, x], argTypes := #[40, 40] }) (g : Nat) (vx : Value) (s : List Nat) (hs : a.eval sv = .slice (some ⟨g, 0, none⟩) 0 0) (hg : Row w g 5 []) (hx : a.eval x = vx) (hin : SliceIn w vx s) (h1 : 1 ≤ s.length) (h2 : s.length ≤ 1000000)
    (h : ∀ v' w', w'.ownsRow 0 5 1 v' s.length (bcells s) → v'.ownBlock = some w.heap.size → Below w.heap.size w w' → wpList Try.prog ops Q rest (a.put o.dst v') w') : wpList Try.prog ops Q (o :: rest) a w := by
  obtain ⟨v', w', hr, ho', hb, hbe⟩ := app_bytes o.type g hg vx s hin h1 h2
  refine wl hgd v' w' ?_ (h v' w' ho' hb hbe)
  simp only [execOp, ho, resolve, invoke, builtin, Sem.run_bind, Sem.run_pure, Result.andThen_ok, List.map_toArray, List.map_cons, List.map_nil, hs, hx, hr]
end
theorem lastR_some : ∀ (l : List Wr) (p : Nat), (∃ x ∈ l, x.place = p) → ∃ j, lastR l p = some j
  | [], _, ⟨x, hx, _⟩ => by cases hx
  | y :: r, p, ⟨x, hx, hp⟩ => by
    unfold lastR
    by_cases h : y.place = p
    · exact ⟨_, if_pos h⟩
    · rw [if_neg h]
      rcases List.mem_cons.1 hx with rfl | hx
      · exact absurd hp h
      · exact lastR_some r p ⟨x, hx, hp⟩
theorem lastAt_some {l : List Wr} {p : Nat} (h : ∃ x ∈ l, x.place = p) : ∃ s, lastAt l p = some s := by
  obtain ⟨x, hx, hp⟩ := h
  obtain ⟨j, hj⟩ := lastR_some l.reverse p ⟨x, List.mem_reverse.2 hx, hp⟩
  have hlt := lastIdx_lt hj
  refine ⟨l[j].b, ?_⟩
  unfold lastAt
  have : lastIdx l p = some j := hj
  rw [this]
  simp [hlt]
/-- what a place has, behind the first k writes that wait -/
def curTo (m : Pl) (i p k : Nat) : Option (List Nat) := (lastAt ((m.wts.take k).filter fun x => x.dev == i) p).or (if p < (m.fl i).length then some ((m.fl i).getD p zeros) else none)
theorem curTo_zero (m : Pl) (i p : Nat) : curTo m i p 0 = if p < (m.fl i).length then some ((m.fl i).getD p zeros) else none := by
  unfold curTo
  simp [lastAt_nil]
theorem curTo_succ (m : Pl) (i p k : Nat) (hk : k < m.wts.length) : curTo m i p (k + 1) = if (wtAt m.wts k).dev = i ∧ (wtAt m.wts k).place = p then some (wtAt m.wts k).b else curTo m i p k := by
  unfold curTo wtAt
  rw [List.take_succ_eq_append_getElem hk, List.filter_append]
  by_cases h : m.wts[k].dev = i
  · rw [List.filter_cons_of_pos (by simpa using h), List.filter_nil, lastAt_snoc]
    by_cases h2 : m.wts[k].place = p
    · simp [hk, h, h2]
    · simp [hk, h2]
  · rw [List.filter_cons_of_neg (by simpa using h), List.filter_nil, List.append_nil]
    simp [hk, h]
theorem curTo_all (m : Pl) (hwf : m.WF) (i p : Nat) (hi : i < m.n) (hp : p < m.len i) : curTo m i p m.wts.length = some (m.rd i p) := by
  unfold curTo Pl.rd
  rw [List.take_length]
  show (lastAt (m.wt i) p).or _ = some ((lastAt (m.wt i) p).getD _)
  cases hl : lastAt (m.wt i) p with
  | some s => rfl
  | none =>
    by_cases hF : p < (m.fl i).length
    · simp [hF]
    · exfalso
      unfold Pl.len at hp
      by_cases ht : m.tape i = true
      · rw [if_pos ht] at hp
        have hj : p - (m.fl i).length < (m.wt i).length := by omega
        have := (hwf.tapes i hi ht).2 (p - (m.fl i).length) _ (List.getElem?_eq_getElem hj)
        obtain ⟨s, hs⟩ := lastAt_some (l := m.wt i) (p := p) ⟨_, List.getElem_mem hj, by omega⟩
        rw [hl] at hs
        cases hs
      · have ht' : m.tape i = false := by simpa using ht
        rw [ht'] at hp
        have := hwf.disk i hi ht'
        simp at hp
        omega
end Go.Proofs.Ytdddfjkecmnggaa

namespace Go.Proofs.Ytdddfjkecmnggaa
open Go.RowKit Go.Maps

theorem RO.slices {W : World} {c : Nat → Colour} {v : Value} {s : List Nat} (h : RO W c v s) : ∃ p n q, v = .slice p n q := by
  obtain ⟨⟨p, cap, rfl, _⟩, _⟩ := h
  exact ⟨_, _, _, rfl⟩
/-- blocks of these colours are as they were -/
def KeptC (K : Colour → Prop) (W : World) (c : Nat → Colour) (W' : World) (c' : Nat → Colour) : Prop := (∀ b, b < W.heap.size → K (c b) → W'.heap[b]? = W.heap[b]? ∧ c' b = c b) ∧ W.heap.size ≤ W'.heap.size
section
variable {W W' : World} {c c' : Nat → Colour} {K : Colour → Prop}
theorem RO.k {v : Value} {s : List Nat} (h : RO W c v s) (hs : KeptC K W c W' c') (hK : ∀ x, K (1, x)) : RO W' c' v s := by
  have hb : ∀ b, v.ownBlock = some b → W'.heap[b]? = W.heap[b]? ∧ c' b = c b := fun b hb => hs.1 b (h.2 b hb).1 (by have := hK (c b).2; rw [← (h.2 b hb).2] at this; exact this)
  exact ⟨sliceK h.1 fun b hb' _ => (hb b hb').1, fun b hb' => ⟨Nat.lt_of_lt_of_le (h.2 b hb').1 hs.2, by rw [(hb b hb').2]; exact (h.2 b hb').2⟩⟩
theorem NRO.k {v : Value} {l : List Int} (h : NRO W c v l) (hs : KeptC K W c W' c') (hK : ∀ x, K (1, x)) : NRO W' c' v l := by
  have hb : ∀ b, v.ownBlock = some b → W'.heap[b]? = W.heap[b]? ∧ c' b = c b := fun b hb => hs.1 b (h.2 b hb).1 (by have := hK (c b).2; rw [← (h.2 b hb).2] at this; exact this)
  exact ⟨numsK h.1 fun b hb' _ => (hb b hb').1, fun b hb' => ⟨Nat.lt_of_lt_of_le (h.2 b hb').1 hs.2, by rw [(hb b hb').2]; exact (h.2 b hb').2⟩⟩
theorem RowOf.k {k : Colour} {v : Value} {L : List (List Nat)} (h : RowOf W c k v L) (hs : KeptC K W c W' c') (hK : ∀ x, K (1, x)) (hk : K k) : RowOf W' c' k v L := by
  obtain ⟨⟨us, h1, h2⟩, h3⟩ := h
  have hb : ∀ b, v.ownBlock = some b → W'.heap[b]? = W.heap[b]? ∧ c' b = c b := fun b hb => hs.1 b (h1.lt b hb).2 (by rw [h3 b hb]; exact hk)
  exact ⟨⟨us, ownK h1 fun b hb' => (hb b hb').1, fun i hi => (h2 i hi).k hs hK⟩, fun b hb' => by rw [(hb b hb').2]; exact h3 b hb'⟩
theorem WaitsOf.k {t : Nat} {v : Value} {wts : List Wr} (h : WaitsOf W c t v wts) (hs : KeptC K W c W' c') (hK : ∀ x, K (1, x)) (hk : K (t, 2)) : WaitsOf W' c' t v wts := by
  obtain ⟨⟨us, h1, h2⟩, h3⟩ := h
  have hb : ∀ b, v.ownBlock = some b → W'.heap[b]? = W.heap[b]? ∧ c' b = c b := fun b hb => hs.1 b (h1.lt b hb).2 (by rw [h3 b hb]; exact hk)
  exact ⟨⟨us, ownK h1 fun b hb' => (hb b hb').1, fun i hi => (h2 i hi).k hs hK⟩, fun b hb' => by rw [(hb b hb').2]; exact h3 b hb'⟩
theorem RefRow.k {g : Nat} {vd vt hv wv : Value} {m : Pl} (h : RefRow W g vd vt hv wv m) (hb : W'.heap[g]? = W.heap[g]?) : RefRow W' g vd vt hv wv m := by
  obtain ⟨l, h1, h2⟩ := h
  exact ⟨l, h1, by unfold Row; rw [hb]; exact h2⟩
end
/-- one row of one device is another one -/
theorem RefAt.rowSet {w W : World} {c c' : Nat → Colour} {t g : Nat} {vd vt hv wv : Value} {ds ts : List Int} {m : Pl} (h : RefAt w c t g vd vt hv wv ds ts m) (i : Nat) (L : List (List Nat)) (us : List Value)
    (hs : KeptC (fun x => x.1 = 1 ∨ (x.1 = t ∧ x ≠ (t, 1) ∧ x ≠ (t, 3 + i))) w c W c')
    (hown : W.ownsRow 0 57 1 hv m.n us) (hcol : ∀ b, hv.ownBlock = some b → c' b = (t, 1)) (hold : ∀ j, j < m.n → j ≠ i → RowOf w c (t, 3 + j) (us.getD j undef) (m.fl j))
    (hrow : i < m.n → RowOf W c' (t, 3 + i) (us.getD i undef) L) : RefAt W c' t g vd vt hv wv ds ts { m with fl := upd m.fl i L } := by
  have hK : ∀ x, (fun x : Colour => x.1 = 1 ∨ (x.1 = t ∧ x ≠ (t, 1) ∧ x ≠ (t, 3 + i))) (1, x) := fun x => Or.inl rfl
  have hg := hs.1 g h.row.lt (Or.inr (by rw [h.cg]; exact ⟨rfl, by simp, by simp; omega⟩))
  refine ⟨h.row.k hg.1, by rw [hg.2]; exact h.cg, h.disks.k hs hK, h.tapes.k hs hK, h.shape, ⟨⟨us, hown, fun j hj => ?_⟩, hcol⟩, h.waits.k hs hK (Or.inr ⟨rfl, by simp, by simp; omega⟩)⟩
  show RowOf W c' (t, 3 + j) (us.getD j undef) (upd m.fl i L j)
  unfold upd
  by_cases hji : j = i
  · subst hji
    rw [if_pos rfl]
    exact hrow hj
  · rw [if_neg hji]
    exact (hold j hj hji).k hs hK (Or.inr ⟨rfl, by simp; omega, by simp; omega⟩)
/-- what a call of the document's own plant leaves behind, its slices as they are -/
def NextA (w : World) (c : Nat → Colour) (t g : Nat) (vd vt hv wv : Value) (ds ts : List Int) (m' : Pl) (w' : World) : Prop :=
  ∃ c', (∀ b, b < w.heap.size → c' b = c b) ∧ (∀ b, w.heap.size ≤ b → (c' b).1 = t ∨ (c' b).1 = t + 1 ∨ (c' b).1 = 1) ∧ (∀ b, w'.heap.size ≤ b → (c' b).1 = t + 1) ∧ RefAt w' c' t g vd vt hv wv ds ts m' ∧ Ch (fun b => (c b).1 = t) w w'
theorem sizeS40 : (Try.prog.info? 40).map (·.size) = some 1 := by kernel_rfl
theorem run_putRow {w : World} {o : Oper} {a : Act} {t : Nat} (hs : (Try.prog.info? t).map (·.size) = some 1) (x y : Operand) (ho : o.op = .store t x y) (g i T : Nat) (cur : List Value) (hx : a.eval x = .pointer (some ⟨g, i, none⟩)) (v : Value) (hy : a.eval y = v) (hv : v.cells = #[v] ∧ v.oneCell' = true) (hr : Row w g T cur) (hi : i < cur.length) :
    (execOp a.eval o).run Try.prog w = .ok .skip (w.setCell ⟨g, i, none⟩ v) := by
  obtain ⟨ti, hti, hsz⟩ := Option.map_eq_some_iff.1 hs
  have hst := run_storeCells_at (P := Try.prog) g i T [v] 0 cur.toArray w hr (by simp; omega) (by intro u hu; rw [List.mem_singleton.1 hu]; exact hv.2)
  simp only [Nat.add_zero] at hst
  have e : w.setRow g (splice cur i [v]).toArray = w.setCell ⟨g, i, none⟩ v := by
    have e1 : splice cur i [v] = cur.set i v := by
      rw [List.set_eq_take_append_cons_drop, if_pos hi]
      simp [splice]
    rw [setCell_eq_setRow w g i _ T (0, 0) v hr, e1, List.setIfInBounds_toArray]
  have hst' : (storeVar t ⟨g, i, none⟩ v).run Try.prog w = .ok () (w.setCell ⟨g, i, none⟩ v) := by
    rw [← e]
    simp [storeVar, sizeOf, typeInfo, hti, hsz, hv.1, hst, splice]
  simp [execOp, ho, hx, hy, Instr.storeAt, Instr.sureAddr, hst']
theorem own_row {w : World} {base e sz n : Nat} {v : Value} {xs : List Value} (h : w.ownsRow base e sz v n xs) (b : Nat) (hb : v.ownBlock = some b) : ∃ cur : List Value, Row w b e cur ∧ n * sz ≤ cur.length := by
  rcases h.2 with ⟨rfl, _⟩ | ⟨g, cap, cur, rfl, _, hg, hcap, _, hcs, _⟩
  · cases hb
  · injection hb with hb
    subst hb
    exact ⟨cur.toList, by unfold Row; simpa using hg, by simp; rw [hcs]; exact Nat.mul_le_mul_right _ hcap⟩
theorem own_set {w : World} {base e n : Nat} {v : Value} {xs : List Value} (h : w.ownsRow base e 1 v n xs) (b : Nat) (hb : v.ownBlock = some b) (j : Nat) (u : Value) : (w.setCell ⟨b, j, none⟩ u).ownsRow base e 1 v n (xs.set j u) ∧ w.grownBy (w.setCell ⟨b, j, none⟩ u) (some b) := by
  rcases h.2 with ⟨rfl, _⟩ | ⟨g, cap, cur, rfl, _⟩
  · cases hb
  · injection hb with hb
    subst hb
    exact h.stored j u
section
variable {ops : Array Oper} {Q : Exit → Act → World → Prop} {a : Act} {w : World} {S : World → Prop} {o : Oper}
theorem zRun (hgd : o.guard = none) (v : Value) (hr : ∀ w, S w → (execOp a.eval o).run Try.prog w = .ok (.value v) w) : YieldsIf Try.prog ops S o v a := Or.inl ⟨by simp [Region.wanted, hgd], hr⟩
theorem zMove (hgd : o.guard = none) (x : Operand) (ho : o.op = .move x) (v : Value) (hv : a.eval x = v) : YieldsIf Try.prog ops S o v a := zRun hgd v fun w _ => by simp [execOp, ho, hv]
theorem zNil (hgd : o.guard = none) (x : Operand) (ho : o.op = .nilCheck x) (p : Addr) (hv : a.eval x = .pointer (some p)) : YieldsIf Try.prog ops S o (.pointer (some p)) a := zRun hgd _ fun w _ => by simp [execOp, ho, hv]
theorem zField {T i k : Nat} (hf : FieldAt T i k) (hgd : o.guard = none) (x : Operand) (ho : o.op = .fieldAddr T x i) (g off : Nat) (hv : a.eval x = .pointer (some ⟨g, off, none⟩)) : YieldsIf Try.prog ops S o (.pointer (some ⟨g, off + k, none⟩)) a := zRun hgd _ fun w _ => by simp [execOp, ho, hv, hf w g off]
theorem zLoad {t : Nat} (ht : OneT t) (hgd : o.guard = none) (x : Operand) (ho : o.op = .load t x) (g i : Nat) (hx : a.eval x = .pointer (some ⟨g, i, none⟩)) (v : Value) (hc : ∀ w, S w → w.cell? ⟨g, i, none⟩ = some v) : YieldsIf Try.prog ops S o v a := zRun hgd v fun w hS => run_load1 ht x ho g i hx v (hc w hS)
theorem zIndex {t : TypeId} (hgd : o.guard = none) (x i : Operand) (ho : o.op = .indexAddr t x i) (v p I : Value) (hx : a.eval x = v) (hi : a.eval i = I) (hr : ∀ w', (Instr.indexAt t v I).run Try.prog w' = .ok p w') : YieldsIf Try.prog ops S o p a := zRun hgd p fun w _ => by simp only [execOp, ho, hx, hi, hr, Sem.run_bind, Sem.run_pure, Result.andThen_ok]
theorem opValZ {i : Nat} (d : Option Tmp) {K : Act → World → Prop} (hi : ops[i]? = some o) (hd : o.dst = d) (hgd : o.guard = none) (v : Value) (w' : World) (hrun : (execOp a.eval o).run Try.prog w = .ok (.value v) w') (h : K (a.put d v) w') : wpOp Try.prog ops Q i K a w := by
  subst hd
  unfold wpOp
  have hw : Region.wanted o (yielded ops a.tmps) = true := by simp [Region.wanted, hgd]
  simp only [hi, hw, if_true, Oper.wp, hrun, Oper.upon]
  exact .inl h
theorem opSkipZ {i : Nat} {K : Act → World → Prop} (hi : ops[i]? = some o) (hd : o.dst = none) (hgd : o.guard = none) (w' : World) (hrun : (execOp a.eval o).run Try.prog w = .ok .skip w') (h : K a w') : wpOp Try.prog ops Q i K a w := by
  unfold wpOp
  have hw : Region.wanted o (yielded ops a.tmps) = true := by simp [Region.wanted, hgd]
  simp only [hi, hw, if_true, Oper.wp, hrun, Oper.upon, hd]
  exact .inl h
end
theorem f56_h : FieldAt 56 1 2 := fun w g off => by kernel_rfl
theorem f56_w : FieldAt 56 2 3 := fun w g off => by kernel_rfl
end Go.Proofs.Ytdddfjkecmnggaa

/- The walks of the statements' own small functions: full, same. -/
import Derived.Test.YtgkmegcejekbcaaNew
import Derived.Laws.BytesArg
namespace Go.Proofs.Ytgkmegcejekbcaa
open Go.RowKit Go.Maps

/-- a sector of one byte -/
def ones (x : Nat) : List Nat := List.replicate 64 x
theorem ones_sec (x : Nat) (h : x < 256) : Sec (ones x) := ⟨by simp [ones], fun c hc => by rw [(List.mem_replicate.1 hc).2]; exact h⟩
def fillX (x n : Nat) : List Value := bcells (List.replicate n x ++ List.replicate (64 - n) 0)
theorem fillX_length (x n : Nat) (h : n ≤ 64) : (fillX x n).length = 64 := by simp [fillX, bcells_length]; omega
theorem fillX_set (x n : Nat) (h : n < 64) : (fillX x n).set n (.int .u8 (x : Nat)) = fillX x (n + 1) := by
  unfold fillX bcells
  rw [show 64 - n = (63 - n) + 1 by omega, List.replicate_succ, List.map_append, List.set_append_right _ _ (by simp), show 64 - (n + 1) = 63 - n by omega, List.replicate_succ']
  simp
theorem Row.slice {w : World} {b t : Nat} {s : List Nat} (h : Row w b t (bcells s)) (hs : ∀ c ∈ s, c < 256) (hl : s.length ≤ 1000000) : SliceIn w (.slice (some ⟨b, 0, none⟩) s.length s.length) s := by
  refine ⟨_, _, rfl, ⟨Nat.le_refl _, by omega⟩, Or.inr ⟨b, 0, rfl, fun j hj => ?_, fun j => ?_⟩⟩
  · rw [Nat.zero_add, h.cell]
    exact bcells_at s j hj
  · by_cases hj : j < s.length
    · simpa [hj] using hs _ (List.getElem_mem hj)
    · simp [hj]

set_option maxHeartbeats 400000 in
set_option maxRecDepth 100000 in
theorem full_any (w : World) (x : Nat) :
    Calls Try.prog 32 #[.int .u8 (x : Int)] w fun e w' => e = .returned (.slice (some ⟨w.heap.size, 0, none⟩) 64 64) ∧ Row w' w.heap.size 5 (bcells (ones x)) ∧ Below w.heap.size w w' := by
  obtain ⟨q, hq⟩ : ∃ q, q = w.heap.size := ⟨_, rfl⟩
  rw [← hq]
  have HQ : Hid (q = w.heap.size) := hq
  clear hq
  go_enter Try.func32, Try.ntmps32
  go_upto_region 1 with fail
  refine wp_region_lit ?_
  refine wpList_make64 _ _ rfl rfl rfl rfl ?_
  intro w1 r1 s1 b1
  refine wpList_assign (.tmp 5) rfl rfl (.slice (some ⟨w.heap.size, 0, none⟩) 64 64) rfl ?_
  refine wpList_nil ?_
  simp only [Act.put, List.setIfInBounds_toArray, List.set_cons_succ, List.set_cons_zero]
  rw [← HQ.out] at r1 b1 ⊢
  have H1 : Hid (Row w1 q 5 (fillX x 0) ∧ Below q w w1) := ⟨by unfold fillX bcells; simpa [zerosU8] using r1, b1⟩
  clear r1 s1 b1
  go_wp2
  go_loopw [4] (fun ix W => ∃ n : Nat, n ≤ 64 ∧ ix = .int .i64 n ∧ Row W q 5 (fillX x n) ∧ Below q w W) (fun ix _ => 64 - (intOf ix).toNat)
  case atStart => exact ⟨0, Nat.zero_le _, rfl, H1.out⟩
  case round =>
    obtain ⟨n, hn, rfl, hr, hb⟩ := hrel
    clear H1
    by_cases hlt : n < 64
    · have cn := hr.cell n
      rw [List.getElem?_eq_getElem (by rw [fillX_length x n hn]; exact hlt)] at cn
      generalize (fillX x n)[n]'(by rw [fillX_length x n hn]; exact hlt) = z at cn
      have fz := hr.frozen n
      have HS : Hid (Row (wr.setCell ⟨q, n, none⟩ (.int .u8 (x : Int))) q 5 (fillX x (n + 1)) ∧ Below q w (wr.setCell ⟨q, n, none⟩ (.int .u8 (x : Int)))) := by
        refine ⟨?_, hb.setCell (Nat.le_refl _) _⟩
        rw [← fillX_set x n hlt]
        exact hr.setCell n _
      have tl : decide ((n : Int) < 64) = true := by simp; omega
      clear hr hb
      go_wp2
      exact ⟨⟨n + 1, by omega, by go_num, HS.out⟩, by simp [intOf]; omega⟩
    · have e : n = 64 := by omega
      subst e
      have HS : Hid (Row wr q 5 (bcells (ones x)) ∧ Below q w wr) := ⟨by have := hr; unfold fillX at this; simpa [ones] using this, hb⟩
      clear hr hb
      go_wp2
      go_ret
      exact ⟨rfl, HS.out⟩

/-- the text of bytes -/
def txt (cs : List Nat) : ByteArray := strOfNums (cs.map fun c : Nat => (c : Int))
theorem run_txt (w : World) (v : Value) (cs : List Nat) (h : SliceIn w v cs) : (convert 40 9 v).run Try.prog w = .ok (.string (txt cs)) w := by
  obtain ⟨p, cap, rfl, _, h⟩ := h
  by_cases hc : cs = []
  · subst hc
    cases p with
    | none => exact run_convert_bytes_nil w 40 5 Try.underlying40 Try.underlying5 _ _ 9 Try.underlying9
    | some a =>
      rw [run_convert_bytes_string w 40 9 5 _ _ _ Try.underlying40 Try.underlying5 Try.underlying9]
      exact run_bytesToString w a 0 cap [] (run_loadCells_list (P := Try.prog) w a [] (fun j v hv => by simp at hv))
  · rcases h with h | ⟨b, off, rfl, hb, _⟩
    · exact absurd h hc
    · refine run_convert_bytes_arg w 40 5 Try.underlying40 Try.underlying5 b off cs.length cap _ (by simp) (fun i hi => ?_) 9 Try.underlying9
      rw [hb i hi]
      simp [hi]
theorem bytes_inj : ∀ (a b : List Nat), (∀ c ∈ a, c < 256) → (∀ c ∈ b, c < 256) → a.map UInt8.ofNat = b.map UInt8.ofNat → a = b
  | [], [], _, _, _ => rfl
  | [], _ :: _, _, _, h => by simp at h
  | _ :: _, [], _, _, h => by simp at h
  | x :: a, y :: b, ha, hb, h => by
    simp only [List.map_cons, List.cons.injEq] at h
    have hx := ha x (by simp)
    have hy := hb y (by simp)
    have e : x = y := by
      have := congrArg UInt8.toNat h.1
      simp at this
      omega
    rw [e, bytes_inj a b (fun c hc => ha c (by simp [hc])) (fun c hc => hb c (by simp [hc])) h.2]
theorem txt_eq (a b : List Nat) (ha : ∀ c ∈ a, c < 256) (hb : ∀ c ∈ b, c < 256) : ((txt a).toList == (txt b).toList) = decide (a = b) := by
  have e : ∀ l : List Nat, (txt l).toList = l.map UInt8.ofNat := fun l => by
    rw [ByteArray.toList_eq]
    unfold txt
    rw [strOfNums_data]
    simp [Function.comp_def]
  rw [e, e]
  by_cases h : a = b
  · simp [h]
  · have : a.map UInt8.ofNat ≠ b.map UInt8.ofNat := fun hh => h (bytes_inj a b ha hb hh)
    simp [h, this]
/-- bytes of a slice are bytes -/
theorem SliceIn.lt256 {w : World} {v : Value} {cs : List Nat} (h : SliceIn w v cs) : ∀ c ∈ cs, c < 256 := by
  intro x hx
  obtain ⟨p, cap, rfl, _, h⟩ := h
  rcases h with rfl | ⟨b, off, rfl, _, hb⟩
  · simp at hx
  · obtain ⟨j, hj, rfl⟩ := List.getElem_of_mem hx
    have := hb j
    simpa [hj] using this
theorem same_any (w : World) (va vb : Value) (a b : List Nat) (ha : SliceIn w va a) (hb : SliceIn w vb b) : Calls Try.prog 33 #[va, vb] w fun e w' => e = .returned (.bool (decide (a = b))) ∧ w' = w := by
  have h1 := run_txt w va a ha
  have h2 := run_txt w vb b hb
  have HE : Hid (((txt a).toList == (txt b).toList) = decide (a = b)) := txt_eq a b ha.lt256 hb.lt256
  generalize txt a = ta at *
  generalize txt b = tb at *
  clear ha hb
  go_enter Try.func33, Try.ntmps33
  go_wp2
  go_ret
  refine ⟨?_, rfl⟩
  rw [← HE.out]
  rfl
end Go.Proofs.Ytgkmegcejekbcaa

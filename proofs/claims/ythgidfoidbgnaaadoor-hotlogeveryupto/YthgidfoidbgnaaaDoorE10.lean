/- The plain mathematics of frames: numbers as bytes, bytes as numbers, a frame, what bytes begin with. -/
import Derived.Test.YthgidfoidbgnaaaDoorE09
namespace Go.Proofs.YthgidfoidbgnaaaDoor.Fr.Frame

/-- the lowest s bytes of n, the highest first -/
def be : Nat → Nat → List Nat
 | 0, _ => []
 | s + 1, n => (n / 256 ^ s % 256) :: be s n
theorem be_length (s n : Nat) : (be s n).length = s := by
 induction s with
 | zero => rfl
 | succ s ih => simp [be, ih]
theorem be_lt (s n : Nat) : ∀ c ∈ be s n, c < 256 := by
 induction s with
 | zero => intro c hc; simp [be] at hc
 | succ s ih =>
  intro c hc
  simp only [be, List.mem_cons] at hc
  rcases hc with rfl | hc
  ·omega
  ·exact ih c hc
theorem getD_lt {cs : List Nat} (h : ∀ c ∈ cs, c < 256) (j : Nat) : cs.getD j 0 < 256 := by
 by_cases hj : j < cs.length
 ·simpa [hj] using h _ (List.getElem_mem hj)
 ·simp [hj]
theorem mem_lt {cs : List Nat} (h : ∀ j : Nat, cs.getD j 0 < 256) : ∀ c ∈ cs, c < 256 := by
 intro c hc
 obtain ⟨j, hj, rfl⟩ := List.getElem_of_mem hc
 simpa [hj] using h j

/-- the number of bytes, the highest first -/
def val (cs : List Nat) : Nat := cs.foldl (fun n c => n * 256 + c) 0
theorem foldl_val (cs : List Nat) : ∀ n, cs.foldl (fun n c => n * 256 + c) n = n * 256 ^ cs.length + val cs := by
 induction cs with
 | nil => intro n; simp [val]
 | cons c cs ih =>
  intro n
  simp only [List.foldl_cons, val]
  rw [ih, ih (0 * 256 + c), List.length_cons, Nat.pow_succ]
  rw [Nat.add_mul, Nat.add_mul, Nat.mul_assoc, Nat.mul_comm 256]
  simp only [Nat.zero_mul, Nat.zero_add]
  omega
theorem val_cons (c : Nat) (cs : List Nat) : val (c :: cs) = c * 256 ^ cs.length + val cs := by
 have := foldl_val cs (0 * 256 + c)
 rw [Nat.zero_mul, Nat.zero_add] at this
 show List.foldl (fun n c => n * 256 + c) (0 * 256 + c) cs = _
 rw [Nat.zero_mul, Nat.zero_add]
 exact this
theorem val_snoc (cs : List Nat) (c : Nat) : val (cs ++ [c]) = val cs * 256 + c := by simp [val]
theorem val_lt (cs : List Nat) (h : ∀ c ∈ cs, c < 256) : val cs < 256 ^ cs.length := by
 induction cs with
 | nil => simp [val]
 | cons c cs ih =>
  rw [val_cons, List.length_cons, Nat.pow_succ]
  have h1 := ih fun x hx => h x (List.mem_cons_of_mem _ hx)
  have h2 := h c (List.mem_cons_self ..)
  have h3 : (c + 1) * 256 ^ cs.length ≤ 256 * 256 ^ cs.length := Nat.mul_le_mul_right _ (by omega)
  rw [Nat.add_mul, Nat.one_mul] at h3
  rw [Nat.mul_comm (256 ^ cs.length)]
  omega
theorem val_be (s n : Nat) : val (be s n) = n % 256 ^ s := by
 induction s with
 | zero => simp [be, val]; omega
 | succ s ih =>
  rw [be, val_cons, be_length, ih, Nat.pow_succ, Nat.mul_comm (n / 256 ^ s % 256)]
  rw [Nat.mod_mul]
  omega
theorem be_val (cs : List Nat) (h : ∀ c ∈ cs, c < 256) : be cs.length (val cs) = cs := by
 have gen : ∀ (cs : List Nat) (k : Nat), (∀ c ∈ cs, c < 256) → be cs.length (k * 256 ^ cs.length + val cs) = cs := by
  intro cs
  induction cs with
  | nil => intro k _; rfl
  | cons c cs ih =>
   intro k h
   have hc := h c (List.mem_cons_self ..)
   have hr := fun x hx => h x (List.mem_cons_of_mem _ hx)
   have hv := val_lt cs hr
   have e : k * 256 ^ (c :: cs).length + val (c :: cs) = (k * 256 + c) * 256 ^ cs.length + val cs := by
    rw [val_cons, List.length_cons, Nat.pow_succ, Nat.add_mul, Nat.mul_assoc k, Nat.mul_comm 256]
    omega
   rw [e, List.length_cons, be, ih _ hr]
   have hpos : 0 < 256 ^ cs.length := Nat.pow_pos (by decide)
   have e2 : ((k * 256 + c) * 256 ^ cs.length + val cs) / 256 ^ cs.length = k * 256 + c := by
    rw [Nat.mul_comm, Nat.mul_add_div hpos, Nat.div_eq_of_lt hv]
    omega
   rw [e2]
   congr 1
   omega
 have := gen cs 0 h
 simpa using this
/-- a step of the loop that writes them -/
theorem be_succ (s n : Nat) : be (s + 1) n = (n / 256 ^ s % 256) :: be s n := rfl

/-- the check sum of bytes -/
def crc (cs : List Nat) : Nat := (Crc.more 0#32 cs).toNat
theorem crc_lt (cs : List Nat) : crc cs < 4294967296 := (Crc.more 0#32 cs).isLt
/-- a frame without its sum; a frame -/
def body (kind : Nat) (cs : List Nat) : List Nat := be 4 cs.length ++ ([kind] ++ cs)
def pack (kind : Nat) (cs : List Nat) : List Nat := body kind cs ++ be 4 (crc (body kind cs))
theorem body_length (kind : Nat) (cs : List Nat) : (body kind cs).length = cs.length + 5 := by simp [body, be_length]; omega
theorem pack_length (kind : Nat) (cs : List Nat) : (pack kind cs).length = cs.length + 9 := by rw [pack, List.length_append, body_length, be_length]
theorem body_lt (kind : Nat) (cs : List Nat) (hk : kind < 256) (h : ∀ c ∈ cs, c < 256) : ∀ c ∈ body kind cs, c < 256 := by
 intro c hc
 simp only [body, List.mem_append, List.mem_singleton] at hc
 rcases hc with hc | rfl | hc
 ·exact be_lt _ _ c hc
 ·exact hk
 ·exact h c hc
theorem pack_lt (kind : Nat) (cs : List Nat) (hk : kind < 256) (h : ∀ c ∈ cs, c < 256) : ∀ c ∈ pack kind cs, c < 256 := by
 intro c hc
 simp only [pack, List.mem_append] at hc
 rcases hc with hc | hc
 ·exact body_lt kind cs hk h c hc
 ·exact be_lt _ _ c hc

/-- the length that bytes tell -/
def lenOf (bs : List Nat) : Nat := val (bs.take 4)
/-- do they begin with a frame? -/
def okB (bs : List Nat) : Bool := decide (9 ≤ bs.length ∧ lenOf bs ≤ bs.length - 9 ∧ val ((bs.take (5 + lenOf bs + 4)).drop (5 + lenOf bs)) = crc (bs.take (5 + lenOf bs)))
def kindOf (bs : List Nat) : Nat := if okB bs then bs.getD 4 0 else 0
def payOf (bs : List Nat) : List Nat := if okB bs then (bs.take (5 + lenOf bs)).drop 5 else []
def restOf (bs : List Nat) : List Nat := if okB bs then bs.drop (5 + lenOf bs + 4) else []
def errOf (bs : List Nat) : Nat := if okB bs then 0 else 40

theorem lenOf_lt (bs : List Nat) (h : ∀ c ∈ bs, c < 256) : lenOf bs < 4294967296 := by
 have h1 := val_lt (bs.take 4) fun c hc => h c (List.mem_of_mem_take hc)
 have h2 : (bs.take 4).length ≤ 4 := by simp; omega
 have h3 : 256 ^ (bs.take 4).length ≤ 256 ^ 4 := Nat.pow_le_pow_right (by decide) h2
 unfold lenOf
 omega

/-- THERE AND BACK -/
theorem okB_pack (kind : Nat) (cs rest : List Nat) (hsz : cs.length < 4294967296) : okB (pack kind cs ++ rest) = true ∧ lenOf (pack kind cs ++ rest) = cs.length := by
 have hl : lenOf (pack kind cs ++ rest) = cs.length := by
  unfold lenOf pack body
  rw [List.append_assoc, List.append_assoc, List.take_append_of_le_length (by rw [be_length]; exact Nat.le_refl _), List.take_of_length_le (by rw [be_length]; exact Nat.le_refl _), val_be]
  exact Nat.mod_eq_of_lt hsz
 refine ⟨?_, hl⟩
 unfold okB
 rw [hl]
 have hb := body_length kind cs
 have h1 : (pack kind cs ++ rest).take (5 + cs.length) = body kind cs := by
  unfold pack
  rw [List.append_assoc, List.take_append_of_le_length (by omega), List.take_of_length_le (by omega)]
 have h2 : ((pack kind cs ++ rest).take (5 + cs.length + 4)).drop (5 + cs.length) = be 4 (crc (body kind cs)) := by
  have e : (pack kind cs ++ rest).take (5 + cs.length + 4) = pack kind cs := by
   rw [List.take_append_of_le_length (by rw [pack_length]; omega), List.take_of_length_le (by rw [pack_length]; omega)]
  rw [e]
  unfold pack
  rw [List.drop_append_of_le_length (by omega), List.drop_of_length_le (by omega), List.nil_append]
 rw [h1, h2, val_be, Nat.mod_eq_of_lt (crc_lt _)]
 apply decide_eq_true
 refine ⟨by rw [List.length_append, pack_length]; omega, by rw [List.length_append, pack_length]; omega, ?_⟩
 rfl
theorem back (kind : Nat) (cs rest : List Nat) (hsz : cs.length < 4294967296) :
  kindOf (pack kind cs ++ rest) = kind ∧ payOf (pack kind cs ++ rest) = cs ∧ restOf (pack kind cs ++ rest) = rest ∧ errOf (pack kind cs ++ rest) = 0 := by
 obtain ⟨hok, hl⟩ := okB_pack kind cs rest hsz
 have hb := body_length kind cs
 unfold kindOf payOf restOf errOf
 rw [hok, hl]
 simp only [if_true]
 refine ⟨?_, ?_, ?_, trivial⟩
 ·unfold pack body
  rw [List.append_assoc, List.append_assoc, List.getD_eq_getElem?_getD, List.getElem?_append_right (by rw [be_length]; exact Nat.le_refl _), be_length]
  rfl
 ·unfold pack
  rw [List.append_assoc, List.take_append_of_le_length (by omega), List.take_of_length_le (by omega)]
  unfold body
  rw [List.drop_append, List.drop_of_length_le (by rw [be_length]; omega), be_length]
  rfl
 ·rw [List.drop_append, List.drop_of_length_le (by rw [pack_length]; omega), pack_length, List.nil_append, show 5 + cs.length + 4 - (cs.length + 9) = 0 by omega, List.drop_zero]
theorem payOf_mem (bs : List Nat) : ∀ c ∈ payOf bs, c ∈ bs := by
 intro c hc
 unfold payOf at hc
 split at hc
 ·exact List.mem_of_mem_take (List.mem_of_mem_drop hc)
 ·simp at hc
theorem payOf_length (bs : List Nat) : (payOf bs).length ≤ bs.length := by
 unfold payOf
 split
 ·simp; omega
 ·simp
end Go.Proofs.YthgidfoidbgnaaaDoor.Fr.Frame

/- The plain mathematics of frames: numbers as bytes, bytes as numbers, a frame, what bytes begin with. -/
import Derived.Test.YtkpnflgnhhfjoaaDoorZ08
import Derived.Test.YtkpnflgnhhfjoaaDoorZ10
namespace Go.Proofs.YtkpnflgnhhfjoaaDoor.Fr.Frame

/-- the lowest s bytes of n, the highest first -/
def be : Nat → Nat → List Nat
  | 0, _ => []
  | s + 1, n => (n / 256 ^ s % 256) :: be s n
theorem be_length (s n : Nat) : (be s n).length = s := by
  induction s with
  | zero => rfl
  | succ s ih => simp [be, ih]
theorem be_lt (s n : Nat) : ∀ c ∈ be s n, c < 256 := by
  induction s with
  | zero => intro c hc; simp [be] at hc
  | succ s ih =>
    intro c hc
    simp only [be, List.mem_cons] at hc
    rcases hc with rfl | hc
    · omega
    · exact ih c hc
theorem getD_lt {cs : List Nat} (h : ∀ c ∈ cs, c < 256) (j : Nat) : cs.getD j 0 < 256 := by
  by_cases hj : j < cs.length
  · simpa [hj] using h _ (List.getElem_mem hj)
  · simp [hj]
theorem mem_lt {cs : List Nat} (h : ∀ j : Nat, cs.getD j 0 < 256) : ∀ c ∈ cs, c < 256 := by
  intro c hc
  obtain ⟨j, hj, rfl⟩ := List.getElem_of_mem hc
  simpa [hj] using h j

/-- the number of bytes, the highest first -/
def val (cs : List Nat) : Nat := cs.foldl (fun n c => n * 256 + c) 0
theorem foldl_val (cs : List Nat) : ∀ n, cs.foldl (fun n c => n * 256 + c) n = n * 256 ^ cs.length + val cs := by
  induction cs with
  | nil => intro n; simp [val]
  | cons c cs ih =>
    intro n
    simp only [List.foldl_cons, val]
    rw [ih, ih (0 * 256 + c), List.length_cons, Nat.pow_succ]
    rw [Nat.add_mul, Nat.add_mul, Nat.mul_assoc, Nat.mul_comm 256]
    simp only [Nat.zero_mul, Nat.zero_add]
    omega
theorem val_cons (c : Nat) (cs : List Nat) : val (c :: cs) = c * 256 ^ cs.length + val cs := by
  have := foldl_val cs (0 * 256 + c)
  rw [Nat.zero_mul, Nat.zero_add] at this
  show List.foldl (fun n c => n * 256 + c) (0 * 256 + c) cs = _
  rw [Nat.zero_mul, Nat.zero_add]
  exact this
theorem val_snoc (cs : List Nat) (c : Nat) : val (cs ++ [c]) = val cs * 256 + c := by simp [val]
theorem val_lt (cs : List Nat) (h : ∀ c ∈ cs, c < 256) : val cs < 256 ^ cs.length := by
  induction cs with
  | nil => simp [val]
  | cons c cs ih =>
    rw [val_cons, List.length_cons, Nat.pow_succ]
    have h1 := ih fun x hx => h x (List.mem_cons_of_mem _ hx)
    have h2 := h c (List.mem_cons_self ..)
    have h3 : (c + 1) * 256 ^ cs.length ≤ 256 * 256 ^ cs.length := Nat.mul_le_mul_right _ (by omega)
    rw [Nat.add_mul, Nat.one_mul] at h3
    rw [Nat.mul_comm (256 ^ cs.length)]
    omega
theorem val_be (s n : Nat) : val (be s n) = n % 256 ^ s := by
  induction s with
  | zero => simp [be, val]; omega
  | succ s ih =>
    rw [be, val_cons, be_length, ih, Nat.pow_succ, Nat.mul_comm (n / 256 ^ s % 256)]
    rw [Nat.mod_mul]
    omega
/-- a step of the loop that writes them -/
theorem be_succ (s n : Nat) : be (s + 1) n = (n / 256 ^ s % 256) :: be s n := rfl

/-- the check sum of bytes -/
def crc (cs : List Nat) : Nat := (Crc.more 0#32 cs).toNat
theorem crc_lt (cs : List Nat) : crc cs < 4294967296 := (Crc.more 0#32 cs).isLt
/-- a frame without its sum; a frame -/
def body (kind : Nat) (cs : List Nat) : List Nat := be 4 cs.length ++ ([kind] ++ cs)
def pack (kind : Nat) (cs : List Nat) : List Nat := body kind cs ++ be 4 (crc (body kind cs))
/-- the length that bytes tell -/
def lenOf (bs : List Nat) : Nat := val (bs.take 4)
/-- do they begin with a frame? -/
def okB (bs : List Nat) : Bool := decide (9 ≤ bs.length ∧ lenOf bs ≤ bs.length - 9 ∧ val ((bs.take (5 + lenOf bs + 4)).drop (5 + lenOf bs)) = crc (bs.take (5 + lenOf bs)))
def kindOf (bs : List Nat) : Nat := if okB bs then bs.getD 4 0 else 0
def payOf (bs : List Nat) : List Nat := if okB bs then (bs.take (5 + lenOf bs)).drop 5 else []
def restOf (bs : List Nat) : List Nat := if okB bs then bs.drop (5 + lenOf bs + 4) else []
def errOf (bs : List Nat) : Nat := if okB bs then 0 else 40

end Go.Proofs.YtkpnflgnhhfjoaaDoor.Fr.Frame

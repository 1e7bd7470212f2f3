/- Plain mathematics of SHA-256 (no program): schedule, rounds, pieces, padding; bytes that come in pieces. -/
namespace Go.Proofs.YtjdmpanemdhbbaaDoor
namespace Sha

def rot (x : BitVec 32) (n : Nat) : BitVec 32 := x >>> n ||| x <<< (32 - n)
def sm0 (x : BitVec 32) : BitVec 32 := rot x 7 ^^^ rot x 18 ^^^ x >>> 3
def sm1 (x : BitVec 32) : BitVec 32 := rot x 17 ^^^ rot x 19 ^^^ x >>> 10
def bg0 (x : BitVec 32) : BitVec 32 := rot x 2 ^^^ rot x 13 ^^^ rot x 22
def bg1 (x : BitVec 32) : BitVec 32 := rot x 6 ^^^ rot x 11 ^^^ rot x 25
def ch (x y z : BitVec 32) : BitVec 32 := (x &&& y) ^^^ (~~~ x &&& z)
def maj (x y z : BitVec 32) : BitVec 32 := (x &&& y) ^^^ (x &&& z) ^^^ (y &&& z)

/-- the constants -/
def kNat : List Nat := [
  1116352408, 1899447441, 3049323471, 3921009573, 961987163, 1508970993, 2453635748, 2870763221,
  3624381080, 310598401, 607225278, 1426881987, 1925078388, 2162078206, 2614888103, 3248222580,
  3835390401, 4022224774, 264347078, 604807628, 770255983, 1249150122, 1555081692, 1996064986,
  2554220882, 2821834349, 2952996808, 3210313671, 3336571891, 3584528711, 113926993, 338241895,
  666307205, 773529912, 1294757372, 1396182291, 1695183700, 1986661051, 2177026350, 2456956037,
  2730485921, 2820302411, 3259730800, 3345764771, 3516065817, 3600352804, 4094571909, 275423344,
  430227734, 506948616, 659060556, 883997877, 958139571, 1322822218, 1537002063, 1747873779,
  1955562222, 2024104815, 2227730452, 2361852424, 2428436474, 2756734187, 3204031479, 3329325298]
def kAt (t : Nat) : BitVec 32 := BitVec.ofNat 32 (kNat.getD t 0)

/-- four bytes, the highest first -/
def word4 (a b c d : Nat) : BitVec 32 := BitVec.ofNat 32 a <<< 24 ||| BitVec.ofNat 32 b <<< 16 ||| BitVec.ofNat 32 c <<< 8 ||| BitVec.ofNat 32 d
def wordAt (p : List Nat) (t : Nat) : BitVec 32 := word4 (p.getD (4 * t) 0) (p.getD (4 * t + 1) 0) (p.getD (4 * t + 2) 0) (p.getD (4 * t + 3) 0)

/-- the word behind these -/
def nextW (p : List Nat) (ws : List (BitVec 32)) (t : Nat) : BitVec 32 :=
  if t < 16 then wordAt p t else sm1 (ws.getD (t - 2) 0) + ws.getD (t - 7) 0 + sm0 (ws.getD (t - 15) 0) + ws.getD (t - 16) 0
/-- the first words of the schedule -/
def sched (p : List Nat) : Nat → List (BitVec 32)
  | 0 => []
  | t + 1 => sched p t ++ [nextW p (sched p t) t]
theorem sched_length (p : List Nat) (t : Nat) : (sched p t).length = t := by
  induction t with
  | zero => rfl
  | succ t ih => simp [sched, ih]
theorem sched_low (p : List Nat) (t : Nat) (h : t < 16) : sched p (t + 1) = sched p t ++ [wordAt p t] := by
  simp [sched, nextW, h]
theorem sched_high (p : List Nat) (t : Nat) (h : 16 ≤ t) : sched p (t + 1) = sched p t ++ [sm1 ((sched p t).getD (t - 2) 0) + (sched p t).getD (t - 7) 0 + sm0 ((sched p t).getD (t - 15) 0) + (sched p t).getD (t - 16) 0] := by
  have : ¬ t < 16 := by omega
  simp [sched, nextW, this]

structure W8 where
  a : BitVec 32
  b : BitVec 32
  c : BitVec 32
  d : BitVec 32
  e : BitVec 32
  f : BitVec 32
  g : BitVec 32
  h : BitVec 32

def W8.list (v : W8) : List (BitVec 32) := [v.a, v.b, v.c, v.d, v.e, v.f, v.g, v.h]
theorem W8.list_length (v : W8) : v.list.length = 8 := rfl
def t1 (v : W8) (k w : BitVec 32) : BitVec 32 := v.h + bg1 v.e + ch v.e v.f v.g + k + w
def t2 (v : W8) : BitVec 32 := bg0 v.a + maj v.a v.b v.c
def rnd (v : W8) (k w : BitVec 32) : W8 := ⟨t1 v k w + t2 v, v.a, v.b, v.c, v.d + t1 v k w, v.e, v.f, v.g⟩
/-- the first rounds -/
def rnds (p : List Nat) (v : W8) : Nat → W8
  | 0 => v
  | t + 1 => rnd (rnds p v t) (kAt t) ((sched p 64).getD t 0)
def add8 (x y : W8) : W8 := ⟨x.a + y.a, x.b + y.b, x.c + y.c, x.d + y.d, x.e + y.e, x.f + y.f, x.g + y.g, x.h + y.h⟩
/-- one piece -/
def comp (h : W8) (p : List Nat) : W8 := add8 h (rnds p h 64)
/-- the first k pieces -/
def runB (bs : List Nat) : Nat → W8 → W8
  | 0, h => h
  | k + 1, h => comp (runB bs k h) ((bs.drop (64 * k)).take 64)
def start : W8 := ⟨1779033703#32, 3144134277#32, 1013904242#32, 2773480762#32, 1359893119#32, 2600822924#32, 528734635#32, 1541459225#32⟩
/-- behind all full pieces of these bytes -/
def full (bs : List Nat) : W8 := runB bs (bs.length / 64) start

/-- pieces that are full stay -/
theorem runB_append (bs cs : List Nat) (k : Nat) (hk : 64 * k ≤ bs.length) (h : W8) : runB (bs ++ cs) k h = runB bs k h := by
  induction k with
  | zero => rfl
  | succ k ih =>
    rw [runB, runB, ih (by omega)]
    congr 1
    rw [List.drop_append_of_le_length (by omega), List.take_append_of_le_length (by simp; omega)]

theorem full_same (m c : List Nat) (h : m.length % 64 + c.length < 64) : full (m ++ c) = full m := by
  unfold full
  have e : (m ++ c).length / 64 = m.length / 64 := by simp; omega
  rw [e, runB_append _ _ _ (by omega)]
/-- one piece more -/
theorem full_next (m c : List Nat) (h : m.length % 64 + c.length = 64) : full (m ++ c) = comp (full m) (m.drop (64 * (m.length / 64)) ++ c) := by
  unfold full
  have e : (m ++ c).length / 64 = m.length / 64 + 1 := by simp; omega
  rw [e, runB, runB_append _ _ _ (by omega)]
  congr 1
  rw [List.drop_append_of_le_length (by omega), List.take_of_length_le (by simp; omega)]

/-- eight bytes of a number, the highest first -/
def lenBytes (n : Nat) : List Nat := (List.range 8).map fun i => n / 2 ^ (8 * (7 - i)) % 256
/-- how many noughts -/
def zeros (n : Nat) : Nat := (119 - n % 64) % 64
/-- what the text has behind n bytes -/
def pad (n : Nat) : List Nat := 128 :: (List.replicate (zeros n) 0 ++ lenBytes (8 * n))
theorem pad_length (n : Nat) : (pad n).length = zeros n + 9 := by simp [pad, lenBytes]
theorem pad_fits (n : Nat) : (n + (pad n).length) % 64 = 0 := by
  rw [pad_length]; unfold zeros; omega
/-- the value's bytes -/
def wordBytes (x : BitVec 32) : List Nat := [x.toNat / 16777216 % 256, x.toNat / 65536 % 256, x.toNat / 256 % 256, x.toNat % 256]
def outBytes (v : W8) : List Nat := v.list.flatMap wordBytes
/-- THE VALUE -/
def sha (m : List Nat) : List Nat := outBytes (full (m ++ pad m.length))
end Sha
end Go.Proofs.YtjdmpanemdhbbaaDoor

/- The law CrcResidue, walked out of its callees' contracts. -/
import Derived.Test.YtkhchfjijglfjaaDoorAppend
import Derived.Test.YtkhchfjijglfjaaDoorTail
namespace Go.Proofs.YtkhchfjijglfjaaDoor
open Go.RowKit

/-- the append where a guard says yes -/
theorem wpList_append_bytes_want {w : World} {ops : Array Oper} {rest : List Oper} {o : Oper} {a : Act} {Q : Exit → Act → World → Prop} (hw : Region.wanted o (yielded ops a.tmps) = true) (sv x : Operand)
    (ho : o.op = .call { callee := .builtin .append, args := #[sv, x], argTypes := #[22, 22] })
    (base : Nat) (v vx : Value) (cs ys : List Nat) (hs : a.eval sv = v) (hown : w.ownsRow base 5 1 v cs.length (cellsOf cs)) (hx : a.eval x = vx) (hin : SliceIn w vx ys)
    (hsz : cs.length + ys.length ≤ 140737488355328) (hbase : base ≤ w.heap.size)
    (h : ∀ v' w', w'.ownsRow base 5 1 v' (cs ++ ys).length (cellsOf (cs ++ ys)) → Below base w w' → wpList Tryd.prog ops Q rest (a.put o.dst v') w') : wpList Tryd.prog ops Q (o :: rest) a w :=
  BigFrame.wpList_want hw fun _ hK => wp_append_bytes sv x ho base v vx cs ys hs hown hx hin hsz hbase fun v' w' h2 h3 => hK _ _ (h v' w' h2 h3)

theorem tail_lt (s : BitVec 32) : ∀ j : Nat, (Crc.tailOf s).getD j 0 < 256 := by
  apply getD_lt
  intro c hc
  simp only [Crc.tailOf, List.mem_cons, List.not_mem_nil, or_false] at hc
  omega
theorem tail_in (w : World) (s : BitVec 32) : SliceIn (w.alloc (.cells #[.int .u8 (Crc.U s % 256), .int .u8 (Crc.U s / 256 % 256), .int .u8 (Crc.U s / 65536 % 256), .int .u8 (Crc.U s / 16777216 % 256)] 5))
    (.slice (some ⟨w.heap.size, 0, none⟩) 4 4) (Crc.tailOf s) :=
  sliceIn_new w (Crc.tailOf s) (tail_lt s) (by simp [Crc.tailOf]) 4 5 _

theorem U_residue : Crc.U 0x2144df1c#32 = 558161692 := by decide +kernel

set_option maxHeartbeats 400000 in
theorem crcResidue_any (v : Value) (cs : List Nat) (w : World) (hs : SliceIn w v cs) (hb : ∀ j : Nat, cs.getD j 0 < 256) (ht : TabIn w) (hmax : cs.length ≤ 140737488351232) :
    Calls Tryd.prog 7 #[v] w fun e w' => e = .returned (.bool true) ∧ Below w.heap.size w w' := by
  go_enter Tryd.func7, Tryd.ntmps7
  go_wp2_with fail
  refine (shown_any _ ht).mono ?_
  rintro e w1 ⟨rfl, h1⟩
  go_wp2_with fail
  refine (sum_any v cs _ (hs.later h1) (ht.later h1)).mono ?_
  rintro e w' ⟨rfl, rfl⟩
  generalize hsum : Crc.more 0#32 cs = s
  have HS : Hid (Crc.more 0#32 cs = s) := hsum
  clear hsum
  go_wp2_with fail
  have tin := tail_in w1 s
  have h2 : Below w.heap.size w (w1.alloc (.cells #[.int .u8 (Crc.U s % 256), .int .u8 (Crc.U s / 256 % 256), .int .u8 (Crc.U s / 65536 % 256), .int .u8 (Crc.U s / 16777216 % 256)] 5)) := h1.alloc h1.size _
  have hz : (w1.alloc (.cells #[.int .u8 (Crc.U s % 256), .int .u8 (Crc.U s / 256 % 256), .int .u8 (Crc.U s / 65536 % 256), .int .u8 (Crc.U s / 16777216 % 256)] 5)).heap.size = w1.heap.size + 1 := by simp
  generalize hw2 : w1.alloc (.cells #[.int .u8 (Crc.U s % 256), .int .u8 (Crc.U s / 256 % 256), .int .u8 (Crc.U s / 65536 % 256), .int .u8 (Crc.U s / 16777216 % 256)] 5) = w2 at *
  clear hw2
  refine (more_any s _ (Crc.tailOf s) _ tin (ht.later h2)).mono ?_
  rintro e w' ⟨rfl, rfl⟩
  rw [Crc.more_tail, U_residue]
  have h3 : Below w.heap.size w (w2.alloc (.cells #[] 5)) := h2.alloc h2.size _
  have b23 : Below w2.heap.size w2 (w2.alloc (.cells #[] 5)) := (Below.refl _ _).alloc (Nat.le_refl _) _
  have o3 : (w2.alloc (.cells #[] 5)).ownsRow w2.heap.size 5 1 (.slice (some ⟨w2.heap.size, 0, none⟩) 0 0) ([] : List Nat).length (cellsOf []) := World.ownsRow_made w2 #[] 0 (Nat.le_refl _) (Nat.zero_le _) rfl
  have l3 : w2.heap.size ≤ (w2.alloc (.cells #[] 5)).heap.size := by simp
  have HZ : Hid (w2.heap.size = w1.heap.size + 1) := hz
  clear hz
  go_wp2_with (first | (at_builtin; refine wpList_append_bytes_want (by rfl) (.tmp 29) (.tmp 30) rfl w2.heap.size _ v [] cs rfl o3 rfl (hs.later h3) (by simp; omega) l3 ?_; intro v4 w4 o4 b4; have h4 := h3.trans (b4.mono h2.size); have b24 := b23.trans b4; have l4 := Nat.le_trans l3 b4.size; rw [List.nil_append] at o4) | (at_builtin; refine wpList_append_bytes_want (by rfl) (.tmp 31) (.tmp 32) rfl w2.heap.size _ _ cs (Crc.tailOf s) rfl o4 rfl (tin.later b24) (by simp [Crc.tailOf]; omega) l4 ?_; intro v5 w5 o5 b5; have h5 := h4.trans (b5.mono h2.size)))
  refine (sum_any v5 (cs ++ Crc.tailOf s) _ (SliceIn.owned o5 (getD_append cs _ hb (tail_lt s))) (ht.later h5)).mono ?_
  rintro e w' ⟨rfl, rfl⟩
  rw [Crc.more_append, HS.out, Crc.more_tail, U_residue]
  go_wp2_with fail
  go_ret
  exact ⟨rfl, h5⟩
end Go.Proofs.YtkhchfjijglfjaaDoor

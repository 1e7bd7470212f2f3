/- Layer 14: there is room for what is promised. -/
import Derived.Test.YtjnhhkfknlkfeaaDoorV48
namespace Go.Proofs.YtjnhhkfknlkfeaaDoor
open Go.RowKit Go.Maps


/-- an operation's cells -/
def opc (kd N : Int) (v : Value) : List Value := [.int .i64 kd, .int .i64 N, v, .int .i64 0, .int .i64 0, .int .i64 0, .bool false, .slice none 0 0]
/-- what the law of the room holds -/
structure Rm (w W : World) (c : Nat → Colour) (gp gh gf gm gs gr : Nat) (m : Pl) (n : Nat) (us : List (Nat × List Nat)) (K : Nat) (vu vb : Value) (bl : List Value) (ever : Nat) : Prop where
  fu : m.fuse < 0
  h : HtW w W c gp gh gf gm m n us K
  d : Sd w W c gp gh gf gm gs gr n us vu vb bl ever 0
  inv : RoomInv (n / 16) (us.map plc) ever
  k : K ≤ 20 * ever
  e : ever ≤ 8 * (n / 16)
theorem Sd.new {w W : World} {c : Nat → Colour} {gp gh gf gm gs gr n : Nat} (hs : Row W gs 38 (scells gp gh gr 0 0)) (hr : Row W gr 60 (rcells0 1 (n : Nat))) (o1 : Out w W c gh gf gm gs) (o2 : Out w W c gh gf gm gr) : Sd w W c gp gh gf gm gs gr n [] (.slice none 0 0) (.slice none 0 0) [] 0 0 :=
  ⟨hs, o1, hr, o2, World.ownsRow_nil _ _ _ _, fun b e => (by cases e), World.ownsRow_nil _ _ _ _, fun b e => (by cases e), fun i hi => absurd hi (Nat.not_lt_zero _)⟩
end Go.Proofs.YtjnhhkfknlkfeaaDoor

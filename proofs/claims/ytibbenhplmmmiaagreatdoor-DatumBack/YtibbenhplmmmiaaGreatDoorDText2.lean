/-
  The document's Print: the text of any decimal.
-/
import Derived.Test.YtibbenhplmmmiaaGreatDoorDText1
import Derived.Test.YtibbenhplmmmiaaGreatDoorDPower
import Derived.Deep.RegionHeld2
namespace Go.Proofs.YtibbenhplmmmiaaGreatDoor
open Go.RowKit
attribute [local go_sem] cell?_more frozen?_more setCell_more more_lt more_more more_drew more_drewN setCell_drewN alloc_drewN

/-- Digits with as many noughts ahead that more than s are there. -/
def pad (s : Nat) (l : List UInt8) : List UInt8 := List.replicate (s + 1 - l.length) 48 ++ l
theorem pad_done (s : Nat) (l : List UInt8) (h : s < l.length) : pad s l = l := by
  unfold pad
  rw [show s + 1 - l.length = 0 by omega]; rfl
theorem pad_len (s : Nat) (l : List UInt8) : (pad s l).length = max (s + 1) l.length := by
  unfold pad
  rw [List.length_append, List.length_replicate]; omega
/-- The text of units of a scale. -/
def dtext (u : Int) (s : Nat) : List UInt8 :=
  (if u < 0 then [45] else []) ++ (if s = 0 then pad 0 (digs u.natAbs) else (pad s (digs u.natAbs)).take ((pad s (digs u.natAbs)).length - s) ++ 46 :: (pad s (digs u.natAbs)).drop ((pad s (digs u.natAbs)).length - s))

end Go.Proofs.YtibbenhplmmmiaaGreatDoor

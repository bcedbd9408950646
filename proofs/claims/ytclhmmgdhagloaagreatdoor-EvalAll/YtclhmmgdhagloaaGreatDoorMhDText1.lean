/-
  A text parted at its first point, as a list of bytes. Nothing of the program is in it.
  The library's CutPrefix and Cut at texts of one sign, and rightWhole and rightPart of package decimal: for every text.
  The document's Digits: the digits of a number.
-/
import Derived.Laws.Externs
import Derived.Test.YtclhmmgdhagloaaGreatDoorChecked
import Derived.Test.YtclhmmgdhagloaaGreatDoorMeDWide3
import Derived.WalkKit
import Derived.WalkSpells
import Derived.WalkLawsBesides
import Derived.Laws.IdiomStrings
import Derived.Deep.RegionWith
import Derived.Test.YtclhmmgdhagloaaGreatDoorDArith
namespace Go.Proofs.YtclhmmgdhagloaaGreatDoor

/-- A text parted at its first point. -/
def cutPt : List UInt8 → List UInt8 × List UInt8 × Bool
  | [] => ([], [], false)
  | c :: l => if c = 46 then ([], l, true) else (c :: (cutPt l).1, (cutPt l).2.1, (cutPt l).2.2)
def rightW (l : List UInt8) : Bool := !l.isEmpty && (l == [48] || !(l.head? == some 48))
def rightP (l : List UInt8) : Bool := !l.isEmpty && decide (l.length ≤ 6)
end Go.Proofs.YtclhmmgdhagloaaGreatDoor

namespace Go.Proofs.YtclhmmgdhagloaaGreatDoor
open Go.RowKit

end Go.Proofs.YtclhmmgdhagloaaGreatDoor

namespace Go.Proofs.YtclhmmgdhagloaaGreatDoor
open Go.RowKit
attribute [local go_sem] cell?_more frozen?_more setCell_more more_lt more_more more_drew more_drewN setCell_drewN alloc_drewN

/-- The digits of a number, the first one first. -/
def digs (u : Nat) : List UInt8 := if h : u < 10 then [UInt8.ofNat (48 + u)] else digs (u / 10) ++ [UInt8.ofNat (48 + u % 10)]
  termination_by u
  decreasing_by omega
end Go.Proofs.YtclhmmgdhagloaaGreatDoor

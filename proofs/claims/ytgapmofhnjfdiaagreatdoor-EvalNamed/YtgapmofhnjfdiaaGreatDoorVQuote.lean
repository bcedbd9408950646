/-
  The contracts of datum.quoted and datum.unquoted.
-/
import Derived.Test.YtgapmofhnjfdiaaGreatDoorMaLJumps
import Derived.WalkMore
namespace Go.Proofs.YtgapmofhnjfdiaaGreatDoor
open Go.RowKit

/-- A text within quotes, each quote within it twice. -/
def dbl (l : List UInt8) : List UInt8 := l.flatMap fun c => if c = 39 then [39, 39] else [c]
def quoL (l : List UInt8) : List UInt8 := 39 :: (dbl l ++ [39])

end Go.Proofs.YtgapmofhnjfdiaaGreatDoor

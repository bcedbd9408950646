/-
  The contracts of datum.quoted and datum.unquoted.
-/
import Derived.Test.YtclhmmgdhagloaaGreatDoorMaLJumps
import Derived.WalkMore
namespace Go.Proofs.YtclhmmgdhagloaaGreatDoor
open Go.RowKit

/-- What stands within quotes, each two of them as one, behind the first quote. -/
def unqL : List UInt8 → Option (List UInt8)
  | [] => none
  | c :: l => if c = 39 then (match l with
      | [] => some []
      | d :: l' => if d = 39 then (unqL l').map (39 :: ·) else none)
    else (unqL l).map (c :: ·)

/-- A text within quotes, each quote within it twice. -/
def dbl (l : List UInt8) : List UInt8 := l.flatMap fun c => if c = 39 then [39, 39] else [c]
def quoL (l : List UInt8) : List UInt8 := 39 :: (dbl l ++ [39])

end Go.Proofs.YtclhmmgdhagloaaGreatDoor

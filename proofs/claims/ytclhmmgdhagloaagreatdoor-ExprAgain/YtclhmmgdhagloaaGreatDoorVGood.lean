/-
  The contract of the document's Good: whether a text is good UTF-8, as the library's ValidString tells it.
-/
import Derived.Test.YtclhmmgdhagloaaGreatDoorProg
import Derived.WalkKit
import Derived.WalkMore
import Derived.WalkSpells
import Derived.WalkLawsBesides
import Derived.RowKit
import Derived.Below
import Derived.Laws.RangeAny
import Derived.Lib.TrimUEq
import Derived.Lib.ValidLaws
import Derived.Lib.OthersKept
import Derived.Laws.IdiomStrings
namespace Go.Proofs.YtclhmmgdhagloaaGreatDoor
open Go.RowKit

end Go.Proofs.YtclhmmgdhagloaaGreatDoor

/-
  The program's Print of a decimal that is not right: the empty text.
  The document's reading of a decimal's text, as a list of bytes; it answers as the program's does. Nothing of the program is in it.
-/
import Derived.Test.YtibbenhplmmmiaaGreatDoorDArith
import Derived.Test.YtibbenhplmmmiaaGreatDoorMrDText7
import Derived.Test.YtibbenhplmmmiaaGreatDoorDBackM
import Derived.Test.YtibbenhplmmmiaaGreatDoorDParse
namespace Go.Proofs.YtibbenhplmmmiaaGreatDoor
open Go.RowKit

end Go.Proofs.YtibbenhplmmmiaaGreatDoor

namespace Go.Proofs.YtibbenhplmmmiaaGreatDoor

end Go.Proofs.YtibbenhplmmmiaaGreatDoor

/-
  The program's Print of a decimal that is not right: the empty text.
-/
import Derived.Test.YtafmchgncahafaaGreatDoorDArith
import Derived.Test.YtafmchgncahafaaGreatDoorMuDParse
namespace Go.Proofs.YtafmchgncahafaaGreatDoor
open Go.RowKit

end Go.Proofs.YtafmchgncahafaaGreatDoor

/-
  The contract of lexer.told: the kind and the end of the token that stands at a place of a text.
-/
import Derived.Test.YtafmchgncahafaaGreatDoorMQLByte
import Derived.Test.YtafmchgncahafaaGreatDoorMgLJumps
namespace Go.Proofs.YtafmchgncahafaaGreatDoor
open Go.RowKit

theorem cast1 (k : Nat) : ((k + 1 : Nat) : Int) = (k : Int) + 1 := by omega
end Go.Proofs.YtafmchgncahafaaGreatDoor

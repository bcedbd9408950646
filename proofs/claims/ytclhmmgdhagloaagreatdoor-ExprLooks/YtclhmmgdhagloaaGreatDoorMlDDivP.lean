/-
  The program's Print of a decimal that is not right: the empty text.
  math/bits.LeadingZeros64 by the library's contract, laid at this program; what is known of the number of bits.
  Plain facts on a division of two words by a word, moved up: the names that the walk of math/bits.Div64 gives its numbers. Nothing of the program is in it.
-/
import Derived.Test.YtclhmmgdhagloaaGreatDoorDArith
import Derived.Test.YtclhmmgdhagloaaGreatDoorMjDParse
import Derived.Test.YtclhmmgdhagloaaGreatDoorMeDWide3
import Derived.Shelf.Small.Bits
import Derived.Laws.BitsAllLaws
import Derived.Laws.Bits64b
namespace Go.Proofs.YtclhmmgdhagloaaGreatDoor
open Go.RowKit

end Go.Proofs.YtclhmmgdhagloaaGreatDoor

namespace Go.Proofs.YtclhmmgdhagloaaGreatDoor
open Go.RowKit Go.Shelf

end Go.Proofs.YtclhmmgdhagloaaGreatDoor

namespace Go.Proofs.YtclhmmgdhagloaaGreatDoor
open Go.RowKit

end Go.Proofs.YtclhmmgdhagloaaGreatDoor

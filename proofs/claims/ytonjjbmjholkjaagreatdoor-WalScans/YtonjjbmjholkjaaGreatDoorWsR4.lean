/-
  The contracts of the document's answers longstopref01.Text, Record, Unrecord: what each call gives.
-/
import Derived.Test.YtonjjbmjholkjaaGreatDoorWsR3
import Derived.Deep.RegionWith
namespace Go.Proofs.YtonjjbmjholkjaaGreatDoor
open Go.RowKit

end Go.Proofs.YtonjjbmjholkjaaGreatDoor

/-
  The document's answers: Rescale.
-/
import Derived.Test.YtgapmofhnjfdiaaGreatDoorDRef7
import Derived.Test.YtgapmofhnjfdiaaGreatDoorMQDRound
import Derived.Test.YtgapmofhnjfdiaaGreatDoorDResc
import Derived.Test.YtgapmofhnjfdiaaGreatDoorMODRef6
import Derived.Test.YtgapmofhnjfdiaaGreatDoorDNeg
import Derived.Deep.RegionHeld2
import Derived.Deep.RegionWith
namespace Go.Proofs.YtgapmofhnjfdiaaGreatDoor
open Go.RowKit
attribute [local go_sem] cell?_more frozen?_more setCell_more more_lt more_more more_drew more_drewN setCell_drewN alloc_drewN
attribute [local go_sem high] cellMA frozenMA setMA cellMAM frozenMAM setMAM

end Go.Proofs.YtgapmofhnjfdiaaGreatDoor

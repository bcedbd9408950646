/-
  Ops of two Points: eval.ofPoints.
-/
import Derived.Test.YtclhmmgdhagloaaGreatDoorMSQNums
import Derived.Test.YtclhmmgdhagloaaGreatDoorMRHTurn
import Derived.Deep.Cut
namespace Go.Proofs.YtclhmmgdhagloaaGreatDoor
open Go.RowKit Go.Shelf
attribute [local go_sem] cell?_more frozen?_more setCell_more more_lt more_more more_drew more_drewN setCell_drewN alloc_drewN
attribute [local go_sem high] Ga.cellMA Ga.frozenMA Ga.setMA Ga.cellMAM Ga.frozenMAM Ga.setMAM Ga.cellMAA Ga.frozenMAA Ga.setMAA Ga.cellMAAM Ga.frozenMAAM Ga.setMAAM Ga.cellMAMA Ga.frozenMAMA Ga.setMAMA Ga.cellMAMAM Ga.frozenMAMAM Ga.setMAMAM Ga.cellMAMAMA Ga.frozenMAMAMA Ga.setMAMAMA Ga.cellMAMAMAM Ga.frozenMAMAMAM Ga.setMAMAMAM Ga.size_blank

end Go.Proofs.YtclhmmgdhagloaaGreatDoor

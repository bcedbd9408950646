/-
  The document's answers: Add, Sub, Neg.
-/
import Derived.Test.YtkfnmblfaaabkaaGreatDoorDRef7
import Derived.Test.YtkfnmblfaaabkaaGreatDoorDRef6
import Derived.Test.YtkfnmblfaaabkaaGreatDoorDNeg
import Derived.Deep.RegionHeld2
import Derived.Deep.RegionWith
namespace Go.Proofs.YtkfnmblfaaabkaaGreatDoor
open Go.RowKit
attribute [local go_sem] cell?_more frozen?_more setCell_more more_lt more_more more_drew more_drewN setCell_drewN alloc_drewN
attribute [local go_sem high] cellMA frozenMA setMA cellMAM frozenMAM setMAM

theorem sval_not (b : Bool) (m : Nat) : sval (!b) m = - sval b m := by cases b <;> simp [sval]

end Go.Proofs.YtkfnmblfaaabkaaGreatDoor

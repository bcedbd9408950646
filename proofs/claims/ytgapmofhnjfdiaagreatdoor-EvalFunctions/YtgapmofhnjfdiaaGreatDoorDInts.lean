/-
  AddInt and MulInt, the program's and the document's: the exact sum or product, if that is an int.
-/
import Derived.Test.YtgapmofhnjfdiaaGreatDoorDRef4
import Derived.Test.YtgapmofhnjfdiaaGreatDoorMQDRef6
import Derived.Test.YtgapmofhnjfdiaaGreatDoorMnDInt0
namespace Go.Proofs.YtgapmofhnjfdiaaGreatDoor
open Go.RowKit
attribute [local go_sem] cell?_more frozen?_more setCell_more more_lt more_more more_drew more_drewN setCell_drewN alloc_drewN

theorem low_of (u q r : Nat) (h : u < 18446744073709551616) (hq : q = u / 4294967296) (hr : r = u % 4294967296) : Low6 r q 0 0 0 0 ∧ val6 r q 0 0 0 0 = u := by
  refine ⟨⟨by omega, by omega, by decide, by decide, by decide, by decide⟩, ?_⟩
  unfold val6; omega

end Go.Proofs.YtgapmofhnjfdiaaGreatDoor

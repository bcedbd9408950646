/-
  The contracts of decimal.Div: for every two decimals and every scale.
-/
import Derived.Test.YtclhmmgdhagloaaGreatDoorDQuo
namespace Go.Proofs.YtclhmmgdhagloaaGreatDoor
open Go.RowKit
attribute [local go_sem] cell?_more frozen?_more setCell_more more_lt more_more more_drew more_drewN setCell_drewN alloc_drewN

/-- n by d, rounded, with its sign. -/
def rq (n d : Int) : Int := sval (!(decide (n < 0) == decide (d < 0))) (rnd n.natAbs d.natAbs)
/-- What Div reckons. -/
def dq (ua sa ub sb s : Int) : Int := if sa ≤ s + sb then rq (ua * (10 ^ (s + sb - sa).toNat : Nat)) ub else rq ua (ub * (10 ^ (sa - (s + sb)).toNat : Nat))

end Go.Proofs.YtclhmmgdhagloaaGreatDoor

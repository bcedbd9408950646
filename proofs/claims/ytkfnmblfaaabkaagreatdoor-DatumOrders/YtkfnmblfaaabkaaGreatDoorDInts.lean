/-
  AddInt and MulInt, the program's and the document's: the exact sum or product, if that is an int.
-/
import Derived.Test.YtkfnmblfaaabkaaGreatDoorDRef4
import Derived.Test.YtkfnmblfaaabkaaGreatDoorDRef5
import Derived.Test.YtkfnmblfaaabkaaGreatDoorDRef6
import Derived.Test.YtkfnmblfaaabkaaGreatDoorDWide3
namespace Go.Proofs.YtkfnmblfaaabkaaGreatDoor
open Go.RowKit
attribute [local go_sem] cell?_more frozen?_more setCell_more more_lt more_more more_drew more_drewN setCell_drewN alloc_drewN

/-- What is answered of a number: itself, if that is an int. -/
abbrev ires (z : Int) : Value := .tuple #[.int .i64 (nz z), .int .i64 (nErr z)]

theorem low_of (u q r : Nat) (h : u < 18446744073709551616) (hq : q = u / 4294967296) (hr : r = u % 4294967296) : Low6 r q 0 0 0 0 ∧ val6 r q 0 0 0 0 = u := by
  refine ⟨⟨by omega, by omega, by decide, by decide, by decide, by decide⟩, ?_⟩
  unfold val6; omega

end Go.Proofs.YtkfnmblfaaabkaaGreatDoor
